/- line: what an end in whatever state is asked. -/
import Derived.Test.YtdljphbfbiganaaGreatDoorLgSend
namespace Go.Proofs.YtdljphbfbiganaaGreatDoor.Lg
open Go Go.RowKit Packet Ln Mg
set_option linter.unusedVariables false

/-- a number's sum -/
def sumOf (k : Int) (l : List (Int × Array Value)) : Array Value := (lk k l).getD zs32
theorem sumOf_ok {k : Int} {l : List (Int × Array Value)} (h : ∀ x ∈ l, SumOk x.2) : SumOk (sumOf k l) := by
  unfold sumOf
  cases hl : lk k l with
  | none => exact sumOk_zero
  | some C => exact h _ (lk_some hl)
theorem look_g (k : Int) (B : Nat) (l : List (Int × Array Value)) (W : World) (h : MG KS W B l) :
    (Instr.lookup TMp (.map (some B)) (.int .u64 k) true).run Tryz.prog W = .ok (.tuple #[.agg (sumOf k l), .bool (lk k l).isSome]) W := by
  have := look_run ks_ok k B l W h
  have e : ((lk k l).map KS.vv).getD KS.zv = .agg (sumOf k l) := by unfold sumOf; cases lk k l <;> rfl
  rw [e] at this
  exact this
set_option maxRecDepth 20000 in
set_option maxHeartbeats 2000000 in
theorem commit_g {V : World} {E M N : Nat} {s : St} (k : Int) (hL : LG V E M N s) : Calls Tryz.prog 38 #[.pointer (some ⟨E, 0, none⟩), .int .u64 k] V fun e w' => e = .returned (.tuple #[.agg (sumOf k s.cm), .bool (lk k s.cm).isSome]) ∧ Below V.heap.size V w' := by
  have hCs := sumOf_ok (k := k) hL.cok
  have hlk := fun W (hW : LG W E M N s) => look_g k M s.cm W hW.com
  obtain ⟨C, hC⟩ : ∃ C, C = sumOf k s.cm := ⟨_, rfl⟩
  rw [← hC] at hCs ⊢
  simp only [← hC] at hlk
  obtain ⟨Zz, hZ⟩ : ∃ Zz, Zz = zs32 := ⟨_, rfl⟩
  have hZs : Zz.size = 32 := by rw [hZ]; rfl
  have hRz := heap_alloc_new V (.cells #[.int .u8 0, .int .u8 0, .int .u8 0, .int .u8 0, .int .u8 0, .int .u8 0, .int .u8 0, .int .u8 0, .int .u8 0, .int .u8 0, .int .u8 0, .int .u8 0, .int .u8 0, .int .u8 0, .int .u8 0, .int .u8 0, .int .u8 0, .int .u8 0, .int .u8 0, .int .u8 0, .int .u8 0, .int .u8 0, .int .u8 0, .int .u8 0, .int .u8 0, .int .u8 0, .int .u8 0, .int .u8 0, .int .u8 0, .int .u8 0, .int .u8 0, .int .u8 0] TSm)
  have hR : (V.alloc (.cells #[.int .u8 0, .int .u8 0, .int .u8 0, .int .u8 0, .int .u8 0, .int .u8 0, .int .u8 0, .int .u8 0, .int .u8 0, .int .u8 0, .int .u8 0, .int .u8 0, .int .u8 0, .int .u8 0, .int .u8 0, .int .u8 0, .int .u8 0, .int .u8 0, .int .u8 0, .int .u8 0, .int .u8 0, .int .u8 0, .int .u8 0, .int .u8 0, .int .u8 0, .int .u8 0, .int .u8 0, .int .u8 0, .int .u8 0, .int .u8 0, .int .u8 0, .int .u8 0] TSm)).heap[V.heap.size]? = some (.cells Zz TSm (0, 0)) := by rw [hZ]; exact hRz
  have hb := (Below.refl V.heap.size V).alloc (Nat.le_refl _) (.cells #[.int .u8 0, .int .u8 0, .int .u8 0, .int .u8 0, .int .u8 0, .int .u8 0, .int .u8 0, .int .u8 0, .int .u8 0, .int .u8 0, .int .u8 0, .int .u8 0, .int .u8 0, .int .u8 0, .int .u8 0, .int .u8 0, .int .u8 0, .int .u8 0, .int .u8 0, .int .u8 0, .int .u8 0, .int .u8 0, .int .u8 0, .int .u8 0, .int .u8 0, .int .u8 0, .int .u8 0, .int .u8 0, .int .u8 0, .int .u8 0, .int .u8 0, .int .u8 0] TSm)
  have HC := Lib.hid hCs
  have HZs := Lib.hid hZs
  have HLk := Lib.hid hlk
  have hE := hL.below hb
  obtain ⟨w0, hw0⟩ : ∃ X, X = V.alloc (.cells #[.int .u8 0, .int .u8 0, .int .u8 0, .int .u8 0, .int .u8 0, .int .u8 0, .int .u8 0, .int .u8 0, .int .u8 0, .int .u8 0, .int .u8 0, .int .u8 0, .int .u8 0, .int .u8 0, .int .u8 0, .int .u8 0, .int .u8 0, .int .u8 0, .int .u8 0, .int .u8 0, .int .u8 0, .int .u8 0, .int .u8 0, .int .u8 0, .int .u8 0, .int .u8 0, .int .u8 0, .int .u8 0, .int .u8 0, .int .u8 0, .int .u8 0, .int .u8 0] TSm) := ⟨_, rfl⟩
  rw [← hw0] at hR hb hE
  have H0 := Lib.hid (And.intro hR hb)
  clear hRz hR hb hC hlk hL hCs hZs hZ
  have c7 := cell_of_row w0 E 7 _ _ (0, 0) hE.box
  have hlk := HLk.out w0 hE
  clear hE
  go_enter Tryz.func38, Tryz.ntmps38
  go_upto_region 3 with fail
  rw [← hw0]
  clear hw0
  have hst := run_storeCells_new (P := Tryz.prog) w0 TSm #[.int .u8 0, .int .u8 0, .int .u8 0, .int .u8 0, .int .u8 0, .int .u8 0, .int .u8 0, .int .u8 0, .int .u8 0, .int .u8 0, .int .u8 0, .int .u8 0, .int .u8 0, .int .u8 0, .int .u8 0, .int .u8 0, .int .u8 0, .int .u8 0, .int .u8 0, .int .u8 0, .int .u8 0, .int .u8 0, .int .u8 0, .int .u8 0, .int .u8 0, .int .u8 0, .int .u8 0, .int .u8 0, .int .u8 0, .int .u8 0, .int .u8 0, .int .u8 0] C (i32 C HC.out.1) (by rw [HC.out.1]; rfl) HC.out.2.1
  have hCz := HC.out.1
  go_upto_region 4 with fail
  have hx := heap_alloc_new w0 (.cells C TSm)
  have hr := (Below.heap_alloc w0 (.cells C TSm) V.heap.size (lt_of H0.out.1)).trans H0.out.1
  have hb := H0.out.2.alloc H0.out.2.size (.cells C TSm)
  obtain ⟨w2, hw2⟩ : ∃ X, X = w0.alloc (.cells C TSm) := ⟨_, rfl⟩
  obtain ⟨G, hG⟩ : ∃ X, X = w0.heap.size := ⟨_, rfl⟩
  rw [← hw2] at hx hr hb ⊢
  rw [← hG] at hx ⊢
  clear hst hw2 hG hlk c7
  refine wp_region_lit ?_
  refine wpList_load_row rfl TSm _ rfl G rfl TSm C (0, 0) _ hx Tryz.underlying58 rfl (i32 C HC.out.1) ?_
  refine wpList_step (fun K hK => ?_)
  go_simp
  refine hK _ _ ?_
  clear hK K
  refine wpList_store_rowTo rfl TSm _ _ rfl rfl V.heap.size C rfl rfl TSm _ hr (i32 C HC.out.1) (by rw [HC.out.1, HZs.out]) HC.out.2.1 ?_
  refine wpList_step (fun K hK => ?_)
  go_simp
  refine hK _ _ ?_
  clear hK K
  refine wpList_nil ?_
  have HR' := setRow_heap w2 V.heap.size _ C TSm (0, 0) hr
  have HB9 := Ln.below_setRow hb (Nat.le_refl _) C
  obtain ⟨w9, hw9⟩ : ∃ X, X = w2.setRow V.heap.size C := ⟨_, rfl⟩
  rw [← hw9] at HR' HB9 ⊢
  clear hw9
  go_wp2_with fail
  refine bodyPost_ret (v := .tuple #[.agg C, .bool (lk k s.cm).isSome]) (res_cb Tryz.results38 _ _ V.heap.size C rfl (run_loadVar_row w9 V.heap.size TSm TSm C (0, 0) _ HR' Tryz.underlying58 rfl (i32 C HC.out.1))) rfl ⟨rfl, HB9⟩
set_option maxRecDepth 20000 in
set_option maxHeartbeats 2000000 in
theorem acked_g {V : World} {E M N : Nat} {s : St} (k : Int) (hL : LG V E M N s) : Calls Tryz.prog 39 #[.pointer (some ⟨E, 0, none⟩), .int .u64 k] V fun e w' => e = .returned (.tuple #[.agg (sumOf k s.ac), .bool (lk k s.ac).isSome]) ∧ Below V.heap.size V w' := by
  have hCs := sumOf_ok (k := k) hL.aok
  have hlk := fun W (hW : LG W E M N s) => look_g k N s.ac W hW.ack
  obtain ⟨C, hC⟩ : ∃ C, C = sumOf k s.ac := ⟨_, rfl⟩
  rw [← hC] at hCs ⊢
  simp only [← hC] at hlk
  obtain ⟨Zz, hZ⟩ : ∃ Zz, Zz = zs32 := ⟨_, rfl⟩
  have hZs : Zz.size = 32 := by rw [hZ]; rfl
  have hRz := heap_alloc_new V (.cells #[.int .u8 0, .int .u8 0, .int .u8 0, .int .u8 0, .int .u8 0, .int .u8 0, .int .u8 0, .int .u8 0, .int .u8 0, .int .u8 0, .int .u8 0, .int .u8 0, .int .u8 0, .int .u8 0, .int .u8 0, .int .u8 0, .int .u8 0, .int .u8 0, .int .u8 0, .int .u8 0, .int .u8 0, .int .u8 0, .int .u8 0, .int .u8 0, .int .u8 0, .int .u8 0, .int .u8 0, .int .u8 0, .int .u8 0, .int .u8 0, .int .u8 0, .int .u8 0] TSm)
  have hR : (V.alloc (.cells #[.int .u8 0, .int .u8 0, .int .u8 0, .int .u8 0, .int .u8 0, .int .u8 0, .int .u8 0, .int .u8 0, .int .u8 0, .int .u8 0, .int .u8 0, .int .u8 0, .int .u8 0, .int .u8 0, .int .u8 0, .int .u8 0, .int .u8 0, .int .u8 0, .int .u8 0, .int .u8 0, .int .u8 0, .int .u8 0, .int .u8 0, .int .u8 0, .int .u8 0, .int .u8 0, .int .u8 0, .int .u8 0, .int .u8 0, .int .u8 0, .int .u8 0, .int .u8 0] TSm)).heap[V.heap.size]? = some (.cells Zz TSm (0, 0)) := by rw [hZ]; exact hRz
  have hb := (Below.refl V.heap.size V).alloc (Nat.le_refl _) (.cells #[.int .u8 0, .int .u8 0, .int .u8 0, .int .u8 0, .int .u8 0, .int .u8 0, .int .u8 0, .int .u8 0, .int .u8 0, .int .u8 0, .int .u8 0, .int .u8 0, .int .u8 0, .int .u8 0, .int .u8 0, .int .u8 0, .int .u8 0, .int .u8 0, .int .u8 0, .int .u8 0, .int .u8 0, .int .u8 0, .int .u8 0, .int .u8 0, .int .u8 0, .int .u8 0, .int .u8 0, .int .u8 0, .int .u8 0, .int .u8 0, .int .u8 0, .int .u8 0] TSm)
  have HC := Lib.hid hCs
  have HZs := Lib.hid hZs
  have HLk := Lib.hid hlk
  have hE := hL.below hb
  obtain ⟨w0, hw0⟩ : ∃ X, X = V.alloc (.cells #[.int .u8 0, .int .u8 0, .int .u8 0, .int .u8 0, .int .u8 0, .int .u8 0, .int .u8 0, .int .u8 0, .int .u8 0, .int .u8 0, .int .u8 0, .int .u8 0, .int .u8 0, .int .u8 0, .int .u8 0, .int .u8 0, .int .u8 0, .int .u8 0, .int .u8 0, .int .u8 0, .int .u8 0, .int .u8 0, .int .u8 0, .int .u8 0, .int .u8 0, .int .u8 0, .int .u8 0, .int .u8 0, .int .u8 0, .int .u8 0, .int .u8 0, .int .u8 0] TSm) := ⟨_, rfl⟩
  rw [← hw0] at hR hb hE
  have H0 := Lib.hid (And.intro hR hb)
  clear hRz hR hb hC hlk hL hCs hZs hZ
  have c7 := cell_of_row w0 E 8 _ _ (0, 0) hE.box
  have hlk := HLk.out w0 hE
  clear hE
  go_enter Tryz.func39, Tryz.ntmps39
  go_upto_region 3 with fail
  rw [← hw0]
  clear hw0
  have hst := run_storeCells_new (P := Tryz.prog) w0 TSm #[.int .u8 0, .int .u8 0, .int .u8 0, .int .u8 0, .int .u8 0, .int .u8 0, .int .u8 0, .int .u8 0, .int .u8 0, .int .u8 0, .int .u8 0, .int .u8 0, .int .u8 0, .int .u8 0, .int .u8 0, .int .u8 0, .int .u8 0, .int .u8 0, .int .u8 0, .int .u8 0, .int .u8 0, .int .u8 0, .int .u8 0, .int .u8 0, .int .u8 0, .int .u8 0, .int .u8 0, .int .u8 0, .int .u8 0, .int .u8 0, .int .u8 0, .int .u8 0] C (i32 C HC.out.1) (by rw [HC.out.1]; rfl) HC.out.2.1
  have hCz := HC.out.1
  go_upto_region 4 with fail
  have hx := heap_alloc_new w0 (.cells C TSm)
  have hr := (Below.heap_alloc w0 (.cells C TSm) V.heap.size (lt_of H0.out.1)).trans H0.out.1
  have hb := H0.out.2.alloc H0.out.2.size (.cells C TSm)
  obtain ⟨w2, hw2⟩ : ∃ X, X = w0.alloc (.cells C TSm) := ⟨_, rfl⟩
  obtain ⟨G, hG⟩ : ∃ X, X = w0.heap.size := ⟨_, rfl⟩
  rw [← hw2] at hx hr hb ⊢
  rw [← hG] at hx ⊢
  clear hst hw2 hG hlk c7
  refine wp_region_lit ?_
  refine wpList_load_row rfl TSm _ rfl G rfl TSm C (0, 0) _ hx Tryz.underlying58 rfl (i32 C HC.out.1) ?_
  refine wpList_step (fun K hK => ?_)
  go_simp
  refine hK _ _ ?_
  clear hK K
  refine wpList_store_rowTo rfl TSm _ _ rfl rfl V.heap.size C rfl rfl TSm _ hr (i32 C HC.out.1) (by rw [HC.out.1, HZs.out]) HC.out.2.1 ?_
  refine wpList_step (fun K hK => ?_)
  go_simp
  refine hK _ _ ?_
  clear hK K
  refine wpList_nil ?_
  have HR' := setRow_heap w2 V.heap.size _ C TSm (0, 0) hr
  have HB9 := Ln.below_setRow hb (Nat.le_refl _) C
  obtain ⟨w9, hw9⟩ : ∃ X, X = w2.setRow V.heap.size C := ⟨_, rfl⟩
  rw [← hw9] at HR' HB9 ⊢
  clear hw9
  go_wp2_with fail
  refine bodyPost_ret (v := .tuple #[.agg C, .bool (lk k s.ac).isSome]) (res_cb Tryz.results39 _ _ V.heap.size C rfl (run_loadVar_row w9 V.heap.size TSm TSm C (0, 0) _ HR' Tryz.underlying58 rfl (i32 C HC.out.1))) rfl ⟨rfl, HB9⟩
set_option maxRecDepth 20000 in
set_option maxHeartbeats 2000000 in
theorem received_g {V : World} {E M N : Nat} {s : St} (k : Int) (hL : LG V E M N s) : Calls Tryz.prog 25 #[.pointer (some ⟨E, 0, none⟩), .int .u64 k] V fun e w' => e = .returned (.bool (lk k s.ac).isSome) ∧ Below V.heap.size V w' := by
  have HA := acked_g k hL
  have hCs := sumOf_ok (k := k) hL.aok
  generalize sumOf k s.ac = C at HA hCs
  have HA := Lib.hid HA
  have HC := Lib.hid hCs
  have hCz := hCs.1
  clear hL hCs
  go_enter Tryz.func25, Tryz.ntmps25
  go_wp2_with fail
  refine HA.out.mono ?_
  rintro _ w1 ⟨rfl, b1⟩
  have hst := run_storeCells_new (P := Tryz.prog) w1 TSm #[.int .u8 0, .int .u8 0, .int .u8 0, .int .u8 0, .int .u8 0, .int .u8 0, .int .u8 0, .int .u8 0, .int .u8 0, .int .u8 0, .int .u8 0, .int .u8 0, .int .u8 0, .int .u8 0, .int .u8 0, .int .u8 0, .int .u8 0, .int .u8 0, .int .u8 0, .int .u8 0, .int .u8 0, .int .u8 0, .int .u8 0, .int .u8 0, .int .u8 0, .int .u8 0, .int .u8 0, .int .u8 0, .int .u8 0, .int .u8 0, .int .u8 0, .int .u8 0] C (i32 C HC.out.1) (by rw [HC.out.1]; rfl) HC.out.2.1
  go_wp2
  go_ret
  exact ⟨rfl, b1.alloc b1.size _⟩
end Go.Proofs.YtdljphbfbiganaaGreatDoor.Lg
