/- What a world as it is made is asked: its ledgers, their ends, an event. -/
import Derived.Test.YthamhdfkhhfmmabWorldAsk
import Derived.Great.BuildSlice
namespace Go.Proofs.Ythamhdfkhhfmmab.Wd
open Go Go.RowKit Conf Go.MapKept

theorem wl_0 {V : World} {B L0 L1 : Nat} (h : WdIs V B L0 L1) : Calls Try.prog 15 #[.pointer (some ⟨B, 0, none⟩), .int .i64 0] V fun e w' => e = .returned (.pointer (some ⟨L0, 0, none⟩)) ∧ w' = V := by
  have c := cell_of_row V B 0 _ _ (0, 0) h.box
  clear h
  go_enter Try.func15, Try.ntmps15
  go_wp2
  go_ret
  exact ⟨rfl, rfl⟩
theorem wl_1 {V : World} {B L0 L1 : Nat} (h : WdIs V B L0 L1) : Calls Try.prog 15 #[.pointer (some ⟨B, 0, none⟩), .int .i64 1] V fun e w' => e = .returned (.pointer (some ⟨L1, 0, none⟩)) ∧ w' = V := by
  have c := cell_of_row V B 1 _ _ (0, 0) h.box
  clear h
  go_enter Try.func15, Try.ntmps15
  go_wp2
  go_ret
  exact ⟨rfl, rfl⟩
theorem wl_no (p : Option Addr) (V : World) : Calls Try.prog 15 #[.pointer p, .int .i64 (-1)] V fun e w' => e = .returned (.pointer none) ∧ w' = V := by
  cases p
  all_goals
    go_enter Try.func15, Try.ntmps15
    go_wp2
    go_ret
    exact ⟨rfl, rfl⟩
theorem wl_nil (n : Int) (V : World) : Calls Try.prog 15 #[.pointer none, .int .i64 n] V fun e w' => e = .returned (.pointer none) ∧ w' = V := by
  go_enter Try.func15, Try.ntmps15
  go_wp2
  go_ret
  exact ⟨rfl, rfl⟩
theorem ll_nil (n : Int) (V : World) : Calls Try.prog 18 #[.pointer none, .int .i64 n] V fun e w' => e = .returned (.pointer none) ∧ w' = V := by
  go_enter Try.func18, Try.ntmps18
  go_wp2
  go_ret
  exact ⟨rfl, rfl⟩
/-- an end that was asked for: none, or one as it is made -/
def EndIs (V : World) (p : Option Addr) : Prop := p = none ∨ ∃ E M N sd o, p = some ⟨E, 0, none⟩ ∧ LnIs V E M N sd o
theorem EndIs.below {V V' : World} {p : Option Addr} (h : EndIs V p) (hb : Below V.heap.size V V') : EndIs V' p := h.imp id fun ⟨E, M, N, sd, o, h1, h2⟩ => ⟨E, M, N, sd, o, h1, h2.below hb⟩
theorem ll_any {V : World} {lo L : Nat} {sd : Int} (h : LgIs V lo L sd) (n : Int) (hn : 0 ≤ n) : ∃ p, EndIs V p ∧ ∀ V', Below V.heap.size V V' → Calls Try.prog 18 #[.pointer (some ⟨L, 0, none⟩), .int .i64 n] V' fun e w' => e = .returned (.pointer p) ∧ w' = V' := by
  obtain ⟨bk, pl, g, cap, S, h1, l1, l2, E, M, N, o, h2, h3, l3⟩ := h.box
  by_cases h0 : n = 0
  · subst h0
    refine ⟨some ⟨E, 0, none⟩, Or.inr ⟨E, M, N, sd, o, rfl, h3⟩, fun V' hb => ?_⟩
    have c5 := cell_of_row V' L 5 _ _ (0, 0) ((hb.block _ (lt_of h1)).trans h1)
    have cg := (hb.cell (p := ⟨g, 0, none⟩) (World.block_lt_of_cell? V _ h2)).trans h2
    clear h h1 h2 h3 hb
    go_enter Try.func18, Try.ntmps18
    go_wp2
    go_ret
    exact ⟨rfl, rfl⟩
  · refine ⟨none, Or.inl rfl, fun V' hb => ?_⟩
    have c5 := cell_of_row V' L 5 _ _ (0, 0) ((hb.block _ (lt_of h1)).trans h1)
    have hn1 : 1 ≤ n := by omega
    clear h h1 h2 h3 hb h0
    go_enter Try.func18, Try.ntmps18
    go_wp2
    go_ret
    exact ⟨rfl, rfl⟩
theorem closed_any {V : World} {p : Option Addr} (h : EndIs V p) : Calls Try.prog 19 #[.pointer p] V fun e w' => e = .returned (.bool false) ∧ w' = V := by
  rcases h with rfl | ⟨E, M, N, sd, o, rfl, h⟩
  · go_enter Try.func19, Try.ntmps19
    go_wp2
    go_ret
    exact ⟨rfl, rfl⟩
  · have c := cell_of_row V E 3 _ _ (0, 0) h.box
    clear h
    go_enter Try.func19, Try.ntmps19
    go_wp2
    go_ret
    exact ⟨rfl, rfl⟩
abbrev TSm : Nat := 65
def z32 : Array Value := (List.replicate 32 (Value.int .u8 0)).toArray
theorem z32_size : z32.size = 32 := by rfl
theorem z32_one : z32.all (·.oneCell') = true := by kernel_rfl
theorem zero_sum (W : World) : (zeroValue TSm).run Try.prog W = .ok (.agg z32) W := by kernel_rfl
theorem look0 (M : Nat) (x : Int) (V : World) (h : V.heap[M]? = some (.map #[] 0)) :
    (Instr.lookup 85 (.map (some M)) (.int .u64 x) true).run Try.prog V = .ok (.tuple #[.agg z32, .bool false]) V := by
  have hck : (Instr.checkKey true 10000 22 (.int .u64 x)).run Try.prog V = .ok () V := run_checkKey (d := .int .u64) Try.underlying22 (show IsKey (.int .u64) (.int .u64 x) from rfl) true 9999
  have hfk : (Instr.findKey 22 (.int .u64 x) []).run Try.prog V = .ok none V := by
    unfold Instr.findKey
    simp only [Sem.run_bind, run_underlying Try.underlying22, Result.andThen_ok]
    rfl
  unfold Instr.lookup
  simp only [Sem.run_bind, run_underlying Try.underlying85, Result.andThen_ok, MapKept.run_getObj_map h, Sem.run_pure]
  have he : (#[] : Array MapEntry).isEmpty = true := rfl
  rw [he, hck]
  simp only [Result.andThen_ok]
  rw [hfk]
  simp only [Result.andThen_ok, Sem.run_bind, zero_sum, Sem.run_pure]
  rfl
theorem below_setRow {B n : Nat} {a b : World} (h : Below B a b) (hn : B ≤ n) (cs : Array Value) : Below B a (b.setRow n cs) :=
  ⟨h.os, h.tape, h.output, Nat.le_trans h.size (by simp [World.setRow]), fun k hk => (setRow_other b n k cs (by omega)).trans (h.block k hk)⟩
theorem hst32 (V : World) (b : Nat) (cs : Array Value) (C : Array Value) (hC : C.size = 32) (hcs : cs.size = 32) (ho : C.all (·.oneCell') = true) (h : V.heap[b]? = some (.cells cs TSm (0, 0))) :
    (storeCells ⟨b, 0, none⟩ C.toList).run Try.prog V = .ok () (V.setRow b C) := by
  have h := run_storeCells_at (P := Try.prog) b 0 TSm C.toList 0 cs V h (by rw [Array.length_toList, hC, hcs]; decide) (fun u hu => (Array.all_eq_true'.1 ho) u (by simpa using hu))
  simp only [Nat.add_zero, List.take_zero, List.nil_append, Nat.zero_add] at h
  rw [h, List.drop_of_length_le (by rw [Array.length_toList, hcs, Array.length_toList, hC]; exact Nat.le_refl _), List.append_nil]
theorem i32 (C : Array Value) (h : C.size = 32) : (Try.prog.info? TSm).map (·.size) = some C.size := by rw [h]; kernel_rfl
theorem res_cb {fn : Func} {p q : Tmp} {ty : TypeId} (h : fn.results = #[.cell p ty, .tmp q]) (tmps : Array Value) (w : World) (g : Nat) (cs : Array Value)
    (hp : tmps.getD p undef = .pointer (some ⟨g, 0, none⟩)) (hl : (loadVar ty ⟨g, 0, none⟩).run Try.prog w = .ok (.agg cs) w) :
    (results fn tmps).run Try.prog w = .ok (.tuple #[.agg cs, tmps.getD q undef]) w := by
  have hp' : tmps[p]?.getD undef = .pointer (some ⟨g, 0, none⟩) := by simpa using hp
  simp [results, h, hp', asAddr, hl]
set_option maxRecDepth 20000 in
set_option maxHeartbeats 2000000 in
theorem commit_any {V : World} {p : Option Addr} (h : EndIs V p) (s : Int) : Calls Try.prog 20 #[.pointer p, .int .u64 s] V fun e w' => e = .returned (.tuple #[.agg z32, .bool false]) ∧ Below V.heap.size V w' := by
  obtain ⟨C, hC⟩ : ∃ C, C = z32 := ⟨_, rfl⟩
  have hCs : C.size = 32 := by rw [hC]; rfl
  have hCo : C.all (·.oneCell') = true := by rw [hC]; exact z32_one
  have hlk := fun M V h => hC ▸ look0 M s V h
  have hRz := heap_alloc_new V (.cells #[.int .u8 0, .int .u8 0, .int .u8 0, .int .u8 0, .int .u8 0, .int .u8 0, .int .u8 0, .int .u8 0, .int .u8 0, .int .u8 0, .int .u8 0, .int .u8 0, .int .u8 0, .int .u8 0, .int .u8 0, .int .u8 0, .int .u8 0, .int .u8 0, .int .u8 0, .int .u8 0, .int .u8 0, .int .u8 0, .int .u8 0, .int .u8 0, .int .u8 0, .int .u8 0, .int .u8 0, .int .u8 0, .int .u8 0, .int .u8 0, .int .u8 0, .int .u8 0] TSm)
  have hR : (V.alloc (.cells #[.int .u8 0, .int .u8 0, .int .u8 0, .int .u8 0, .int .u8 0, .int .u8 0, .int .u8 0, .int .u8 0, .int .u8 0, .int .u8 0, .int .u8 0, .int .u8 0, .int .u8 0, .int .u8 0, .int .u8 0, .int .u8 0, .int .u8 0, .int .u8 0, .int .u8 0, .int .u8 0, .int .u8 0, .int .u8 0, .int .u8 0, .int .u8 0, .int .u8 0, .int .u8 0, .int .u8 0, .int .u8 0, .int .u8 0, .int .u8 0, .int .u8 0, .int .u8 0] TSm)).heap[V.heap.size]? = some (.cells C TSm (0, 0)) := by rw [hC]; exact hRz
  have hb := (Below.refl V.heap.size V).alloc (Nat.le_refl _) (.cells #[.int .u8 0, .int .u8 0, .int .u8 0, .int .u8 0, .int .u8 0, .int .u8 0, .int .u8 0, .int .u8 0, .int .u8 0, .int .u8 0, .int .u8 0, .int .u8 0, .int .u8 0, .int .u8 0, .int .u8 0, .int .u8 0, .int .u8 0, .int .u8 0, .int .u8 0, .int .u8 0, .int .u8 0, .int .u8 0, .int .u8 0, .int .u8 0, .int .u8 0, .int .u8 0, .int .u8 0, .int .u8 0, .int .u8 0, .int .u8 0, .int .u8 0, .int .u8 0] TSm)
  rw [← hC]
  have HZ := Lib.hid (fun W => hC ▸ zero_sum W)
  have HC := Lib.hid (And.intro hCs hCo)
  have HLk := Lib.hid hlk
  have hE := h.below hb
  obtain ⟨w0, hw0⟩ : ∃ X, X = V.alloc (.cells #[.int .u8 0, .int .u8 0, .int .u8 0, .int .u8 0, .int .u8 0, .int .u8 0, .int .u8 0, .int .u8 0, .int .u8 0, .int .u8 0, .int .u8 0, .int .u8 0, .int .u8 0, .int .u8 0, .int .u8 0, .int .u8 0, .int .u8 0, .int .u8 0, .int .u8 0, .int .u8 0, .int .u8 0, .int .u8 0, .int .u8 0, .int .u8 0, .int .u8 0, .int .u8 0, .int .u8 0, .int .u8 0, .int .u8 0, .int .u8 0, .int .u8 0, .int .u8 0] TSm) := ⟨_, rfl⟩
  rw [← hw0] at hR hb hE
  have H0 := Lib.hid (And.intro hR hb)
  clear hRz hR hb hC hCo h hlk
  rcases hE with rfl | ⟨E, M, N, sd, o, rfl, hE⟩
  · go_enter Try.func20, Try.ntmps20
    go_upto_region 2 with fail
    rw [← hw0]
    clear hw0
    have hzv : (zeroValue TSm).run Try.prog w0 = .ok (.agg C) w0 := HZ.out w0
    have hst := hst32 w0 V.heap.size C C HC.out.1 HC.out.1 HC.out.2 H0.out.1
    have HR' := setRow_heap w0 V.heap.size _ C TSm (0, 0) H0.out.1
    have HB9 := below_setRow H0.out.2 (Nat.le_refl _) C
    obtain ⟨w9, hw9⟩ : ∃ X, X = w0.setRow V.heap.size C := ⟨_, rfl⟩
    rw [← hw9] at hst HR' HB9
    clear hw9
    go_wp2_with fail
    refine bodyPost_ret (v := .tuple #[.agg C, .bool false]) (res_cb Try.results20 _ _ V.heap.size C rfl (run_loadVar_row w9 V.heap.size TSm TSm C (0, 0) _ HR' Try.underlying65 rfl (i32 C HC.out.1))) rfl ⟨rfl, HB9⟩
  · have c7 := cell_of_row w0 E 7 _ _ (0, 0) hE.box
    have hlk := HLk.out M w0 hE.com
    go_enter Try.func20, Try.ntmps20
    go_upto_region 3 with fail
    rw [← hw0]
    clear hw0
    have hst := run_storeCells_new (P := Try.prog) w0 TSm #[.int .u8 0, .int .u8 0, .int .u8 0, .int .u8 0, .int .u8 0, .int .u8 0, .int .u8 0, .int .u8 0, .int .u8 0, .int .u8 0, .int .u8 0, .int .u8 0, .int .u8 0, .int .u8 0, .int .u8 0, .int .u8 0, .int .u8 0, .int .u8 0, .int .u8 0, .int .u8 0, .int .u8 0, .int .u8 0, .int .u8 0, .int .u8 0, .int .u8 0, .int .u8 0, .int .u8 0, .int .u8 0, .int .u8 0, .int .u8 0, .int .u8 0, .int .u8 0] C (i32 C HC.out.1) (by rw [HC.out.1]; rfl) HC.out.2
    go_upto_region 4 with fail
    have hx := heap_alloc_new w0 (.cells C TSm)
    have hr := (Below.heap_alloc w0 (.cells C TSm) V.heap.size (lt_of H0.out.1)).trans H0.out.1
    have hb := H0.out.2.alloc H0.out.2.size (.cells C TSm)
    obtain ⟨w2, hw2⟩ : ∃ X, X = w0.alloc (.cells C TSm) := ⟨_, rfl⟩
    obtain ⟨G, hG⟩ : ∃ X, X = w0.heap.size := ⟨_, rfl⟩
    rw [← hw2] at hx hr hb ⊢
    rw [← hG] at hx ⊢
    clear hst hw2 hG hlk c7 hE
    refine wp_region_lit ?_
    refine wpList_load_row rfl TSm _ rfl G rfl TSm C (0, 0) _ hx Try.underlying65 rfl (i32 C HC.out.1) ?_
    refine wpList_step (fun K hK => ?_)
    go_simp
    refine hK _ _ ?_
    clear hK K
    refine wpList_store_rowTo rfl TSm _ _ rfl rfl V.heap.size C rfl rfl TSm _ hr (i32 C HC.out.1) rfl HC.out.2 ?_
    refine wpList_step (fun K hK => ?_)
    go_simp
    refine hK _ _ ?_
    clear hK K
    refine wpList_nil ?_
    have HR' := setRow_heap w2 V.heap.size _ C TSm (0, 0) hr
    have HB9 := below_setRow hb (Nat.le_refl _) C
    obtain ⟨w9, hw9⟩ : ∃ X, X = w2.setRow V.heap.size C := ⟨_, rfl⟩
    rw [← hw9] at HR' HB9 ⊢
    clear hw9
    go_wp2_with fail
    refine bodyPost_ret (v := .tuple #[.agg C, .bool false]) (res_cb Try.results20 _ _ V.heap.size C rfl (run_loadVar_row w9 V.heap.size TSm TSm C (0, 0) _ HR' Try.underlying65 rfl (i32 C HC.out.1))) rfl ⟨rfl, HB9⟩
end Go.Proofs.Ythamhdfkhhfmmab.Wd
