import Derived.Test.YtdljphbfbiganaaGreatDoorTk
import Derived.Test.YtdljphbfbiganaaGreatDoorGNumRef
import Derived.Deep.CutBlock
import Derived.Deep.DeepCutAuto
import Derived.Great.BuildSlice
import Derived.MapKept
/- line: an end's box, and what its small functions need. -/
namespace Go.Proofs.YtdljphbfbiganaaGreatDoor.Ln
open Go Go.RowKit Packet
set_option linter.unusedVariables false

abbrev TPk : Nat := 33
abbrev TSm : Nat := 58
abbrev TLn : Nat := 51
abbrev TMp : Nat := 49
abbrev zs32 : Array Value := Sha.zero32
theorem heap_at (w : World) (o : Obj) (n : Nat) (h : n = w.heap.size) : (w.alloc o).heap[n]? = some o := by rw [h]; exact heap_alloc_new w o
theorem lt_of {w : World} {g : Nat} {o : Obj} (h : w.heap[g]? = some o) : g < w.heap.size := (Array.getElem?_eq_some_iff.1 h).1
theorem zero_sum (W : World) : (zeroValue TSm).run Tryz.prog W = .ok (.agg zs32) W := by kernel_rfl
theorem below_setRow {B n : Nat} {a b : World} (h : Below B a b) (hn : B ≤ n) (cs : Array Value) : Below B a (b.setRow n cs) :=
  ⟨h.os, h.tape, h.output, Nat.le_trans h.size (by simp [World.setRow]), fun k hk => (setRow_other b n k cs (by omega)).trans (h.block k hk)⟩
theorem hst32 (V : World) (b : Nat) (cs : Array Value) (C : Array Value) (hC : C.size = 32) (hcs : cs.size = 32) (ho : C.all (·.oneCell') = true) (h : V.heap[b]? = some (.cells cs TSm (0, 0))) :
    (storeCells ⟨b, 0, none⟩ C.toList).run Tryz.prog V = .ok () (V.setRow b C) := by
  have h := run_storeCells_at (P := Tryz.prog) b 0 TSm C.toList 0 cs V h (by rw [Array.length_toList, hC, hcs]; decide) (fun u hu => (Array.all_eq_true'.1 ho) u (by simpa using hu))
  simp only [Nat.add_zero, List.take_zero, List.nil_append, Nat.zero_add] at h
  rw [h, List.drop_of_length_le (by rw [Array.length_toList, hcs, Array.length_toList, hC]; exact Nat.le_refl _), List.append_nil]
theorem i32 (C : Array Value) (h : C.size = 32) : (Tryz.prog.info? TSm).map (·.size) = some C.size := by rw [h]; kernel_rfl
theorem res_cb {fn : Func} {p q : Tmp} {ty : TypeId} (h : fn.results = #[.cell p ty, .tmp q]) (tmps : Array Value) (w : World) (g : Nat) (cs : Array Value)
    (hp : tmps.getD p undef = .pointer (some ⟨g, 0, none⟩)) (hl : (loadVar ty ⟨g, 0, none⟩).run Tryz.prog w = .ok (.agg cs) w) :
    (results fn tmps).run Tryz.prog w = .ok (.tuple #[.agg cs, tmps.getD q undef]) w := by
  have hp' : tmps[p]?.getD undef = .pointer (some ⟨g, 0, none⟩) := by simpa using hp
  simp [results, h, hp', asAddr, hl]
/-- the end that New(0, 0, false) makes -/
structure LnIs (V : World) (E M N : Nat) (n : Int) : Prop where
  box : V.heap[E]? = some (.cells #[.int .i64 0, .int .i64 0, .bool false, .bool false, .int .u64 n, .int .u64 1, .int .u64 1, .map (some M), .map (some N)] TLn (0, 0))
  lm : M < V.heap.size
  ne : M ≠ E
theorem LnIs.below {V V' : World} {E M N : Nat} {n : Int} (h : LnIs V E M N n) (hb : Below V.heap.size V V') : LnIs V' E M N n :=
  ⟨(hb.block _ (lt_of h.box)).trans h.box, Nat.lt_of_lt_of_le h.lm hb.size, h.ne⟩
set_option maxRecDepth 100000 in
set_option maxHeartbeats 1000000 in
theorem line_new (W : World) :
    Calls Tryz.prog 6 #[.int .i64 0, .int .i64 0, .bool false] W fun e w' => (∃ E M N, e = .returned (.tuple #[.pointer (some ⟨E, 0, none⟩), .int .i64 0]) ∧ LnIs w' E M N 1 ∧ w'.heap[M]? = some (.map #[] 0) ∧ W.heap.size ≤ E ∧ W.heap.size ≤ M) ∧ Below W.heap.size W w' := by
  have hmm := @run_makeMap Tryz.prog
  go_enter Tryz.func6, Tryz.ntmps6
  go_wp2
  go_ret2
  have hM : ((((W.alloc (.map #[] 0)).alloc (.map #[] 0)).alloc (.cells #[.int .i64 0, .int .i64 0, .bool false, .bool false, .int .u64 1, .int .u64 1, .int .u64 1, .map (some W.heap.size), .map (some (W.heap.size + 1))] TLn)).heap[W.heap.size]?) = some (.map #[] 0) := by
    rw [Below.heap_alloc _ _ _ (by simp; omega), Below.heap_alloc _ _ _ (by simp)]
    exact heap_alloc_new W _
  exact ⟨⟨W.heap.size + 2, W.heap.size, W.heap.size + 1, rfl, ⟨heap_at _ _ _ (by simp), lt_of hM, by omega⟩, hM, by omega, Nat.le_refl _⟩, (((Below.refl _ _).alloc (Nat.le_refl _) _).alloc (by simp) _).alloc (by simp; omega) _⟩
theorem made_nil (W : World) : Calls Tryz.prog 18 #[.pointer none] W fun e w' => e = .returned (.bool false) ∧ w' = W := by
  go_enter Tryz.func18, Tryz.ntmps18
  go_wp2
  go_ret
  exact ⟨rfl, rfl⟩
set_option maxRecDepth 100000 in
theorem map_ne (M : Nat) (W : World) : (binOp .neq TMp (.map (some M)) (.map none)).run Tryz.prog W = .ok (.bool true) W := by kernel_rfl
set_option maxRecDepth 100000 in
theorem made_yes {W : World} {E M N : Nat} {n : Int} (h : LnIs W E M N n) : Calls Tryz.prog 18 #[.pointer (some ⟨E, 0, none⟩)] W fun e w' => e = .returned (.bool true) ∧ w' = W := by
  have c7 := cell_of_row W E 7 _ _ (0, 0) h.box
  have hne := map_ne M
  clear h
  go_enter Tryz.func18, Tryz.ntmps18
  go_wp2
  go_ret
  exact ⟨rfl, rfl⟩
abbrev pkv (p : P5) : Value := .agg #[.int .i64 p.c, .int .i64 p.f, .int .u64 p.s, .int .u64 p.t, .string p.d]
theorem right_any (p : P5) (W : World) : Calls Tryz.prog 42 #[pkv p] W fun e w' => (∃ b, e = .returned (.bool b) ∧ (p.right → b = true)) ∧ Below W.heap.size W w' := by
  by_cases h : p.right
  · exact (right_yes p h W).mono fun e w' h' => ⟨⟨true, h'.1, fun _ => rfl⟩, h'.2⟩
  · exact (right_no p h W).mono fun e w' h' => ⟨⟨false, h'.1, fun k => absurd k h⟩, h'.2⟩
/-- the packet's box, and whose end -/
def LBox (w : World) (p : P5) (E : Nat) (w' : World) : Prop := w.heap.size < w'.heap.size ∧ Below w.heap.size w w' ∧ w'.cell? ⟨w.heap.size, 0, none⟩ = some (.int .i64 p.c) ∧ w'.cell? ⟨w.heap.size, 1, none⟩ = some (.int .i64 p.f) ∧ w'.cell? ⟨w.heap.size, 2, none⟩ = some (.int .u64 p.s) ∧ w'.cell? ⟨w.heap.size, 3, none⟩ = some (.int .u64 p.t) ∧ w'.cell? ⟨w.heap.size, 4, none⟩ = some (.string p.d) ∧ w'.cell? ⟨E, 0, none⟩ = some (.int .i64 0) ∧ w'.cell? ⟨E, 1, none⟩ = some (.int .i64 0)
section
variable {w W w1 : World} {p : P5} {E M N : Nat} {n : Int}
theorem LBox.new (h : LnIs w E M N n) (t : TypeId) : LBox w p E (w.alloc (.cells #[.int .i64 p.c, .int .i64 p.f, .int .u64 p.s, .int .u64 p.t, .string p.d] t)) := by
  have hb : Below w.heap.size w (w.alloc (.cells #[.int .i64 p.c, .int .i64 p.f, .int .u64 p.s, .int .u64 p.t, .string p.d] t)) := (Below.refl _ _).alloc (Nat.le_refl _) _
  have h1 := (h.below hb).box
  exact ⟨by simp, hb, by simp, by simp, by simp, by simp, by simp, cell_of_row _ E 0 _ _ (0, 0) h1, cell_of_row _ E 1 _ _ (0, 0) h1⟩
theorem LBox.drew (h : LBox w p E W) : LBox w p E W.drew := ⟨h.1, h.2.1.drew, h.2.2⟩
theorem LBox.call (h : LBox w p E W) (hb : Below W.heap.size W w1) : LBox w p E w1 := by
  obtain ⟨h0, h1, h2, h3, h4, h5, h6, h7, h8⟩ := h
  exact ⟨Nat.lt_of_lt_of_le h0 hb.size, h1.trans (hb.mono (Nat.le_of_lt h0)), (hb.cell h0).trans h2, (hb.cell h0).trans h3, (hb.cell h0).trans h4, (hb.cell h0).trans h5, (hb.cell h0).trans h6, (hb.cell (World.block_lt_of_cell? W _ h7)).trans h7, (hb.cell (World.block_lt_of_cell? W _ h8)).trans h8⟩
end
open Classical in
/-- whether a packet fits -/
noncomputable def fitB (p : P5) : Bool := decide (p.right ∧ p.c = 0 ∧ p.f = 0)
open Classical in
theorem fitB_no (p : P5) (h : ¬ (p.right ∧ p.c = 0 ∧ p.f = 0)) : fitB p = false := by unfold fitB; exact decide_eq_false h
open Classical in
theorem fitB_yes (p : P5) (h : p.right) (hc : (p.c == 0) = true) : fitB p = (p.f == 0) := by
  have hc' : p.c = 0 := by simpa using hc
  unfold fitB
  by_cases hf : p.f = 0
  · rw [decide_eq_true ⟨h, hc', hf⟩]; simp [hf]
  · rw [decide_eq_false (fun k => hf k.2.2)]; simp [hf]
set_option maxRecDepth 20000 in
set_option maxHeartbeats 1000000 in
theorem fits_any {w : World} {E M N : Nat} {n : Int} (p : P5) (h : LnIs w E M N n) : Calls Tryz.prog 19 #[.pointer (some ⟨E, 0, none⟩), pkv p, .int .i64 0] w fun e w' => e = .returned (.bool (fitB p)) ∧ Below w.heap.size w w' := by
  have H0 : LBox w p E (w.alloc (.cells #[.int .i64 p.c, .int .i64 p.f, .int .u64 p.s, .int .u64 p.t, .string p.d] TPk)) := LBox.new h TPk
  clear h
  obtain ⟨V, hV⟩ : ∃ X, X = w.alloc (.cells #[.int .i64 p.c, .int .i64 p.f, .int .u64 p.s, .int .u64 p.t, .string p.d] TPk) := ⟨_, rfl⟩
  rw [← hV] at H0
  obtain ⟨b, HR, hb⟩ : ∃ b, Hid (∀ W, Calls Tryz.prog 42 #[.agg #[.int .i64 p.c, .int .i64 p.f, .int .u64 p.s, .int .u64 p.t, .string p.d]] W fun e w' => e = .returned (.bool b) ∧ Below W.heap.size W w') ∧ (p.right → b = true) ∧ (b = true → p.right) := by
    by_cases hr : p.right
    · exact ⟨true, Lib.hid (right_yes p hr), fun _ => rfl, fun _ => hr⟩
    · exact ⟨false, Lib.hid (right_no p hr), fun k => absurd k hr, fun k => by cases k⟩
  -- ARMS
  have HV := Lib.hid hV
  clear hV
  have Hq := Lib.hid hb
  clear hb
  cases b
  · go_enter Tryz.func19, Tryz.ntmps19
    go_upto_region 1 with fail
    rw [← HV.out]
    refine wp_region_held_drew (S := LBox w p E) (by kernel_rfl) (LBox.drew H0) (fun hHeld => ?_)
    refine tk (i := 0) (v := ?_) rfl (by kernel_rfl) (fun _ _ _ h => h) (by rfl) ?_ (by assumption) ?_
    rotate_left
    · (intro W hSw; obtain ⟨h0, h1, h2, h3, h4, h5, h6, h7, h8⟩ := hSw; go_simp; try with_reducible rfl)
    try simp only [Act.put, gA, gZ, sA, sZ, sS]
    refine wpAnyH_ready (rs := [1]) (by kernel_rfl) (by simp) ?_
    refine AllReadyH.cons rfl (fun K hK => ?_) AllReadyH.nil
    simp only [gA, gS, gZ]
    rw [if_pos (by rfl)]
    go_simp
    (refine (HR.out _).mono ?_; rintro e w1 ⟨rfl, hb1⟩)
    go_wp2_with fail
    refine hK.out _ _ (LBox.call (LBox.drew H0) hb1) (fun hHeld => ?_)
    clear hK K
    try simp only [Act.put, gA, gS, gZ, sA, sZ, sS]
    refine tk (i := 2) (v := ?_) rfl (by kernel_rfl) (fun _ _ _ h => h) (by rfl) ?_ (by assumption) ?_
    rotate_left
    · (intro W hSw; obtain ⟨h0, h1, h2, h3, h4, h5, h6, h7, h8⟩ := hSw; go_simp; try with_reducible rfl)
    try simp only [Act.put, gA, gS, gZ, sA, sZ, sS]
    refine tn (i := 3) rfl (by kernel_rfl) (fun _ _ _ h => h) (by rfl) rfl (by assumption) ?_
    try simp only [Act.put, gA, gS, gZ, sA, sZ, sS]
    refine tn (i := 4) rfl (by kernel_rfl) (fun _ _ _ h => h) (by rfl) rfl (by assumption) ?_
    try simp only [Act.put, gA, gS, gZ, sA, sZ, sS]
    refine tn (i := 5) rfl (by kernel_rfl) (fun _ _ _ h => h) (by rfl) rfl (by assumption) ?_
    try simp only [Act.put, gA, gS, gZ, sA, sZ, sS]
    refine tn (i := 6) rfl (by kernel_rfl) (fun _ _ _ h => h) (by rfl) rfl (by assumption) ?_
    try simp only [Act.put, gA, gS, gZ, sA, sZ, sS]
    refine tn (i := 7) rfl (by kernel_rfl) (fun _ _ _ h => h) (by rfl) rfl (by assumption) ?_
    try simp only [Act.put, gA, gS, gZ, sA, sZ, sS]
    refine tn (i := 8) rfl (by kernel_rfl) (fun _ _ _ h => h) (by rfl) rfl (by assumption) ?_
    try simp only [Act.put, gA, gS, gZ, sA, sZ, sS]
    refine tn (i := 9) rfl (by kernel_rfl) (fun _ _ _ h => h) (by rfl) rfl (by assumption) ?_
    try simp only [Act.put, gA, gS, gZ, sA, sZ, sS]
    refine tk (i := 10) (v := ?_) rfl (by kernel_rfl) (fun _ _ _ h => h) (by rfl) ?_ (by assumption) ?_
    rotate_left
    · (intro W hSw; obtain ⟨h0, h1, h2, h3, h4, h5, h6, h7, h8⟩ := hSw; go_simp; try with_reducible rfl)
    try simp only [Act.put, gA, gS, gZ, sA, sZ, sS]
    refine tk (i := 11) (v := ?_) rfl (by kernel_rfl) (fun _ _ _ h => h) (by rfl) ?_ (by assumption) ?_
    rotate_left
    · (intro W hSw; obtain ⟨h0, h1, h2, h3, h4, h5, h6, h7, h8⟩ := hSw; go_simp; try with_reducible rfl)
    try simp only [Act.put, gA, gS, gZ, sA, sZ, sS]
    refine tn (i := 12) rfl (by kernel_rfl) (fun _ _ _ h => h) (by rfl) rfl (by assumption) ?_
    try simp only [Act.put, gA, gS, gZ, sA, sZ, sS]
    refine tn (i := 13) rfl (by kernel_rfl) (fun _ _ _ h => h) (by rfl) rfl (by assumption) ?_
    try simp only [Act.put, gA, gS, gZ, sA, sZ, sS]
    refine tn (i := 14) rfl (by kernel_rfl) (fun _ _ _ h => h) (by rfl) rfl (by assumption) ?_
    try simp only [Act.put, gA, gS, gZ, sA, sZ, sS]
    refine tn (i := 15) rfl (by kernel_rfl) (fun _ _ _ h => h) (by rfl) rfl (by assumption) ?_
    try simp only [Act.put, gA, gS, gZ, sA, sZ, sS]
    refine tk (i := 16) (v := ?_) rfl (by kernel_rfl) (fun _ _ _ h => h) (by rfl) ?_ (by assumption) ?_
    rotate_left
    · (intro W hSw; obtain ⟨h0, h1, h2, h3, h4, h5, h6, h7, h8⟩ := hSw; go_simp; try with_reducible rfl)
    try simp only [Act.put, gA, gS, gZ, sA, sZ, sS]
    refine tk (i := 17) (v := ?_) rfl (by kernel_rfl) (fun _ _ _ h => h) (by rfl) ?_ (by assumption) ?_
    rotate_left
    · (intro W hSw; obtain ⟨h0, h1, h2, h3, h4, h5, h6, h7, h8⟩ := hSw; go_simp; try with_reducible rfl)
    try simp only [Act.put, gA, gS, gZ, sA, sZ, sS]
    refine wpAnyH_done (by kernel_rfl) ?_ _
    go_wp2
    go_ret
    exact ⟨by rw [fitB_no p (fun x => absurd (Hq.out.1 x.1) (by decide))] <;> rfl, hHeld.2.1⟩
  · obtain ⟨bc, hbc, hb2⟩ : ∃ bc, (p.c == 0) = bc ∧ (p.c = 0 → bc = true) := ⟨_, rfl, fun h => by simpa using h⟩
    obtain ⟨bf, hbf, hb3⟩ : ∃ bf, (p.f == 0) = bf ∧ (p.f = 0 → bf = true) := ⟨_, rfl, fun h => by simpa using h⟩
    have H2 := Lib.hid hb2
    have H3 := Lib.hid hb3
    clear hb2 hb3
    cases bc
    · go_enter Tryz.func19, Tryz.ntmps19
      go_upto_region 1 with fail
      rw [← HV.out]
      refine wp_region_held_drew (S := LBox w p E) (by kernel_rfl) (LBox.drew H0) (fun hHeld => ?_)
      refine tk (i := 0) (v := ?_) rfl (by kernel_rfl) (fun _ _ _ h => h) (by rfl) ?_ (by assumption) ?_
      rotate_left
      · (intro W hSw; obtain ⟨h0, h1, h2, h3, h4, h5, h6, h7, h8⟩ := hSw; go_simp; try with_reducible rfl)
      try simp only [Act.put, gA, gZ, sA, sZ, sS]
      refine wpAnyH_ready (rs := [1]) (by kernel_rfl) (by simp) ?_
      refine AllReadyH.cons rfl (fun K hK => ?_) AllReadyH.nil
      simp only [gA, gS, gZ]
      rw [if_pos (by rfl)]
      go_simp
      (refine (HR.out _).mono ?_; rintro e w1 ⟨rfl, hb1⟩)
      go_wp2_with fail
      refine hK.out _ _ (LBox.call (LBox.drew H0) hb1) (fun hHeld => ?_)
      clear hK K
      try simp only [Act.put, gA, gS, gZ, sA, sZ, sS]
      refine tk (i := 2) (v := ?_) rfl (by kernel_rfl) (fun _ _ _ h => h) (by rfl) ?_ (by assumption) ?_
      rotate_left
      · (intro W hSw; obtain ⟨h0, h1, h2, h3, h4, h5, h6, h7, h8⟩ := hSw; go_simp; try with_reducible rfl)
      try simp only [Act.put, gA, gS, gZ, sA, sZ, sS]
      refine tk (i := 3) (v := ?_) rfl (by kernel_rfl) (fun _ _ _ h => h) (by rfl) ?_ (by assumption) ?_
      rotate_left
      · (intro W hSw; obtain ⟨h0, h1, h2, h3, h4, h5, h6, h7, h8⟩ := hSw; go_simp; try with_reducible rfl)
      try simp only [Act.put, gA, gS, gZ, sA, sZ, sS]
      refine tk (i := 4) (v := ?_) rfl (by kernel_rfl) (fun _ _ _ h => h) (by rfl) ?_ (by assumption) ?_
      rotate_left
      · (intro W hSw; obtain ⟨h0, h1, h2, h3, h4, h5, h6, h7, h8⟩ := hSw; go_simp; try with_reducible rfl)
      try simp only [Act.put, gA, gS, gZ, sA, sZ, sS]
      refine tk (i := 5) (v := ?_) rfl (by kernel_rfl) (fun _ _ _ h => h) (by rfl) ?_ (by assumption) ?_
      rotate_left
      · (intro W hSw; obtain ⟨h0, h1, h2, h3, h4, h5, h6, h7, h8⟩ := hSw; go_simp; try with_reducible rfl)
      try simp only [Act.put, gA, gS, gZ, sA, sZ, sS]
      refine tk (i := 6) (v := ?_) rfl (by kernel_rfl) (fun _ _ _ h => h) (by rfl) ?_ (by assumption) ?_
      rotate_left
      · (intro W hSw; obtain ⟨h0, h1, h2, h3, h4, h5, h6, h7, h8⟩ := hSw; go_simp; try with_reducible rfl)
      try simp only [Act.put, gA, gS, gZ, sA, sZ, sS]
      refine tk (i := 7) (v := ?_) rfl (by kernel_rfl) (fun _ _ _ h => h) (by rfl) ?_ (by assumption) ?_
      rotate_left
      · (intro W hSw; obtain ⟨h0, h1, h2, h3, h4, h5, h6, h7, h8⟩ := hSw; go_simp; try with_reducible rfl)
      try simp only [Act.put, gA, gS, gZ, sA, sZ, sS]
      refine tk (i := 8) (v := ?_) rfl (by kernel_rfl) (fun _ _ _ h => h) (by rfl) ?_ (by assumption) ?_
      rotate_left
      · (intro W hSw; obtain ⟨h0, h1, h2, h3, h4, h5, h6, h7, h8⟩ := hSw; go_simp; try with_reducible rfl)
      try simp only [Act.put, gA, gS, gZ, sA, sZ, sS]
      refine tk (i := 9) (v := ?_) rfl (by kernel_rfl) (fun _ _ _ h => h) (by rfl) ?_ (by assumption) ?_
      rotate_left
      · (intro W hSw; obtain ⟨h0, h1, h2, h3, h4, h5, h6, h7, h8⟩ := hSw; go_simp; try with_reducible rfl)
      try simp only [Act.put, gA, gS, gZ, sA, sZ, sS]
      refine tk (i := 10) (v := ?_) rfl (by kernel_rfl) (fun _ _ _ h => h) (by rfl) ?_ (by assumption) ?_
      rotate_left
      · (intro W hSw; obtain ⟨h0, h1, h2, h3, h4, h5, h6, h7, h8⟩ := hSw; go_simp; try with_reducible rfl)
      try simp only [Act.put, gA, gS, gZ, sA, sZ, sS]
      refine tk (i := 11) (v := ?_) rfl (by kernel_rfl) (fun _ _ _ h => h) (by rfl) ?_ (by assumption) ?_
      rotate_left
      · (intro W hSw; obtain ⟨h0, h1, h2, h3, h4, h5, h6, h7, h8⟩ := hSw; go_simp; try with_reducible rfl)
      try simp only [Act.put, gA, gS, gZ, sA, sZ, sS]
      refine tn (i := 12) rfl (by kernel_rfl) (fun _ _ _ h => h) (by rfl) rfl (by assumption) ?_
      try simp only [Act.put, gA, gS, gZ, sA, sZ, sS]
      refine tn (i := 13) rfl (by kernel_rfl) (fun _ _ _ h => h) (by rfl) rfl (by assumption) ?_
      try simp only [Act.put, gA, gS, gZ, sA, sZ, sS]
      refine tn (i := 14) rfl (by kernel_rfl) (fun _ _ _ h => h) (by rfl) rfl (by assumption) ?_
      try simp only [Act.put, gA, gS, gZ, sA, sZ, sS]
      refine tn (i := 15) rfl (by kernel_rfl) (fun _ _ _ h => h) (by rfl) rfl (by assumption) ?_
      try simp only [Act.put, gA, gS, gZ, sA, sZ, sS]
      refine tk (i := 16) (v := ?_) rfl (by kernel_rfl) (fun _ _ _ h => h) (by rfl) ?_ (by assumption) ?_
      rotate_left
      · (intro W hSw; obtain ⟨h0, h1, h2, h3, h4, h5, h6, h7, h8⟩ := hSw; go_simp; try with_reducible rfl)
      try simp only [Act.put, gA, gS, gZ, sA, sZ, sS]
      refine tk (i := 17) (v := ?_) rfl (by kernel_rfl) (fun _ _ _ h => h) (by rfl) ?_ (by assumption) ?_
      rotate_left
      · (intro W hSw; obtain ⟨h0, h1, h2, h3, h4, h5, h6, h7, h8⟩ := hSw; go_simp; try with_reducible rfl)
      try simp only [Act.put, gA, gS, gZ, sA, sZ, sS]
      refine wpAnyH_done (by kernel_rfl) ?_ _
      go_wp2
      go_ret
      exact ⟨by rw [fitB_no p (fun x => absurd (H2.out x.2.1) (by decide))] <;> rfl, hHeld.2.1⟩
    · go_enter Tryz.func19, Tryz.ntmps19
      go_upto_region 1 with fail
      rw [← HV.out]
      refine wp_region_held_drew (S := LBox w p E) (by kernel_rfl) (LBox.drew H0) (fun hHeld => ?_)
      refine tk (i := 0) (v := ?_) rfl (by kernel_rfl) (fun _ _ _ h => h) (by rfl) ?_ (by assumption) ?_
      rotate_left
      · (intro W hSw; obtain ⟨h0, h1, h2, h3, h4, h5, h6, h7, h8⟩ := hSw; go_simp; try with_reducible rfl)
      try simp only [Act.put, gA, gZ, sA, sZ, sS]
      refine wpAnyH_ready (rs := [1]) (by kernel_rfl) (by simp) ?_
      refine AllReadyH.cons rfl (fun K hK => ?_) AllReadyH.nil
      simp only [gA, gS, gZ]
      rw [if_pos (by rfl)]
      go_simp
      (refine (HR.out _).mono ?_; rintro e w1 ⟨rfl, hb1⟩)
      go_wp2_with fail
      refine hK.out _ _ (LBox.call (LBox.drew H0) hb1) (fun hHeld => ?_)
      clear hK K
      try simp only [Act.put, gA, gS, gZ, sA, sZ, sS]
      refine tk (i := 2) (v := ?_) rfl (by kernel_rfl) (fun _ _ _ h => h) (by rfl) ?_ (by assumption) ?_
      rotate_left
      · (intro W hSw; obtain ⟨h0, h1, h2, h3, h4, h5, h6, h7, h8⟩ := hSw; go_simp; try with_reducible rfl)
      try simp only [Act.put, gA, gS, gZ, sA, sZ, sS]
      refine tk (i := 3) (v := ?_) rfl (by kernel_rfl) (fun _ _ _ h => h) (by rfl) ?_ (by assumption) ?_
      rotate_left
      · (intro W hSw; obtain ⟨h0, h1, h2, h3, h4, h5, h6, h7, h8⟩ := hSw; go_simp; try with_reducible rfl)
      try simp only [Act.put, gA, gS, gZ, sA, sZ, sS]
      refine tk (i := 4) (v := ?_) rfl (by kernel_rfl) (fun _ _ _ h => h) (by rfl) ?_ (by assumption) ?_
      rotate_left
      · (intro W hSw; obtain ⟨h0, h1, h2, h3, h4, h5, h6, h7, h8⟩ := hSw; go_simp; try with_reducible rfl)
      try simp only [Act.put, gA, gS, gZ, sA, sZ, sS]
      refine tk (i := 5) (v := ?_) rfl (by kernel_rfl) (fun _ _ _ h => h) (by rfl) ?_ (by assumption) ?_
      rotate_left
      · (intro W hSw; obtain ⟨h0, h1, h2, h3, h4, h5, h6, h7, h8⟩ := hSw; go_simp; try with_reducible rfl)
      try simp only [Act.put, gA, gS, gZ, sA, sZ, sS]
      refine tk (i := 6) (v := ?_) rfl (by kernel_rfl) (fun _ _ _ h => h) (by rfl) ?_ (by assumption) ?_
      rotate_left
      · (intro W hSw; obtain ⟨h0, h1, h2, h3, h4, h5, h6, h7, h8⟩ := hSw; go_simp; try with_reducible rfl)
      try simp only [Act.put, gA, gS, gZ, sA, sZ, sS]
      refine tk (i := 7) (v := ?_) rfl (by kernel_rfl) (fun _ _ _ h => h) (by rfl) ?_ (by assumption) ?_
      rotate_left
      · (intro W hSw; obtain ⟨h0, h1, h2, h3, h4, h5, h6, h7, h8⟩ := hSw; go_simp; try with_reducible rfl)
      try simp only [Act.put, gA, gS, gZ, sA, sZ, sS]
      refine tk (i := 8) (v := ?_) rfl (by kernel_rfl) (fun _ _ _ h => h) (by rfl) ?_ (by assumption) ?_
      rotate_left
      · (intro W hSw; obtain ⟨h0, h1, h2, h3, h4, h5, h6, h7, h8⟩ := hSw; go_simp; try with_reducible rfl)
      try simp only [Act.put, gA, gS, gZ, sA, sZ, sS]
      refine tk (i := 9) (v := ?_) rfl (by kernel_rfl) (fun _ _ _ h => h) (by rfl) ?_ (by assumption) ?_
      rotate_left
      · (intro W hSw; obtain ⟨h0, h1, h2, h3, h4, h5, h6, h7, h8⟩ := hSw; go_simp; try with_reducible rfl)
      try simp only [Act.put, gA, gS, gZ, sA, sZ, sS]
      refine tk (i := 10) (v := ?_) rfl (by kernel_rfl) (fun _ _ _ h => h) (by rfl) ?_ (by assumption) ?_
      rotate_left
      · (intro W hSw; obtain ⟨h0, h1, h2, h3, h4, h5, h6, h7, h8⟩ := hSw; go_simp; try with_reducible rfl)
      try simp only [Act.put, gA, gS, gZ, sA, sZ, sS]
      refine tk (i := 11) (v := ?_) rfl (by kernel_rfl) (fun _ _ _ h => h) (by rfl) ?_ (by assumption) ?_
      rotate_left
      · (intro W hSw; obtain ⟨h0, h1, h2, h3, h4, h5, h6, h7, h8⟩ := hSw; go_simp; try with_reducible rfl)
      try simp only [Act.put, gA, gS, gZ, sA, sZ, sS]
      refine tk (i := 12) (v := ?_) rfl (by kernel_rfl) (fun _ _ _ h => h) (by rfl) ?_ (by assumption) ?_
      rotate_left
      · (intro W hSw; obtain ⟨h0, h1, h2, h3, h4, h5, h6, h7, h8⟩ := hSw; go_simp; try with_reducible rfl)
      try simp only [Act.put, gA, gS, gZ, sA, sZ, sS]
      refine tk (i := 13) (v := ?_) rfl (by kernel_rfl) (fun _ _ _ h => h) (by rfl) ?_ (by assumption) ?_
      rotate_left
      · (intro W hSw; obtain ⟨h0, h1, h2, h3, h4, h5, h6, h7, h8⟩ := hSw; go_simp; try with_reducible rfl)
      try simp only [Act.put, gA, gS, gZ, sA, sZ, sS]
      refine tk (i := 14) (v := ?_) rfl (by kernel_rfl) (fun _ _ _ h => h) (by rfl) ?_ (by assumption) ?_
      rotate_left
      · (intro W hSw; obtain ⟨h0, h1, h2, h3, h4, h5, h6, h7, h8⟩ := hSw; go_simp; try with_reducible rfl)
      try simp only [Act.put, gA, gS, gZ, sA, sZ, sS]
      refine tk (i := 15) (v := ?_) rfl (by kernel_rfl) (fun _ _ _ h => h) (by rfl) ?_ (by assumption) ?_
      rotate_left
      · (intro W hSw; obtain ⟨h0, h1, h2, h3, h4, h5, h6, h7, h8⟩ := hSw; go_simp; try with_reducible rfl)
      try simp only [Act.put, gA, gS, gZ, sA, sZ, sS]
      refine tk (i := 16) (v := ?_) rfl (by kernel_rfl) (fun _ _ _ h => h) (by rfl) ?_ (by assumption) ?_
      rotate_left
      · (intro W hSw; obtain ⟨h0, h1, h2, h3, h4, h5, h6, h7, h8⟩ := hSw; go_simp; try with_reducible rfl)
      try simp only [Act.put, gA, gS, gZ, sA, sZ, sS]
      refine tk (i := 17) (v := ?_) rfl (by kernel_rfl) (fun _ _ _ h => h) (by rfl) ?_ (by assumption) ?_
      rotate_left
      · (intro W hSw; obtain ⟨h0, h1, h2, h3, h4, h5, h6, h7, h8⟩ := hSw; go_simp; try with_reducible rfl)
      try simp only [Act.put, gA, gS, gZ, sA, sZ, sS]
      refine wpAnyH_done (by kernel_rfl) ?_ _
      go_wp2
      go_ret
      exact ⟨by rw [fitB_yes p (by have := Hq.out.2; simpa using this) hbc, hbf] <;> rfl, hHeld.2.1⟩
end Go.Proofs.YtdljphbfbiganaaGreatDoor.Ln
