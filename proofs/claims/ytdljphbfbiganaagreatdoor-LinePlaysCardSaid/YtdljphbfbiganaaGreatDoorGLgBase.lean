import Derived.Test.YtdljphbfbiganaaGreatDoorLnBase
import Derived.Test.YtdljphbfbiganaaGreatDoorMapG
import Derived.Deep.WholeRow
/- line: an end in whatever state. -/
namespace Go.Proofs.YtdljphbfbiganaaGreatDoor.Lg
open Go Go.RowKit Packet Ln Mg
set_option linter.unusedVariables false

/-- the maps of an end: from numbers to sums -/
abbrev KS : Kit Int (Array Value) := ⟨TMp, 31, TSm, fun k => .int .u64 k, fun C => .agg C, .agg zs32⟩
theorem ks_ok : KS.Ok where
  hm := Tryz.underlying49
  hck em k W := MapKept.run_checkKey (d := .int .u64) Tryz.underlying31 (show MapKept.IsKey (.int .u64) (.int .u64 k) from rfl) em 9999
  hfind := find_now (K := KS) (q := .u64) id (fun _ => rfl) (fun _ _ h => h) Tryz.underlying31
  hst k W := MapKept.run_keyThatStays (d := .int .u64) (show MapKept.IsKey (.int .u64) (.int .u64 k) from rfl)
  hz W := zero_sum W
/-- an end's state -/
structure St where
  ch : Int
  sd : Int
  o : Bool
  cl : Bool
  sn : Int
  rc : Int
  ak : Int
  cm : List (Int × Array Value)
  ac : List (Int × Array Value)
def SumOk (C : Array Value) : Prop := C.size = 32 ∧ C.all (·.oneCell') = true ∧ ∃ xs : List Int, C = (xs.map (Value.int .u8)).toArray
theorem sumOk_zero : SumOk zs32 := ⟨rfl, Sha.zero32_one, List.replicate 32 0, by rfl⟩
/-- an end in block E, its commitments in M, its receipts in N -/
structure LG (W : World) (E M N : Nat) (s : St) : Prop where
  box : W.heap[E]? = some (.cells #[.int .i64 s.ch, .int .i64 s.sd, .bool s.o, .bool s.cl, .int .u64 s.sn, .int .u64 s.rc, .int .u64 s.ak, .map (some M), .map (some N)] TLn (0, 0))
  com : MG KS W M s.cm
  ack : MG KS W N s.ac
  mn : M ≠ N
  cok : ∀ x ∈ s.cm, SumOk x.2
  aok : ∀ x ∈ s.ac, SumOk x.2
section
variable {W V : World} {E M N : Nat} {s : St}
theorem mg_ne {B C : Nat} {cs : Array Value} {t : TypeId} {q : Nat × Nat} {L : List (Int × Array Value)} (h : MG KS W B L) (hc : W.heap[C]? = some (.cells cs t q)) : C ≠ B := fun e => by
  obtain ⟨l, c, h1, _⟩ := h
  rw [e, h1] at hc; cases hc
theorem LG.em (h : LG W E M N s) : E ≠ M := mg_ne h.com h.box
theorem LG.en (h : LG W E M N s) : E ≠ N := mg_ne h.ack h.box
theorem LG.lt (h : LG W E M N s) : E < W.heap.size ∧ M < W.heap.size ∧ N < W.heap.size := ⟨lt_of h.box, h.com.lt, h.ack.lt⟩
theorem LG.of_eq (h : LG W E M N s) (e1 : V.heap[E]? = W.heap[E]?) (e2 : V.heap[M]? = W.heap[M]?) (e3 : V.heap[N]? = W.heap[N]?) : LG V E M N s :=
  ⟨e1.trans h.box, h.com.of_eq e2, h.ack.of_eq e3, h.mn, h.cok, h.aok⟩
theorem LG.below (h : LG W E M N s) (hb : Below W.heap.size W V) : LG V E M N s :=
  h.of_eq (hb.block _ h.lt.1) (hb.block _ h.lt.2.1) (hb.block _ h.lt.2.2)
theorem LG.cells (h : LG W E M N s) : W.cell? ⟨E, 0, none⟩ = some (.int .i64 s.ch) ∧ W.cell? ⟨E, 1, none⟩ = some (.int .i64 s.sd) ∧ W.cell? ⟨E, 2, none⟩ = some (.bool s.o) ∧ W.cell? ⟨E, 3, none⟩ = some (.bool s.cl) ∧ W.cell? ⟨E, 4, none⟩ = some (.int .u64 s.sn) ∧ W.cell? ⟨E, 5, none⟩ = some (.int .u64 s.rc) ∧ W.cell? ⟨E, 6, none⟩ = some (.int .u64 s.ak) ∧ W.cell? ⟨E, 7, none⟩ = some (.map (some M)) ∧ W.cell? ⟨E, 8, none⟩ = some (.map (some N)) ∧ (∀ i, W.frozen? ⟨E, i, none⟩ = false) :=
  ⟨cell_of_row W E 0 _ _ (0, 0) h.box, cell_of_row W E 1 _ _ (0, 0) h.box, cell_of_row W E 2 _ _ (0, 0) h.box, cell_of_row W E 3 _ _ (0, 0) h.box, cell_of_row W E 4 _ _ (0, 0) h.box, cell_of_row W E 5 _ _ (0, 0) h.box, cell_of_row W E 6 _ _ (0, 0) h.box, cell_of_row W E 7 _ _ (0, 0) h.box, cell_of_row W E 8 _ _ (0, 0) h.box, fun i => by simp [World.frozen?, h.box]⟩
end
/-- a packet's box -/
def PkB (W : World) (b : Nat) (p : P5) : Prop := W.heap[b]? = some (.cells #[.int .i64 p.c, .int .i64 p.f, .int .u64 p.s, .int .u64 p.t, .string p.d] TPk (0, 0))
theorem PkB.below {W V : World} {b : Nat} {p : P5} (h : PkB W b p) (hb : Below W.heap.size W V) : PkB V b p := (hb.block _ (lt_of h)).trans h
theorem PkB.cells {W : World} {b : Nat} {p : P5} (h : PkB W b p) : W.cell? ⟨b, 0, none⟩ = some (.int .i64 p.c) ∧ W.cell? ⟨b, 1, none⟩ = some (.int .i64 p.f) ∧ W.cell? ⟨b, 2, none⟩ = some (.int .u64 p.s) ∧ W.cell? ⟨b, 3, none⟩ = some (.int .u64 p.t) ∧ W.cell? ⟨b, 4, none⟩ = some (.string p.d) ∧ (∀ i, W.frozen? ⟨b, i, none⟩ = false) :=
  ⟨cell_of_row W b 0 _ _ (0, 0) h, cell_of_row W b 1 _ _ (0, 0) h, cell_of_row W b 2 _ _ (0, 0) h, cell_of_row W b 3 _ _ (0, 0) h, cell_of_row W b 4 _ _ (0, 0) h, fun i => by simp [World.frozen?, show W.heap[b]? = _ from h]⟩
set_option maxRecDepth 100000 in
theorem made_g {W : World} {E M N : Nat} {s : St} (h : LG W E M N s) : Calls Tryz.prog 18 #[.pointer (some ⟨E, 0, none⟩)] W fun e w' => e = .returned (.bool true) ∧ w' = W := by
  obtain ⟨_, _, _, _, _, _, _, c7, _⟩ := h.cells
  have hne := map_ne M
  clear h
  go_enter Tryz.func18, Tryz.ntmps18
  go_wp2
  go_ret
  exact ⟨rfl, rfl⟩
open Classical in
/-- whether a packet is late -/
noncomputable def lateB (p : P5) (h : Int) : Bool := decide (0 < p.t ∧ p.t ≤ h)
set_option maxRecDepth 20000 in
theorem late_g (p : P5) (h : Int) (w : World) : Calls Tryz.prog 20 #[pkv p, .int .u64 h] w fun e w' => e = .returned (.bool (lateB p h)) ∧ Below w.heap.size w w' := by
  have hl : lateB p h = (decide (p.t > 0) && decide (p.t ≤ h)) := by
    unfold lateB
    by_cases h1 : 0 < p.t <;> by_cases h2 : p.t ≤ h <;> simp [h1, h2]
  obtain ⟨b, hb⟩ : ∃ b, b = lateB p h := ⟨_, rfl⟩
  rw [← hb] at hl ⊢
  clear hb
  by_cases h1 : p.t > 0
  · rw [decide_eq_true h1, Bool.true_and] at hl
    have HL := Lib.hid hl
    clear hl
    go_enter Tryz.func20, Tryz.ntmps20
    go_wp2
    go_ret
    exact ⟨by rw [HL.out] <;> rfl, (Below.refl _ _).alloc (Nat.le_refl _) _⟩
  · rw [decide_eq_false h1, Bool.false_and] at hl
    subst hl
    go_enter Tryz.func20, Tryz.ntmps20
    go_wp2
    go_ret
    exact ⟨rfl, (Below.refl _ _).alloc (Nat.le_refl _) _⟩
end Go.Proofs.YtdljphbfbiganaaGreatDoor.Lg
/- line: two sums compared. -/
namespace Go.Proofs.YtdljphbfbiganaaGreatDoor.Lg
open Go Go.RowKit Packet Ln Mg
set_option linter.unusedVariables false

theorem eq_rowG {P : Program} (w : World) (d : Nat) (t e : TypeId) (n : Nat) (ht : P.underlying t = some (.array n e)) (he : P.underlying e = some (.int .u8)) (hsz : ∀ w, (sizeOf e).run P w = .ok 1 w)
    (xs ys : List Int) (hx : xs.length = n) (hy : ys.length = n) :
    (Op.equalIn (d + 2) t (.agg (xs.map (Value.int .u8)).toArray) (.agg (ys.map (Value.int .u8)).toArray)).run P w = .ok ((List.range' 0 n 1).all fun i => xs.getD i 0 == ys.getD i 0) w := by
  rw [Op.equalIn]
  simp only [Sem.run_bind, run_underlying ht, Result.andThen_ok, hsz, Std.Legacy.Range.forIn_eq_forIn_range', Std.Legacy.Range.size, Nat.sub_zero, Nat.add_sub_cancel, Nat.div_one]
  have hl : ∀ i ∈ List.range' 0 n 1, i < n := fun i hi => by simpa using (List.mem_range'_1.1 hi).2
  generalize List.range' 0 n 1 = l at hl ⊢
  induction l with
  | nil => simp
  | cons i l ih =>
    have hi : i < n := hl i (by simp)
    have px : (part e (xs.map (Value.int .u8)).toArray (i * 1)).run P w = .ok (.int .u8 (xs.getD i 0)) w := by
      simp [part, isAgg, run_underlying he, List.getD, List.getElem?_eq_getElem (show i < xs.length by omega)]
    have py : (part e (ys.map (Value.int .u8)).toArray (i * 1)).run P w = .ok (.int .u8 (ys.getD i 0)) w := by
      simp [part, isAgg, run_underlying he, List.getD, List.getElem?_eq_getElem (show i < ys.length by omega)]
    have pe : (Op.equalIn (d + 1) e (.int .u8 (xs.getD i 0)) (.int .u8 (ys.getD i 0))).run P w = .ok (xs.getD i 0 == ys.getD i 0) w := by
      rw [run_equalIn_int w d e .u8 .u8 _ _ he]
    simp only [List.forIn_cons, Sem.run_bind, px, py, pe, Result.andThen_ok]
    by_cases h : xs.getD i 0 = ys.getD i 0
    · have hb : (xs.getD i 0 == ys.getD i 0) = true := by simpa using h
      rw [List.all_cons, hb, Bool.true_and]
      simpa using ih (fun j hj => hl j (by simp [hj]))
    · have hb : (xs.getD i 0 == ys.getD i 0) = false := by simpa using h
      rw [List.all_cons, hb, Bool.false_and]
      first | done | rfl | simp
theorem all_eq (xs ys : List Int) (n : Nat) (hx : xs.length = n) (hy : ys.length = n) : ((List.range' 0 n 1).all fun i => xs.getD i 0 == ys.getD i 0) = decide (xs = ys) := by
  rw [Bool.eq_iff_iff, List.all_eq_true, decide_eq_true_iff]
  constructor
  · intro h
    apply List.ext_getElem (by omega)
    intro i h1 h2
    have := h i (List.mem_range'_1.2 ⟨by omega, by omega⟩)
    simpa [List.getD, List.getElem?_eq_getElem h1, List.getElem?_eq_getElem h2] using this
  · rintro rfl i _; simp
theorem u8_inj : ∀ (xs ys : List Int), xs.map (Value.int .u8) = ys.map (Value.int .u8) → xs = ys
  | [], [], _ => rfl
  | [], _ :: _, h => by cases h
  | _ :: _, [], h => by cases h
  | x :: xs, y :: ys, h => by
    injection h with h1 h2
    injection h1 with _ h1
    rw [h1, u8_inj xs ys h2]
theorem eq_sum (C D : Array Value) (hC : SumOk C) (hD : SumOk D) : ∃ b : Bool, (b = true ↔ C = D) ∧ ∀ W, (Op.equalIn 10000 TSm (.agg C) (.agg D)).run Tryz.prog W = .ok b W := by
  obtain ⟨c1, _, xs, rfl⟩ := hC
  obtain ⟨d1, _, ys, rfl⟩ := hD
  have hx : xs.length = 32 := by simpa using c1
  have hy : ys.length = 32 := by simpa using d1
  refine ⟨decide (xs = ys), ?_, fun W => ?_⟩
  · rw [decide_eq_true_iff]
    exact ⟨fun h => by rw [h], fun h => u8_inj _ _ (by simpa using congrArg Array.toList h)⟩
  · rw [← all_eq xs ys 32 hx hy]
    exact eq_rowG W 9998 TSm 5 32 Tryz.underlying58 Tryz.underlying5 (fun w => by
      obtain ⟨i0, hi, _⟩ := info_parts Sha.infoB
      have h := run_sizeOf w hi
      rw [show Tryz.prog.cellsOf 5 = 1 by kernel_rfl] at h
      exact h) xs ys hx hy
set_option maxRecDepth 20000 in
theorem neq_sum (C D : Array Value) (hC : SumOk C) (hD : SumOk D) : ∃ b : Bool, (b = true ↔ C = D) ∧ ∀ W, (binOp .neq TSm (.agg C) (.agg D)).run Tryz.prog W = .ok (.bool (!b)) W := by
  obtain ⟨b, hb, h⟩ := eq_sum C D hC hD
  refine ⟨b, hb, fun W => ?_⟩
  have e : (binOp .neq TSm (.agg C) (.agg D)).run Tryz.prog W = ((Op.equalIn 10000 TSm (.agg C) (.agg D)).run Tryz.prog W).andThen fun b w => .ok (.bool (!b)) w := by
    generalize C = C'
    generalize D = D'
    unfold binOp
    simp [Op.equal, Op.maxDepth, go_sem]
  rw [e, h]
  rfl
end Go.Proofs.YtdljphbfbiganaaGreatDoor.Lg
