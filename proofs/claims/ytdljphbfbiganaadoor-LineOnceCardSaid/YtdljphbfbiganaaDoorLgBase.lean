/- line: an end in whatever state. -/
import Derived.Test.YtdljphbfbiganaaDoorLnBase
import Derived.Test.YtdljphbfbiganaaDoorMapG
import Derived.Deep.WholeRow
namespace Go.Proofs.YtdljphbfbiganaaDoor.Lg
open Go Go.RowKit Packet Ln Mg
set_option linter.unusedVariables false

/-- the maps of an end: from numbers to sums -/
abbrev KS : Kit Int (Array Value) := ⟨TMp, 29, TSm, fun k => .int .u64 k, fun C => .agg C, .agg zs32⟩
theorem ks_ok : KS.Ok where
  hm := Tryd.underlying49
  hck em k W := MapKept.run_checkKey (d := .int .u64) Tryd.underlying29 (show MapKept.IsKey (.int .u64) (.int .u64 k) from rfl) em 9999
  hfind := find_now (K := KS) (q := .u64) id (fun _ => rfl) (fun _ _ h => h) Tryd.underlying29
  hst k W := MapKept.run_keyThatStays (d := .int .u64) (show MapKept.IsKey (.int .u64) (.int .u64 k) from rfl)
  hz W := zero_sum W
/-- an end's state -/
structure St where
  ch : Int
  sd : Int
  o : Bool
  cl : Bool
  sn : Int
  rc : Int
  ak : Int
  cm : List (Int × Array Value)
  ac : List (Int × Array Value)
def SumOk (C : Array Value) : Prop := C.size = 32 ∧ C.all (·.oneCell') = true ∧ ∃ xs : List Int, C = (xs.map (Value.int .u8)).toArray
theorem sumOk_zero : SumOk zs32 := ⟨rfl, Sha.zero32_one, List.replicate 32 0, by rfl⟩
/-- an end in block E, its commitments in M, its receipts in N -/
structure LG (W : World) (E M N : Nat) (s : St) : Prop where
  box : W.heap[E]? = some (.cells #[.int .i64 s.ch, .int .i64 s.sd, .bool s.o, .bool s.cl, .int .u64 s.sn, .int .u64 s.rc, .int .u64 s.ak, .map (some M), .map (some N)] TLn (0, 0))
  com : MG KS W M s.cm
  ack : MG KS W N s.ac
  mn : M ≠ N
  cok : ∀ x ∈ s.cm, SumOk x.2
  aok : ∀ x ∈ s.ac, SumOk x.2
section
variable {W V : World} {E M N : Nat} {s : St}
theorem mg_ne {B C : Nat} {cs : Array Value} {t : TypeId} {q : Nat × Nat} {L : List (Int × Array Value)} (h : MG KS W B L) (hc : W.heap[C]? = some (.cells cs t q)) : C ≠ B := fun e => by
  obtain ⟨l, c, h1, _⟩ := h
  rw [e, h1] at hc; cases hc
theorem LG.em (h : LG W E M N s) : E ≠ M := mg_ne h.com h.box
theorem LG.en (h : LG W E M N s) : E ≠ N := mg_ne h.ack h.box
theorem LG.lt (h : LG W E M N s) : E < W.heap.size ∧ M < W.heap.size ∧ N < W.heap.size := ⟨lt_of h.box, h.com.lt, h.ack.lt⟩
theorem LG.of_eq (h : LG W E M N s) (e1 : V.heap[E]? = W.heap[E]?) (e2 : V.heap[M]? = W.heap[M]?) (e3 : V.heap[N]? = W.heap[N]?) : LG V E M N s :=
  ⟨e1.trans h.box, h.com.of_eq e2, h.ack.of_eq e3, h.mn, h.cok, h.aok⟩
theorem LG.below (h : LG W E M N s) (hb : Below W.heap.size W V) : LG V E M N s :=
  h.of_eq (hb.block _ h.lt.1) (hb.block _ h.lt.2.1) (hb.block _ h.lt.2.2)
theorem LG.cells (h : LG W E M N s) : W.cell? ⟨E, 0, none⟩ = some (.int .i64 s.ch) ∧ W.cell? ⟨E, 1, none⟩ = some (.int .i64 s.sd) ∧ W.cell? ⟨E, 2, none⟩ = some (.bool s.o) ∧ W.cell? ⟨E, 3, none⟩ = some (.bool s.cl) ∧ W.cell? ⟨E, 4, none⟩ = some (.int .u64 s.sn) ∧ W.cell? ⟨E, 5, none⟩ = some (.int .u64 s.rc) ∧ W.cell? ⟨E, 6, none⟩ = some (.int .u64 s.ak) ∧ W.cell? ⟨E, 7, none⟩ = some (.map (some M)) ∧ W.cell? ⟨E, 8, none⟩ = some (.map (some N)) ∧ (∀ i, W.frozen? ⟨E, i, none⟩ = false) :=
  ⟨cell_of_row W E 0 _ _ (0, 0) h.box, cell_of_row W E 1 _ _ (0, 0) h.box, cell_of_row W E 2 _ _ (0, 0) h.box, cell_of_row W E 3 _ _ (0, 0) h.box, cell_of_row W E 4 _ _ (0, 0) h.box, cell_of_row W E 5 _ _ (0, 0) h.box, cell_of_row W E 6 _ _ (0, 0) h.box, cell_of_row W E 7 _ _ (0, 0) h.box, cell_of_row W E 8 _ _ (0, 0) h.box, fun i => by simp [World.frozen?, h.box]⟩
end
/-- a packet's box -/
def PkB (W : World) (b : Nat) (p : P5) : Prop := W.heap[b]? = some (.cells #[.int .i64 p.c, .int .i64 p.f, .int .u64 p.s, .int .u64 p.t, .string p.d] TPk (0, 0))
theorem PkB.below {W V : World} {b : Nat} {p : P5} (h : PkB W b p) (hb : Below W.heap.size W V) : PkB V b p := (hb.block _ (lt_of h)).trans h
theorem PkB.cells {W : World} {b : Nat} {p : P5} (h : PkB W b p) : W.cell? ⟨b, 0, none⟩ = some (.int .i64 p.c) ∧ W.cell? ⟨b, 1, none⟩ = some (.int .i64 p.f) ∧ W.cell? ⟨b, 2, none⟩ = some (.int .u64 p.s) ∧ W.cell? ⟨b, 3, none⟩ = some (.int .u64 p.t) ∧ W.cell? ⟨b, 4, none⟩ = some (.string p.d) ∧ (∀ i, W.frozen? ⟨b, i, none⟩ = false) :=
  ⟨cell_of_row W b 0 _ _ (0, 0) h, cell_of_row W b 1 _ _ (0, 0) h, cell_of_row W b 2 _ _ (0, 0) h, cell_of_row W b 3 _ _ (0, 0) h, cell_of_row W b 4 _ _ (0, 0) h, fun i => by simp [World.frozen?, show W.heap[b]? = _ from h]⟩
set_option maxRecDepth 100000 in
theorem made_g {W : World} {E M N : Nat} {s : St} (h : LG W E M N s) : Calls Tryd.prog 14 #[.pointer (some ⟨E, 0, none⟩)] W fun e w' => e = .returned (.bool true) ∧ w' = W := by
  obtain ⟨_, _, _, _, _, _, _, c7, _⟩ := h.cells
  have hne := map_ne M
  clear h
  go_enter Tryd.func14, Tryd.ntmps14
  go_wp2
  go_ret
  exact ⟨rfl, rfl⟩
open Classical in
/-- whether a packet is late -/
noncomputable def lateB (p : P5) (h : Int) : Bool := decide (0 < p.t ∧ p.t ≤ h)
set_option maxRecDepth 20000 in
theorem late_g (p : P5) (h : Int) (w : World) : Calls Tryd.prog 16 #[pkv p, .int .u64 h] w fun e w' => e = .returned (.bool (lateB p h)) ∧ Below w.heap.size w w' := by
  have hl : lateB p h = (decide (p.t > 0) && decide (p.t ≤ h)) := by
    unfold lateB
    by_cases h1 : 0 < p.t <;> by_cases h2 : p.t ≤ h <;> simp [h1, h2]
  obtain ⟨b, hb⟩ : ∃ b, b = lateB p h := ⟨_, rfl⟩
  rw [← hb] at hl ⊢
  clear hb
  by_cases h1 : p.t > 0
  · rw [decide_eq_true h1, Bool.true_and] at hl
    have HL := Lib.hid hl
    clear hl
    go_enter Tryd.func16, Tryd.ntmps16
    go_wp2
    go_ret
    exact ⟨by rw [HL.out] <;> rfl, (Below.refl _ _).alloc (Nat.le_refl _) _⟩
  · rw [decide_eq_false h1, Bool.false_and] at hl
    subst hl
    go_enter Tryd.func16, Tryd.ntmps16
    go_wp2
    go_ret
    exact ⟨rfl, (Below.refl _ _).alloc (Nat.le_refl _) _⟩
end Go.Proofs.YtdljphbfbiganaaDoor.Lg
