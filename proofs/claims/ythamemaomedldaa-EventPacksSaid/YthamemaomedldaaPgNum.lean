/- The page's reader: fail, number. -/
import Derived.Test.YthamemaomedldaaReadNum
namespace Go.Proofs.Ythamemaomedldaa.Rd
open Go Go.RowKit Num Texts

/-- The page's reader lies in block R: it reads S, from a on; b is its error. -/
abbrev PLc (W : World) (R : Nat) (S : ByteArray) (a : Nat) (b : Int) : Prop := W.heap[R]? = some (.cells #[.string S, .int .i64 (a : Int), .int .i64 b] 52 (0, 0))
/-- .. and is in the state r. -/
def PLies (W : World) (R : Nat) (S : ByteArray) (r : R2) : Prop := ∃ a, a ≤ S.size ∧ r.s = S.extract a S.size ∧ PLc W R S a r.b
theorem PLies.only {W W' : World} {R R' : Nat} {S : ByteArray} {r : R2} (h : PLies W R S r) (ho : Only R' W W') (hne : R ≠ R') : PLies W' R S r := by
  obtain ⟨a, h1, h2, h3⟩ := h
  exact ⟨a, h1, h2, (ho.block R (Array.getElem?_eq_some_iff.1 h3).1 hne).trans h3⟩
theorem ext_nil (S : ByteArray) : S.extract S.size S.size = ⟨#[]⟩ := by
  apply ByteArray.ext
  apply Array.toList_inj.1
  rw [Lib.extract_data]
  simp
theorem ext_of (S : ByteArray) (a : Nat) : (S.extract a S.size).data.toList = S.data.toList.drop a := by
  rw [Lib.extract_data, List.take_of_length_le (by rw [List.length_drop, Array.length_toList]; exact Nat.le_refl _)]
theorem ext_size (S : ByteArray) (a : Nat) : (S.extract a S.size).size = S.size - a := by rw [ByteArray.size_extract]; omega
theorem ext_ext (S : ByteArray) (a k : Nat) : (S.extract a S.size).extract k (S.extract a S.size).size = S.extract (a + k) S.size := by
  apply ByteArray.ext
  apply Array.toList_inj.1
  rw [ext_of, ext_of, ext_of, List.drop_drop]
theorem ext_at (S : ByteArray) (a j : Nat) (h : a + j < S.size) : ((S.extract a S.size).data.toList.getD j 0) = S[a + j] := by
  rw [ext_of, List.getD_eq_getElem?_getD, List.getElem?_drop, List.getElem?_eq_getElem (by simpa using h)]
  rfl
abbrev MX : Nat := 18446744073709551615
theorem pn_end (S : ByteArray) (a : Nat) (h : S.size ≤ a) : numR MX (S.extract a S.size) = (0, 2, S.extract a S.size) := by
  unfold numR
  rw [if_pos (by rw [ext_size]; omega)]
theorem pn_big (S : ByteArray) (a : Nat) (h : a < S.size) (h8 : 8 < S[a].toNat) : numR MX (S.extract a S.size) = (0, 3, S.extract a S.size) := by
  unfold numR
  rw [if_neg (by rw [ext_size]; omega)]
  dsimp only
  rw [ext_at S a 0 h, if_pos (.inl h8)]
theorem pn_form (S : ByteArray) (a : Nat) (h : a < S.size) (h0 : 0 < S[a].toNat) (h1 : a + 1 < S.size) (hz : S[a + 1].toNat = 0) : numR MX (S.extract a S.size) = (0, 3, S.extract a S.size) := by
  unfold numR
  rw [if_neg (by rw [ext_size]; omega)]
  dsimp only
  rw [ext_at S a 0 h, ext_at S a 1 h1, if_pos (.inr ⟨h0, by rw [ext_size]; omega, hz⟩)]
theorem pn_cond (S : ByteArray) (a : Nat) (h : a < S.size) (h8 : S[a].toNat ≤ 8) (hz : S[a].toNat = 0 ∨ S.size ≤ a + 1 ∨ ∃ h1 : a + 1 < S.size, S[a + 1].toNat ≠ 0) :
    ¬ (8 < ((S.extract a S.size).data.toList.getD 0 0).toNat ∨ (0 < ((S.extract a S.size).data.toList.getD 0 0).toNat ∧ 1 < (S.extract a S.size).size ∧ ((S.extract a S.size).data.toList.getD 1 0).toNat = 0)) := by
  rw [ext_at S a 0 h, ext_size]
  rintro (g | ⟨g1, g2, g3⟩)
  · exact absurd g (by show ¬ 8 < S[a].toNat; omega)
  · rw [ext_at S a 1 (by omega)] at g3
    rcases hz with hz | hz | ⟨h1, hz⟩
    · exact absurd g1 (by show ¬ 0 < S[a].toNat; omega)
    · omega
    · exact hz g3
theorem pn_short (S : ByteArray) (a : Nat) (h : a < S.size) (h8 : S[a].toNat ≤ 8) (hz : S[a].toNat = 0 ∨ S.size ≤ a + 1 ∨ ∃ h1 : a + 1 < S.size, S[a + 1].toNat ≠ 0) (hs : S.size ≤ a + S[a].toNat) : numR MX (S.extract a S.size) = (0, 2, S.extract a S.size) := by
  have hc := pn_cond S a h h8 hz
  unfold numR
  rw [if_neg (by rw [ext_size]; omega)]
  dsimp only
  rw [if_neg hc, ext_at S a 0 h, if_pos (by rw [ext_size]; show S.size - a - 1 < S[a].toNat; omega)]
theorem pn_ok (S : ByteArray) (a : Nat) (h : a < S.size) (h8 : S[a].toNat ≤ 8) (hz : S[a].toNat = 0 ∨ S.size ≤ a + 1 ∨ ∃ h1 : a + 1 < S.size, S[a + 1].toNat ≠ 0) (hs : a + S[a].toNat < S.size) : numR MX (S.extract a S.size) = (val (((S.data.toList.drop a).drop 1).take S[a].toNat), 0, S.extract (a + 1 + S[a].toNat) S.size) := by
  have hc := pn_cond S a h h8 hz
  have hv : val (((S.data.toList.drop a).drop 1).take S[a].toNat) < 18446744073709551616 := Nat.lt_of_lt_of_le (val_lt _ 8 (by rw [List.length_take]; omega)) (by decide)
  unfold numR
  rw [if_neg (by rw [ext_size]; omega)]
  dsimp only
  rw [if_neg hc, ext_at S a 0 h, if_neg (by rw [ext_size]; show ¬ S.size - a - 1 < S[a].toNat; omega), ext_of, ext_ext]
  have hn : ¬ MX < val (((S.data.toList.drop a).drop 1).take (S[a + 0]).toNat) := by show ¬ 18446744073709551615 < val (((S.data.toList.drop a).drop 1).take S[a].toNat); omega
  rw [if_neg hn]
  show (val (((S.data.toList.drop a).drop 1).take S[a].toNat), (0 : Int), S.extract (a + (1 + S[a].toNat)) S.size) = _
  rw [Nat.add_assoc a 1]

set_option maxRecDepth 20000 in
theorem pfail_any (R : Nat) (S : ByteArray) (a : Nat) (b e : Int) (hs : S.size ≤ 1099511627776) (W : World) (hR : PLc W R S a b) :
    Calls Try.prog 41 #[.pointer (some ⟨R, 0, none⟩), .int .i64 e] W fun e' w' => e' = .returned (.tuple #[]) ∧ PLies w' R S ⟨⟨#[]⟩, e⟩ ∧ Only R W w' := by
  have HR := Lib.hid hR
  have c0 : W.cell? ⟨R, 0, none⟩ = some (.string S) := cell_at hR 0
  have c1 : W.cell? ⟨R, 1, none⟩ = some (.int .i64 (a : Int)) := cell_at hR 1
  have c2 : W.cell? ⟨R, 2, none⟩ = some (.int .i64 b) := cell_at hR 2
  have f1 := free_at hR 1
  have f2 := free_at hR 2
  have hs1 : (S.size : Int) ≤ 1099511627776 := by omega
  clear hR hs
  go_enter Try.func41, Try.ntmps41
  go_wp2
  refine bodyPost_end (results_none rfl _ _ _) rfl ?_
  exact ⟨rfl, ⟨S.size, Nat.le_refl _, (ext_nil S).symm, set_at (set_at HR.out 2 _) 1 _⟩, ((Only.refl _ _).set 2 _).set 1 _⟩
end Go.Proofs.Ythamemaomedldaa.Rd
