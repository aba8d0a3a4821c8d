/- gap: a heap that stands for numbers. -/
import Derived.Test.YtlgbendncgboiaaGap22
namespace Go.Proofs.Ytlgbendncgboiaa.Gp
open Go Go.RowKit Gm

/-- the heap in block HH stands for the numbers L; nothing of it lies below block B -/
structure GH (B : Nat) (W : World) (HH : Nat) (v : Value) (L : List Int) : Prop where
  ex : ∃ l, HpO B W HH v l ∧ Hp l.length l ∧ Rep l L
  few : L.length ≤ 900
theorem GH.rise {B HH : Nat} {W : World} {v : Value} {L : List Int} (h : GH B W HH v L) : L.Pairwise (· < ·) := by
  obtain ⟨l, _, _, h3⟩ := h.ex; exact h3.sorted
theorem GH.below {B HH : Nat} {W V : World} {v : Value} {L : List Int} (h : GH B W HH v L) (hb : Below W.heap.size W V) : GH B V HH v L := by
  obtain ⟨l, h1, h2, h3⟩ := h.ex
  exact ⟨⟨l, h1.below hb, h2, h3⟩, h.few⟩
theorem GH.lt {B HH : Nat} {W : World} {v : Value} {L : List Int} (h : GH B W HH v L) : HH < W.heap.size := by
  obtain ⟨l, h1, _, _⟩ := h.ex; exact h1.lt
theorem GH.ownLt {B HH : Nat} {W : World} {v : Value} {L : List Int} (h : GH B W HH v L) : ∀ k, v.ownBlock = some k → k < W.heap.size := by
  obtain ⟨l, h1, _, _⟩ := h.ex; exact h1.ownLt
theorem GH.new (W : World) : GH W.heap.size (W.alloc (.cells #[.slice none 0 0] THp)) W.heap.size (.slice none 0 0) [] :=
  ⟨⟨[], ⟨heap_alloc_new W _, Nat.le_refl _, ⟨rfl, Or.inl ⟨rfl, rfl⟩⟩, by simp⟩, fun k _ h => by simp at h, Rep.nil⟩, by simp⟩
theorem in_dec {l : List (Int × Int)} {L : List Int} (h : Rep l L) (n : Int) (h1 : n ≤ 18446744073709551615) : decide (0 ≤ seek (p_in n) l 0) = decide (n ∈ L) := by
  rw [decide_eq_decide, h.mem n]
  rcases seek_or (p_in n) l with ⟨e, e2⟩ | ⟨i, hi, e, e2⟩
  · rw [e]
    refine ⟨fun h => absurd h (by decide), fun ⟨x, hx, hin⟩ => ?_⟩
    have := (in_iff (h.ok x hx) h1).2 hin
    rw [e2 x hx] at this
    cases this
  · rw [e]
    exact ⟨fun _ => ⟨_, List.getElem_mem hi, (in_iff (h.ok _ (List.getElem_mem hi)) h1).1 e2⟩, fun _ => Int.natCast_nonneg _⟩
theorem ghas_any (B HH : Nat) (v : Value) (L : List Int) (n : Int) (W : World) (h : GH B W HH v L) (h1 : n ≤ 18446744073709551615) : Calls Try.prog 12 #[.pointer (some ⟨HH, 0, none⟩), .int .u64 n] W fun e w' => e = .returned (.bool (decide (n ∈ L))) ∧ Below W.heap.size W w' := by
  obtain ⟨l, a, _, c⟩ := h.ex
  rw [← in_dec c n h1]
  exact has_any HH v l n W a.is
theorem gput_any (B HH : Nat) (v : Value) (L : List Int) (n : Int) (W : World) (h : GH B W HH v L) (hB : B ≤ W.heap.size) (h0 : 0 ≤ n) (h1 : n ≤ 18446744073709551615) (hf : L.length < 900) :
    Calls Try.prog 8 #[.pointer (some ⟨HH, 0, none⟩), .int .u64 n] W fun e w' => e = .returned (.int .i64 (putC n L)) ∧ ∃ v', GH B w' HH v' (putS n L) ∧ Below B W w' ∧ Fr HH v v' W w' := by
  obtain ⟨l, a, b, c⟩ := h.ex
  unfold putC putS
  by_cases ht : n = 18446744073709551615
  · rw [if_pos ht, if_pos (Or.inl ht)]
    subst ht
    refine (put_top HH W).mono ?_
    rintro e w' ⟨rfl, hb⟩
    exact ⟨rfl, v, h.below hb, hb.mono hB, Fr.of_below hb⟩
  · rw [if_neg ht]
    by_cases hm : n ∈ L
    · rw [if_pos hm, if_pos (Or.inr hm)]
      refine (put_has HH v l n W a.is ht (by rw [in_dec c n h1]; exact decide_eq_true hm)).mono ?_
      rintro e w' ⟨rfl, hb⟩
      exact ⟨rfl, v, h.below hb, hb.mono hB, Fr.of_below hb⟩
    · rw [if_neg hm, if_neg (by rintro (e | e); exact ht e; exact hm e)]
      refine (put_go B HH v l n W a hB h0 (by omega) c.ok (fun x hx hi => hm ((c.mem n).2 ⟨x, hx, hi⟩)) (by have := c.few; omega) b).mono ?_
      rintro e w' ⟨rfl, v', l', a', b', rest, e1, e2, e3, e4, e5, e6, e7, e8⟩
      exact ⟨rfl, v', ⟨⟨l', e1, e2, c.put_ok h0 (by omega) hm a' b' e5 e6 e7 e8⟩, by rw [putL_len]; omega⟩, e3, e4⟩
theorem glenH (B HH : Nat) (v : Value) (L : List Int) (W : World) (h : GH B W HH v L) : Calls Try.prog 16 #[.pointer (some ⟨HH, 0, none⟩)] W fun e w' => e = .returned (.int .u64 (L.length : Int)) ∧ Below W.heap.size W w' := by
  obtain ⟨l, a, _, c⟩ := h.ex
  rw [c.len]
  have := c.len
  have := h.few
  exact glen_any HH v l W a.is (by have := c.few; omega) (fun x hx => by have := c.ok x hx; unfold Okr at this; omega) (by omega)
theorem grunsH (B HH : Nat) (v : Value) (L : List Int) (W : World) (h : GH B W HH v L) : Calls Try.prog 15 #[.pointer (some ⟨HH, 0, none⟩)] W fun e w' => ∃ v2 ls, e = .returned v2 ∧ RunsV W.heap.size v2 ls w' ∧ Srt ls ∧ L = expd ls ∧ Below W.heap.size W w' := by
  obtain ⟨l, a, _, c⟩ := h.ex
  refine (runs_any HH v l (by have := c.few; have := h.few; omega) W a.is).mono ?_
  rintro e w' ⟨v2, ls, rfl, h1, h2, h3, h4⟩
  obtain ⟨s, e⟩ := c.srt h2 h3
  exact ⟨v2, ls, rfl, h1, s, e, h4⟩
/-- what Take takes: the first number, how many, the code -/
def tkF (most : Int) (L : List Int) : Int := if most = 0 ∨ L = [] then 0 else L.headD 0
def tkM (most : Int) (L : List Int) : Int := if most = 0 ∨ L = [] then 0 else min (lng L : Int) most
def tkC (most : Int) (L : List Int) : Int := if most = 0 then 1 else if L = [] then 8 else 0
theorem hp_set0 {l : List (Int × Int)} {x y : Int × Int} {rest : List (Int × Int)} (hl : l = x :: rest) (hp : Hp l.length l) (hy : ∀ z ∈ rest, y.1 ≤ z.1) : Hp (l.set 0 y).length (l.set 0 y) := by
  subst hl
  intro k k0 kn
  have kn' : k < (x :: rest).length := by simpa using kn
  have hk := hp k k0 kn'
  have e1 : ∀ j, 0 < j → key ((x :: rest).set 0 y) j = key (x :: rest) j := fun j j0 => by
    obtain ⟨j, rfl⟩ : ∃ i, j = i + 1 := ⟨j - 1, by omega⟩
    rfl
  rw [e1 k k0]
  by_cases e : (k - 1) / 2 = 0
  · rw [e]
    show y.1 ≤ _
    obtain ⟨j, rfl⟩ : ∃ i, k = i + 1 := ⟨k - 1, by omega⟩
    have hj : j < rest.length := by simpa using kn'
    have : key (x :: rest) (j + 1) = rest[j].1 := by unfold key; simp [List.getD_eq_getElem?_getD, hj]
    rw [this]
    exact hy _ (List.getElem_mem hj)
  · rw [e1 _ (by omega)]
    exact hk
theorem gtake_any (B HH : Nat) (v : Value) (L : List Int) (most : Int) (W : World) (h : GH B W HH v L) (hB : B ≤ W.heap.size) (h0 : 0 ≤ most) :
    Calls Try.prog 10 #[.pointer (some ⟨HH, 0, none⟩), .int .u64 most] W fun e w' => e = .returned (.tuple #[.int .u64 (tkF most L), .int .u64 (tkM most L), .int .i64 (tkC most L)]) ∧ ∃ v', GH B w' HH v' (L.drop (tkM most L).toNat) ∧ Below B W w' ∧ Fr HH v v' W w' := by
  unfold tkF tkM tkC
  obtain ⟨l, a, b, c⟩ := h.ex
  by_cases hm : most = 0
  · subst hm
    simp only [true_or, if_true]
    refine (take_zero HH W).mono ?_
    rintro e w' ⟨rfl, rfl⟩
    exact ⟨rfl, v, h, Below.refl _ _, Fr.of_below (Below.refl _ _)⟩
  · by_cases hL : L = []
    · have hl : l = [] := by
        cases l with
        | nil => rfl
        | cons x l =>
          have hx := c.ok x (by simp)
          have := (c.mem x.1).2 ⟨x, by simp, by unfold In; unfold Okr at hx; omega⟩
          rw [hL] at this
          cases this
      subst hl
      rw [if_pos (Or.inr hL), if_pos (Or.inr hL), if_neg hm, if_pos hL]
      obtain ⟨A, cap, hv⟩ := own_form2 a.row
      have hb := a.box
      rw [hv] at hb
      refine (take_none HH cap A most (by omega) W hb).mono ?_
      rintro e w' ⟨rfl, rfl⟩
      exact ⟨rfl, v, h, Below.refl _ _, Fr.of_below (Below.refl _ _)⟩
    · rw [if_neg (by rintro (e | e); exact hm e; exact hL e), if_neg (by rintro (e | e); exact hm e; exact hL e), if_neg hm, if_neg hL]
      have h0l : 0 < l.length := by
        cases l with
        | nil =>
          exfalso
          apply hL
          cases L with
          | nil => rfl
          | cons y L => obtain ⟨x, hx, _⟩ := (c.mem y).1 (by simp); cases hx
        | cons x l => simp
      obtain ⟨g, cap, rfl, -⟩ := own_block a.row h0l
      obtain ⟨x, hx⟩ : ∃ x, l[0] = x := ⟨_, rfl⟩
      obtain ⟨rest, hrest⟩ : ∃ rest, l = x :: rest := by
        cases l with
        | nil => cases h0l
        | cons y l => exact ⟨l, by rw [← hx]; rfl⟩
      have hok := c.ok x (by rw [hrest]; simp)
      have hmin : ∀ y ∈ l, x.1 ≤ y.1 := fun y hy => by
        have := key_mem b y hy
        rw [hrest] at this
        exact this
      have hpm : (x :: rest).Perm l := by rw [hrest]
      obtain ⟨t1, t2, t3⟩ := c.take_all hpm hmin
      have hhd : L.headD 0 = x.1 := by
        cases L with
        | nil => cases t2
        | cons y L => simpa using t2
      rw [hhd, t1]
      by_cases hle : x.2 ≤ most
      · rw [show min x.2 most = x.2 by omega]
        refine (take_full2 B HH g cap l.length l x most W a hB h0l hx hok (by omega) hle b).mono ?_
        rintro e w' ⟨rfl, v', r, e1, e2, e3, e4, e5⟩
        refine ⟨rfl, v', ⟨⟨r, e1, e3, ?_⟩, by rw [List.length_drop]; have := h.few; omega⟩, e4, e5⟩
        have hpr : rest.Perm r := (List.perm_cons x).1 (hpm.trans e2.symm)
        exact t3.perm hpr
      · rw [show min x.2 most = most by omega]
        refine (take_part2 B HH g cap l.length l x most W a hB h0l hx hok (by omega) (by omega)).mono ?_
        rintro e w' ⟨rfl, v', e1, e4, e5⟩
        refine ⟨rfl, v', ⟨⟨_, e1, ?_, ?_⟩, by rw [List.length_drop]; have := h.few; omega⟩, e4, e5⟩
        · refine hp_set0 hrest b fun z hz => ?_
          have ap := c.apart
          rw [hrest] at ap
          have h1 := (List.pairwise_cons.1 ap).1 z hz
          have h2 := hmin z (by rw [hrest]; simp [hz])
          have h3 := c.ok z (by rw [hrest]; simp [hz])
          unfold Apart at h1
          unfold Okr at h3 hok
          dsimp only
          omega
        · have := c.take_some hpm hmin most.toNat (by omega)
          rw [show ((most.toNat : Nat) : Int) = most by omega] at this
          rw [hrest]
          exact this
end Go.Proofs.Ytlgbendncgboiaa.Gp
