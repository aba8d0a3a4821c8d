/- Words of a line, numbers and digits: sums. -/
import Derived.Lib.ItoaNum
import Derived.Lib.AtoiAll
import Derived.Lib.ParseIntBCases
import Derived.Lib.SplitLaws
import Derived.Lib.Join
namespace Go.Proofs.YtnjcenbmdcogpaaGreatDoor.Sp
open Go Go.Lib

abbrev Bs := List UInt8
/-- the words of a line -/
def sp : Bs → List Bs
  | [] => [[]]
  | c :: l => if c = 32 then [] :: sp l else match sp l with
    | [] => [[c]]
    | w :: r => (c :: w) :: r
def jn : List Bs → Bs
  | [] => []
  | [a] => a
  | a :: b :: r => a ++ 32 :: jn (b :: r)
theorem sp_ne (l : Bs) : sp l ≠ [] := by
  cases l with
  | nil => simp [sp]
  | cons c l =>
    unfold sp
    split
    · simp
    · split <;> simp
theorem jn_sp (l : Bs) : jn (sp l) = l := by
  induction l with
  | nil => rfl
  | cons c l ih =>
    have hne := sp_ne l
    rw [sp]
    cases h : sp l with
    | nil => exact absurd h hne
    | cons w r =>
      rw [h] at ih
      by_cases hc : c = 32
      · rw [if_pos hc]; subst hc
        show [] ++ 32 :: jn (w :: r) = _
        rw [ih]; rfl
      · rw [if_neg hc]
        show jn ((c :: w) :: r) = c :: l
        rw [← ih]; cases r <;> rfl
theorem sp_one : ∀ {w : Bs}, (32 : UInt8) ∉ w → sp w = [w]
  | [], _ => rfl
  | c :: w, h => by
    have hc : c ≠ 32 := fun e => h (by simp [e])
    have ih := sp_one (w := w) fun e => h (by simp [e])
    simp [sp, hc, ih]
theorem sp_app : ∀ {w : Bs} (r : Bs), (32 : UInt8) ∉ w → sp (w ++ 32 :: r) = w :: sp r
  | [], r, _ => by simp [sp]
  | c :: w, r, h => by
    have hc : c ≠ 32 := fun e => h (by simp [e])
    have ih := sp_app (w := w) r fun e => h (by simp [e])
    simp [sp, hc, ih]
theorem sp_jn : ∀ {ws : List Bs}, ws ≠ [] → (∀ w ∈ ws, (32 : UInt8) ∉ w) → sp (jn ws) = ws
  | [], h, _ => absurd rfl h
  | [a], _, h => sp_one (h a (by simp))
  | a :: b :: r, _, h => by
    show sp (a ++ 32 :: jn (b :: r)) = _
    rw [sp_app _ (h a (by simp)), sp_jn (ws := b :: r) (by simp) fun w hw => h w (List.mem_cons_of_mem _ hw)]
theorem split_sp : ∀ l : Bs, splitK [32] 0 (l.count 32) l = sp l
  | [] => rfl
  | c :: l => by
    have ih := split_sp l
    by_cases hc : c = 32
    · subst hc
      rw [List.count_cons_self]
      have hi : index (32 :: l) [32] = 0 := by simp [index]
      simp only [splitK, hi]
      simpa [sp] using ih
    · rw [List.count_cons_of_ne hc]
      have hi : index (c :: l) [32] = if index l [32] == -1 then -1 else index l [32] + 1 := by
        have : ¬ ((32 : UInt8) = c) := fun e => hc e.symm
        simp [index, this]
      have hs : sp (c :: l) = match sp l with | [] => [[c]] | w :: r => (c :: w) :: r := by rw [sp, if_neg hc]
      rw [hs, ← ih]
      cases hk : l.count 32 with
      | zero => simp [splitK]
      | succ k =>
        by_cases hm : index l [32] = -1
        · simp [splitK, hi, hm]
        · have hge := index_ge l [32]
          obtain ⟨i, hi2⟩ : ∃ i : Nat, index l [32] = i := ⟨(index l [32]).toNat, by omega⟩
          have h1 : ((i : Int) == -1) = false := beq_eq_false_iff_ne.2 (by omega)
          have h2 : ((i : Int) + 1 == -1) = false := beq_eq_false_iff_ne.2 (by omega)
          have h3 : ((i : Int) + 1).toNat = i + 1 := by omega
          rw [hi2, h1] at hi
          simp [splitK, hi, hi2, h1, h2, h3]

/-- a number's digits, read strictly -/
def numAcc (acc : Nat) : Bs → Option Nat
  | [] => some acc
  | c :: r => if c.toNat < 48 ∨ 57 < c.toNat then none
    else if 1844674407370955161 < acc ∨ (acc = 1844674407370955161 ∧ 5 < c.toNat - 48) then none
    else numAcc (acc * 10 + (c.toNat - 48)) r
def numL (l : Bs) : Option Nat := if l = [] ∨ (1 < l.length ∧ l.head? = some 48) then none else numAcc 0 l
theorem numAcc_parse : ∀ (l : Bs) (acc u : Nat), numAcc acc l = some u ↔ parseUint10 acc l = .ok u
  | [], acc, u => by simp [numAcc, parseUint10]
  | c :: r, acc, u => by
    have ih := numAcc_parse r (acc * 10 + (c.toNat - 48)) u
    unfold numAcc parseUint10
    by_cases h : 48 ≤ c.toNat ∧ c.toNat ≤ 57
    · rw [if_neg (by omega), if_pos h]
      by_cases h2 : 1844674407370955162 ≤ acc
      · rw [if_pos (by omega), if_pos h2]; simp
      · rw [if_neg h2]
        by_cases h3 : 18446744073709551616 ≤ acc * 10 + (c.toNat - 48)
        · rw [if_pos (by omega), if_pos h3]; simp
        · rw [if_neg (by omega), if_neg h3]; exact ih
    · rw [if_pos (by omega), if_neg h]; simp
theorem numAcc_app : ∀ (l : Bs) (acc : Nat) (r : Bs), numAcc acc (l ++ r) = (numAcc acc l).bind fun v => numAcc v r
  | [], acc, r => rfl
  | c :: l, acc, r => by
    show numAcc acc (c :: (l ++ r)) = _
    have e : ∀ X, numAcc acc (c :: X) = if c.toNat < 48 ∨ 57 < c.toNat then none
      else if 1844674407370955161 < acc ∨ (acc = 1844674407370955161 ∧ 5 < c.toNat - 48) then none
      else numAcc (acc * 10 + (c.toNat - 48)) X := fun _ => rfl
    rw [e, e]
    split
    · rfl
    · split
      · rfl
      · exact numAcc_app l _ r
theorem numAcc_lt {l : Bs} {u : Nat} (h : numAcc 0 l = some u) : u < 18446744073709551616 :=
  parseUint10_lt l 0 u (by omega) ((numAcc_parse l 0 u).1 h)
theorem dec_one {u : Nat} (h : u < 10) : decDigits u = [UInt8.ofNat (48 + u)] := by rw [decDigits, dif_pos h]
theorem dec_more {u : Nat} (h : ¬ u < 10) : decDigits u = decDigits (u / 10) ++ [UInt8.ofNat (48 + u % 10)] := by rw [decDigits, dif_neg h]
theorem of48 {d : Nat} (h : d < 10) : (UInt8.ofNat (48 + d)).toNat = 48 + d := by
  rw [UInt8.toNat_ofNat']; omega
theorem of48' {c : UInt8} (h : 48 ≤ c.toNat) : UInt8.ofNat (48 + (c.toNat - 48)) = c := by
  rw [show 48 + (c.toNat - 48) = c.toNat by omega]; exact UInt8.ofNat_toNat
theorem num_dec : ∀ (n u : Nat), u ≤ n → u < 18446744073709551616 → numAcc 0 (decDigits u) = some u
  | n, u, hn, hu => by
    by_cases h : u < 10
    · rw [dec_one h]
      have e := of48 h
      simp only [numAcc, e]
      rw [if_neg (by omega), if_neg (by omega)]
      congr 1; omega
    · cases n with
      | zero => omega
      | succ n =>
        rw [dec_more h, numAcc_app, num_dec n (u / 10) (by omega) (by omega)]
        have e := of48 (show u % 10 < 10 by omega)
        show numAcc (u / 10) [UInt8.ofNat (48 + u % 10)] = some u
        simp only [numAcc, e]
        rw [if_neg (by omega), if_neg (by omega)]
        congr 1; omega
theorem dec_head : ∀ (n u : Nat), u ≤ n → u ≠ 0 → ∃ c r, decDigits u = c :: r ∧ c ≠ 48
  | n, u, hn, h0 => by
    by_cases h : u < 10
    · refine ⟨_, _, dec_one h, fun e => ?_⟩
      have := congrArg UInt8.toNat e
      rw [of48 h] at this
      have e2 : (48 : UInt8).toNat = 48 := rfl
      omega
    · cases n with
      | zero => omega
      | succ n =>
        obtain ⟨c, r, hc, hne⟩ := dec_head n (u / 10) (by omega) (by omega)
        exact ⟨c, r ++ [UInt8.ofNat (48 + u % 10)], by rw [dec_more h, hc]; rfl, hne⟩
theorem dec_ne (u : Nat) : decDigits u ≠ [] := by
  by_cases h : u < 10
  · rw [dec_one h]; simp
  · rw [dec_more h]; simp
theorem numL_dec {u : Nat} (hu : u < 18446744073709551616) : numL (decDigits u) = some u := by
  unfold numL
  rw [if_neg, num_dec u u (Nat.le_refl _) hu]
  rintro (h | ⟨h1, h2⟩)
  · exact dec_ne u h
  · by_cases h0 : u = 0
    · subst h0; rw [dec_one (by decide)] at h1; simp at h1
    · obtain ⟨c, r, hc, hne⟩ := dec_head u u (Nat.le_refl _) h0
      rw [hc] at h2; simp at h2; exact hne h2
theorem dec_numL : ∀ (n : Nat) (l : Bs) (u : Nat), l.length ≤ n → numL l = some u → decDigits u = l
  | n, l, u, hn, h => by
    unfold numL at h
    split at h
    · cases h
    · rename_i hg
      have hne : l ≠ [] := fun e => hg (.inl e)
      have hz : ¬ (1 < l.length ∧ l.head? = some 48) := fun e => hg (.inr e)
      obtain ⟨r, c, rfl⟩ : ∃ r c, l = r ++ [c] := ⟨l.dropLast, l.getLast hne, (List.dropLast_concat_getLast hne).symm⟩
      rw [numAcc_app] at h
      cases hv : numAcc 0 r with
      | none => rw [hv] at h; cases h
      | some v =>
        rw [hv] at h
        replace h : numAcc v [c] = some u := h
        simp only [numAcc] at h
        split at h
        · cases h
        · rename_i hc
          split at h
          · cases h
          · injection h with h
            by_cases hr : r = []
            · subst hr
              simp only [numAcc] at hv
              injection hv with hv
              rw [dec_one (by omega), show 48 + u = 48 + (c.toNat - 48) by omega, of48' (by omega)]; rfl
            · cases n with
              | zero => simp at hn
              | succ n =>
                have hh : (r ++ [c]).head? = r.head? := by cases r with | nil => exact absurd rfl hr | cons a t => rfl
                have hl : 0 < r.length := List.length_pos_iff.2 hr
                have h48 : r.head? ≠ some 48 := fun e => hz ⟨by simp; omega, hh.trans e⟩
                have hd := dec_numL n r v (by simp at hn; omega) (by unfold numL; rw [if_neg (fun e => e.elim hr fun e => h48 e.2), hv])
                have h0 : v ≠ 0 := fun e => by
                  subst e; rw [dec_one (by decide)] at hd
                  rw [← hd] at h48; exact h48 rfl
                rw [dec_more (by omega), show u / 10 = v by omega, hd, show 48 + u % 10 = 48 + (c.toNat - 48) by omega, of48' (by omega)]
theorem parse_dec {u : Nat} (hu : u < 18446744073709551616) : parseUintB 64 (decDigits u) = .ok u := by
  rw [parseUintB_64, parseMag, if_neg (dec_ne u)]
  exact (numAcc_parse _ 0 u).1 (num_dec u u (Nat.le_refl _) hu)
theorem dec_range : ∀ (n u : Nat), u ≤ n → ∀ c ∈ decDigits u, 48 ≤ c.toNat ∧ c.toNat ≤ 57
  | n, u, hn, c, hc => by
    by_cases h : u < 10
    · rw [dec_one h] at hc
      obtain rfl := List.mem_singleton.1 hc
      have := of48 h; omega
    · cases n with
      | zero => omega
      | succ n =>
        rw [dec_more h] at hc
        rcases List.mem_append.1 hc with hc | hc
        · exact dec_range n (u / 10) (by omega) c hc
        · obtain rfl := List.mem_singleton.1 hc
          have := of48 (show u % 10 < 10 by omega); omega
theorem dec_nosp (u : Nat) : (32 : UInt8) ∉ decDigits u := fun h => by
  have := dec_range u u (Nat.le_refl _) 32 h
  exact absurd this.1 (by decide)

/-- hexadecimal digits -/
def nib (c : UInt8) : Nat := if 48 ≤ c.toNat ∧ c.toNat ≤ 57 then c.toNat - 48 else if 97 ≤ c.toNat ∧ c.toNat ≤ 102 then c.toNat - 87 else 16
def hdig (n : Nat) : UInt8 := [48, 49, 50, 51, 52, 53, 54, 55, 56, 57, 97, 98, 99, 100, 101, 102].getD n 0
def hexL (l : Bs) : Bs := l.flatMap fun b => [hdig (b.toNat / 16), hdig (b.toNat % 16)]
def hexS (l : Bs) : Bs := if l = [] then [45] else hexL l
def unP : Bs → Option Bs
  | a :: b :: r => if 15 < nib a ∨ 15 < nib b then none else (unP r).map (UInt8.ofNat (16 * nib a + nib b) :: ·)
  | _ => some []
def bytesL (l : Bs) : Option Bs := if l = [45] then some [] else if l = [] ∨ l.length % 2 = 1 then none else unP l
def unhexL (l : Bs) : Bs := (unP l).getD []
theorem nib_hdig : ∀ n : Fin 16, nib (hdig n.val) = n.val := by decide
set_option maxRecDepth 100000 in
theorem hdig_nib' : ∀ n : Fin 256, nib (UInt8.ofNat n.val) ≤ 15 → hdig (nib (UInt8.ofNat n.val)) = UInt8.ofNat n.val := by decide
theorem hdig_nib {c : UInt8} (h : nib c ≤ 15) : hdig (nib c) = c := by
  have := hdig_nib' ⟨c.toNat, c.toNat_lt⟩
  simp only [UInt8.ofNat_toNat] at this
  exact this h
theorem hdig_ne : ∀ n : Fin 16, hdig n.val ≠ 32 := by decide
theorem hexL_cons (b : UInt8) (l : Bs) : hexL (b :: l) = hdig (b.toNat / 16) :: hdig (b.toNat % 16) :: hexL l := rfl
theorem unP_hexL : ∀ d : Bs, unP (hexL d) = some d
  | [] => rfl
  | b :: l => by
    have hb := b.toNat_lt
    have h1 := nib_hdig ⟨b.toNat / 16, by omega⟩
    have h2 := nib_hdig ⟨b.toNat % 16, by omega⟩
    simp only at h1 h2
    rw [hexL_cons, unP, h1, h2, if_neg (by omega), unP_hexL l, show 16 * (b.toNat / 16) + b.toNat % 16 = b.toNat by omega, UInt8.ofNat_toNat]
    rfl
theorem hexL_unP : ∀ (l d : Bs), l.length % 2 = 0 → unP l = some d → hexL d = l
  | [], d, _, h => by
    simp only [unP] at h
    injection h with h
    subst h; rfl
  | [a], d, hl, _ => by simp at hl
  | a :: b :: r, d, hl, h => by
    rw [unP] at h
    split at h
    · cases h
    · rename_i hg
      cases hr : unP r with
      | none => rw [hr] at h; cases h
      | some t =>
        rw [hr] at h
        injection h with h
        subst h
        have ih := hexL_unP r t (by simp at hl; omega) hr
        have e : (UInt8.ofNat (16 * nib a + nib b)).toNat = 16 * nib a + nib b := by rw [UInt8.toNat_ofNat']; omega
        rw [hexL_cons, e, show (16 * nib a + nib b) / 16 = nib a by omega, show (16 * nib a + nib b) % 16 = nib b by omega, hdig_nib (by omega), hdig_nib (by omega), ih]
theorem hexL_len (d : Bs) : (hexL d).length = 2 * d.length := by
  induction d with
  | nil => rfl
  | cons b l ih => rw [hexL_cons]; simp [ih]; omega
theorem unhex_hexS (d : Bs) : unhexL (hexS d) = d := by
  unfold hexS
  split
  · rename_i h; subst h; rfl
  · rw [unhexL, unP_hexL]; rfl
theorem bytes_hexS (d : Bs) : bytesL (hexS d) = some d := by
  unfold hexS
  split
  · rename_i h; subst h; rfl
  · rename_i h
    have hl := hexL_len d
    have h0 : 0 < d.length := List.length_pos_iff.2 h
    unfold bytesL
    rw [if_neg (fun e => by rw [e] at hl; simp at hl; omega), if_neg (fun e => e.elim (fun e => by rw [e] at hl; simp at hl; omega) (fun e => by omega)), unP_hexL]
theorem hexS_bytes {l d : Bs} (h : bytesL l = some d) : hexS d = l := by
  unfold bytesL at h
  split at h
  · injection h with h; subst h; rename_i e; rw [e]; rfl
  · split at h
    · cases h
    · rename_i h1 h2
      have hx := hexL_unP l d (by omega) h
      unfold hexS
      rw [if_neg, hx]
      intro e; subst e
      exact h2 (.inl hx.symm)
theorem hexL_nosp (d : Bs) : (32 : UInt8) ∉ hexL d := by
  induction d with
  | nil => simp [hexL]
  | cons b l ih =>
    have hb := b.toNat_lt
    have h1 := hdig_ne ⟨b.toNat / 16, by omega⟩
    have h2 := hdig_ne ⟨b.toNat % 16, by omega⟩
    rw [hexL_cons]
    simp only [List.mem_cons, not_or]
    exact ⟨fun e => h1 e.symm, fun e => h2 e.symm, ih⟩
theorem hexS_nosp (d : Bs) : (32 : UInt8) ∉ hexS d := by
  unfold hexS
  split
  · decide
  · exact hexL_nosp d
end Go.Proofs.YtnjcenbmdcogpaaGreatDoor.Sp
