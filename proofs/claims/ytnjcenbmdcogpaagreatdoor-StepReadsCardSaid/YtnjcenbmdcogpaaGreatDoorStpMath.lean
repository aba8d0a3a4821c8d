/- A step's words, and what is read of them: sums. -/
import Derived.Test.YtnjcenbmdcogpaaGreatDoorSpMath
import Derived.Test.YtnjcenbmdcogpaaGreatDoorCommon
namespace Go.Proofs.YtnjcenbmdcogpaaGreatDoor.Sp
open Go Go.Lib Go.RowKit

structure St where
  k : Int
  sd : Int
  n : Int
  c : Int
  f : Int
  s : Int
  t : Int
  d : ByteArray
def St.cells (x : St) : Array Value := #[.int .i64 x.k, .int .i64 x.sd, .int .i64 x.n, .int .i64 x.c, .int .i64 x.f, .int .u64 x.s, .int .u64 x.t, .string x.d]
def St0 : St := ⟨0, 0, 0, 0, 0, 0, 0, ⟨#[]⟩⟩
def wd : Nat → Bs
  | 1 => [112, 105, 99, 107]
  | 2 => [116, 105, 99, 107]
  | 3 => [115, 101, 110, 100]
  | 4 => [114, 101, 106, 101, 99, 116]
  | 5 => [99, 114, 97, 115, 104]
  | 6 => [102, 111, 114, 101, 105, 103, 110]
  | 7 => [115, 116, 111, 112]
  | 8 => [115, 116, 97, 114, 116]
  | _ => []
def kL (w : Bs) : Nat := if w = wd 1 then 1 else if w = wd 2 then 2 else if w = wd 3 then 3 else if w = wd 4 then 4 else if w = wd 5 then 5 else if w = wd 6 then 6 else if w = wd 7 then 7 else if w = wd 8 then 8 else 0
theorem kL_le (w : Bs) : kL w ≤ 8 := by unfold kL; repeat' split
                                        all_goals decide
theorem kL_wd : ∀ k, 1 ≤ k → k ≤ 8 → kL (wd k) = k
  | 1, _, _ => by decide
  | 2, _, _ => by decide
  | 3, _, _ => by decide
  | 4, _, _ => by decide
  | 5, _, _ => by decide
  | 6, _, _ => by decide
  | 7, _, _ => by decide
  | 8, _, _ => by decide
theorem wd_kL {w : Bs} {k : Nat} (h : kL w = k) (h0 : k ≠ 0) : w = wd k := by
  unfold kL at h
  repeat' split at h
  all_goals first | (subst h; assumption) | omega
def noP (x : St) : Prop := x.c = 0 ∧ x.f = 0 ∧ x.s = 0 ∧ x.t = 0 ∧ x.d = ⟨#[]⟩
def pkP (x : St) : Prop := 0 ≤ x.c ∧ x.c < 4 ∧ (x.f = 0 ∨ x.f = 1) ∧ x.d.size ≤ 64 ∧ x.s = 0
def rightP (x : St) : Prop :=
  (x.k = 1 ∧ x.sd = 0 ∧ 0 ≤ x.n ∧ x.n ≤ 2147483647 ∧ noP x) ∨ (x.k = 2 ∧ (x.sd = 0 ∨ x.sd = 1) ∧ x.n = 0 ∧ noP x) ∨
  (x.k = 3 ∧ x.sd = 0 ∧ x.n = 0 ∧ pkP x) ∨ (x.k = 4 ∧ (x.sd = 0 ∨ x.sd = 1) ∧ x.n = 0 ∧ noP x) ∨
  (x.k = 5 ∧ x.sd = 0 ∧ 0 ≤ x.n ∧ x.n ≤ 7 ∧ noP x) ∨ (x.k = 6 ∧ (x.sd = 0 ∨ x.sd = 1) ∧ 1 ≤ x.n ∧ x.n ≤ 4 ∧ noP x) ∨
  (x.k = 7 ∧ x.sd = 0 ∧ x.n = 0 ∧ noP x) ∨ (x.k = 8 ∧ x.sd = 0 ∧ x.n = 0 ∧ noP x)
instance (x : St) : Decidable (noP x) := by unfold noP; infer_instance
instance (x : St) : Decidable (pkP x) := by unfold pkP; infer_instance
instance (x : St) : Decidable (rightP x) := by unfold rightP; infer_instance

def wordsOf (x : St) : List Bs :=
  if x.k = 1 then [wd 1, decDigits x.n.toNat] else if x.k = 2 then [wd 2, decDigits x.sd.toNat] else
  if x.k = 3 then [wd 3, decDigits x.c.toNat, decDigits x.f.toNat, decDigits x.t.toNat, hexS x.d.data.toList] else
  if x.k = 4 then [wd 4, decDigits x.sd.toNat] else if x.k = 5 then [wd 5, decDigits x.n.toNat] else
  if x.k = 6 then [wd 6, decDigits x.sd.toNat, decDigits x.n.toNat] else if x.k = 7 then [wd 7] else [wd 8]
def numP (w : Bs) : Nat := match parseUintB 64 w with
  | .ok u => u
  | .range => 18446744073709551615
  | _ => 0
def z1 (w : Bs) : Int := IntKind.i64.wrap (numP w)
def looseK (k : Nat) (a b c d : Bs) : St := match k with
  | 1 => ⟨1, 0, z1 a, 0, 0, 0, 0, ⟨#[]⟩⟩
  | 2 => ⟨2, z1 a, 0, 0, 0, 0, 0, ⟨#[]⟩⟩
  | 3 => ⟨3, 0, 0, z1 a, z1 b, 0, numP c, ⟨(unhexL d).toArray⟩⟩
  | 4 => ⟨4, z1 a, 0, 0, 0, 0, 0, ⟨#[]⟩⟩
  | 5 => ⟨5, 0, z1 a, 0, 0, 0, 0, ⟨#[]⟩⟩
  | 6 => ⟨6, z1 a, z1 b, 0, 0, 0, 0, ⟨#[]⟩⟩
  | 7 => ⟨7, 0, 0, 0, 0, 0, 0, ⟨#[]⟩⟩
  | 8 => ⟨8, 0, 0, 0, 0, 0, 0, ⟨#[]⟩⟩
  | _ => St0
def loose (ws : List Bs) : St := looseK (kL (ws.getD 0 [])) (ws.getD 1 []) (ws.getD 2 []) (ws.getD 3 []) (ws.getD 4 [])
def sm (w : Bs) (m : Nat) : Option Nat := (numL w).bind fun u => if u ≤ m then some u else none
def strict : List Bs → Option St
  | [a] => if kL a = 7 then some ⟨7, 0, 0, 0, 0, 0, 0, ⟨#[]⟩⟩ else if kL a = 8 then some ⟨8, 0, 0, 0, 0, 0, 0, ⟨#[]⟩⟩ else none
  | [a, b] => if kL a = 1 then (sm b 2147483647).map fun (u : Nat) => ⟨1, 0, (u : Int), 0, 0, 0, 0, ⟨#[]⟩⟩ else if kL a = 2 then (sm b 1).map fun (u : Nat) => ⟨2, (u : Int), 0, 0, 0, 0, 0, ⟨#[]⟩⟩
    else if kL a = 4 then (sm b 1).map fun (u : Nat) => ⟨4, (u : Int), 0, 0, 0, 0, 0, ⟨#[]⟩⟩ else if kL a = 5 then (sm b 7).map fun (u : Nat) => ⟨5, 0, (u : Int), 0, 0, 0, 0, ⟨#[]⟩⟩ else none
  | [a, b, c] => if kL a = 6 then (sm b 1).bind fun u => (sm c 4).bind fun v => if v = 0 then none else some ⟨6, u, v, 0, 0, 0, 0, ⟨#[]⟩⟩ else none
  | [a, b, c, d, e] => if kL a = 3 then (sm b 3).bind fun u => (sm c 1).bind fun v => (numL d).bind fun t => (bytesL e).bind fun y =>
      if y.length ≤ 64 then some ⟨3, 0, 0, u, v, 0, t, ⟨y.toArray⟩⟩ else none else none
  | _ => none
theorem sm_some {w : Bs} {m u : Nat} (h : sm w m = some u) : u ≤ m ∧ decDigits u = w := by
  unfold sm at h
  cases hn : numL w with
  | none => rw [hn] at h; cases h
  | some v =>
    rw [hn] at h
    replace h : (if v ≤ m then some v else none) = some u := h
    split at h
    · injection h with h; subst h; exact ⟨by assumption, dec_numL _ w v (Nat.le_refl _) hn⟩
    · cases h
theorem sm_dec {u m : Nat} (h : u ≤ m) (hm : m < 18446744073709551616) : sm (decDigits u) m = some u := by
  unfold sm
  rw [numL_dec (by omega)]
  exact if_pos h
theorem num_some {w : Bs} {u : Nat} (h : numL w = some u) : u < 18446744073709551616 ∧ decDigits u = w := by
  refine ⟨?_, dec_numL _ w u (Nat.le_refl _) h⟩
  unfold numL at h
  split at h
  · cases h
  · exact numAcc_lt h
theorem t00 : (0 : Int) ≤ 0 := by decide
theorem t01 : (0 : Int) < 18446744073709551616 := by decide
theorem strict_ok {ws : List Bs} {x : St} (h : strict ws = some x) : rightP x ∧ 0 ≤ x.t ∧ x.t < 18446744073709551616 ∧ wordsOf x = ws := by
  unfold strict at h
  split at h
  · rename_i a
    split at h
    · injection h with h; subst h; rename_i e; exact ⟨by decide, t00, t01, by rw [wd_kL e (by decide)]; rfl⟩
    · split at h
      · injection h with h; subst h; rename_i e; exact ⟨by decide, t00, t01, by rw [wd_kL e (by decide)]; rfl⟩
      · cases h
  · rename_i a b
    split at h
    · rename_i e
      cases hb : sm b 2147483647 with
      | none => rw [hb] at h; cases h
      | some u =>
        rw [hb] at h; injection h with h; subst h
        obtain ⟨h1, h2⟩ := sm_some hb
        exact ⟨.inl ⟨rfl, rfl, by show (0 : Int) ≤ u; omega, by show (u : Int) ≤ _; omega, rfl, rfl, rfl, rfl, rfl⟩, t00, t01, by rw [wd_kL e (by decide), ← h2]; rfl⟩
    · split at h
      · rename_i e
        cases hb : sm b 1 with
        | none => rw [hb] at h; cases h
        | some u =>
          rw [hb] at h; injection h with h; subst h
          obtain ⟨h1, h2⟩ := sm_some hb
          exact ⟨.inr (.inl ⟨rfl, by show (u : Int) = 0 ∨ (u : Int) = 1; omega, rfl, rfl, rfl, rfl, rfl, rfl⟩), t00, t01, by rw [wd_kL e (by decide), ← h2]; rfl⟩
      · split at h
        · rename_i e
          cases hb : sm b 1 with
          | none => rw [hb] at h; cases h
          | some u =>
            rw [hb] at h; injection h with h; subst h
            obtain ⟨h1, h2⟩ := sm_some hb
            exact ⟨.inr (.inr (.inr (.inl ⟨rfl, by show (u : Int) = 0 ∨ (u : Int) = 1; omega, rfl, rfl, rfl, rfl, rfl, rfl⟩))), t00, t01, by rw [wd_kL e (by decide), ← h2]; rfl⟩
        · split at h
          · rename_i e
            cases hb : sm b 7 with
            | none => rw [hb] at h; cases h
            | some u =>
              rw [hb] at h; injection h with h; subst h
              obtain ⟨h1, h2⟩ := sm_some hb
              exact ⟨.inr (.inr (.inr (.inr (.inl ⟨rfl, rfl, by show (0 : Int) ≤ u; omega, by show (u : Int) ≤ _; omega, rfl, rfl, rfl, rfl, rfl⟩)))), t00, t01, by rw [wd_kL e (by decide), ← h2]; rfl⟩
          · cases h
  · rename_i a b c
    split at h
    · rename_i e
      cases hb : sm b 1 with
      | none => rw [hb] at h; cases h
      | some u =>
        rw [hb] at h
        cases hc : sm c 4 with
        | none => rw [hc] at h; cases h
        | some v =>
          rw [hc] at h
          replace h : (if v = 0 then none else some (⟨6, u, v, 0, 0, 0, 0, ⟨#[]⟩⟩ : St)) = some x := h
          split at h
          · cases h
          · injection h with h; subst h
            obtain ⟨h1, h2⟩ := sm_some hb
            obtain ⟨h3, h4⟩ := sm_some hc
            exact ⟨.inr (.inr (.inr (.inr (.inr (.inl ⟨rfl, by show (u : Int) = 0 ∨ (u : Int) = 1; omega, by show (1 : Int) ≤ v; omega, by show (v : Int) ≤ _; omega, rfl, rfl, rfl, rfl, rfl⟩))))), t00, t01, by rw [wd_kL e (by decide), ← h2, ← h4]; rfl⟩
    · cases h
  · rename_i a b c d e
    split at h
    · rename_i ek
      cases hb : sm b 3 with
      | none => rw [hb] at h; cases h
      | some u =>
        rw [hb] at h
        cases hc : sm c 1 with
        | none => rw [hc] at h; cases h
        | some v =>
          rw [hc] at h
          cases hd : numL d with
          | none => rw [hd] at h; cases h
          | some t =>
            rw [hd] at h
            cases he : bytesL e with
            | none => rw [he] at h; cases h
            | some y =>
              rw [he] at h
              replace h : (if y.length ≤ 64 then some (⟨3, 0, 0, u, v, 0, t, ⟨y.toArray⟩⟩ : St) else none) = some x := h
              split at h
              · rename_i hy
                injection h with h; subst h
                obtain ⟨h1, h2⟩ := sm_some hb
                obtain ⟨h3, h4⟩ := sm_some hc
                obtain ⟨h5, h6⟩ := num_some hd
                have h7 := hexS_bytes he
                exact ⟨.inr (.inr (.inl ⟨rfl, rfl, rfl, by show (0 : Int) ≤ u; omega, by show (u : Int) < 4; omega, by show (v : Int) = 0 ∨ (v : Int) = 1; omega, hy, rfl⟩)), by show (0 : Int) ≤ t; omega, by show (t : Int) < _; omega, by rw [wd_kL ek (by decide), ← h2, ← h4, ← h6, ← h7]; rfl⟩
              · cases h
    · cases h
  · cases h
theorem numP_dec {u : Nat} (hu : u < 18446744073709551616) : numP (decDigits u) = u := by unfold numP; rw [parse_dec hu]
theorem numP_lt (w : Bs) : numP w < 18446744073709551616 := by
  unfold numP
  split
  · rename_i u h
    have := parseUintB_le h
    omega
  · decide
  · decide
theorem wrapN {u : Nat} (h : u < 9223372036854775808) : IntKind.i64.wrap (u : Int) = u := by simp [IntKind.wrap, IntKind.bits, IntKind.signed]; omega
theorem z1_dec {i : Int} (h0 : 0 ≤ i) (h1 : i < 9223372036854775808) : z1 (decDigits i.toNat) = i := by
  unfold z1
  rw [numP_dec (by omega), wrapN (by omega)]; omega
theorem loose_words {x : St} (h : rightP x) (t0 : 0 ≤ x.t) (t1 : x.t < 18446744073709551616) : loose (wordsOf x) = x := by
  obtain ⟨k, sd, n, c, f, s, t, d⟩ := x
  rcases h with ⟨h1, h2, h3, h4, p1, p2, p3, p4, p5⟩ | ⟨h1, h2, h3, p1, p2, p3, p4, p5⟩ | ⟨h1, h2, h3, p1, p2, p3, p4, p5⟩ | ⟨h1, h2, h3, p1, p2, p3, p4, p5⟩ | ⟨h1, h2, h3, h4, p1, p2, p3, p4, p5⟩ | ⟨h1, h2, h3, h4, p1, p2, p3, p4, p5⟩ | ⟨h1, h2, h3, p1, p2, p3, p4, p5⟩ | ⟨h1, h2, h3, p1, p2, p3, p4, p5⟩
  all_goals simp only at *
  · subst h1 h2 p1 p2 p3 p4 p5; show (⟨1, 0, z1 (decDigits n.toNat), 0, 0, 0, 0, ⟨#[]⟩⟩ : St) = _; rw [z1_dec h3 (by omega)]
  · subst h1 h3 p1 p2 p3 p4 p5; show (⟨2, z1 (decDigits sd.toNat), 0, 0, 0, 0, 0, ⟨#[]⟩⟩ : St) = _; rw [z1_dec (by omega) (by omega)]
  · subst h1 h2 h3 p5
    show (⟨3, 0, 0, z1 (decDigits c.toNat), z1 (decDigits f.toNat), 0, numP (decDigits t.toNat), ⟨(unhexL (hexS d.data.toList)).toArray⟩⟩ : St) = _
    rw [z1_dec (by omega) (by omega), z1_dec (by omega) (by omega), numP_dec (by omega), unhex_hexS, show ((t.toNat : Nat) : Int) = t by omega]
  · subst h1 h3 p1 p2 p3 p4 p5; show (⟨4, z1 (decDigits sd.toNat), 0, 0, 0, 0, 0, ⟨#[]⟩⟩ : St) = _; rw [z1_dec (by omega) (by omega)]
  · subst h1 h2 p1 p2 p3 p4 p5; show (⟨5, 0, z1 (decDigits n.toNat), 0, 0, 0, 0, ⟨#[]⟩⟩ : St) = _; rw [z1_dec h3 (by omega)]
  · subst h1 p1 p2 p3 p4 p5; show (⟨6, z1 (decDigits sd.toNat), z1 (decDigits n.toNat), 0, 0, 0, 0, ⟨#[]⟩⟩ : St) = _; rw [z1_dec (by omega) (by omega), z1_dec (by omega) (by omega)]
  · subst h1 h2 h3 p1 p2 p3 p4 p5; rfl
  · subst h1 h2 h3 p1 p2 p3 p4 p5; rfl
theorem strict_words {x : St} (h : rightP x) (t0 : 0 ≤ x.t) (t1 : x.t < 18446744073709551616) : strict (wordsOf x) = some x := by
  obtain ⟨k, sd, n, c, f, s, t, d⟩ := x
  rcases h with ⟨h1, h2, h3, h4, p1, p2, p3, p4, p5⟩ | ⟨h1, h2, h3, p1, p2, p3, p4, p5⟩ | ⟨h1, h2, h3, p1, p2, p3, p4, p5⟩ | ⟨h1, h2, h3, p1, p2, p3, p4, p5⟩ | ⟨h1, h2, h3, h4, p1, p2, p3, p4, p5⟩ | ⟨h1, h2, h3, h4, p1, p2, p3, p4, p5⟩ | ⟨h1, h2, h3, p1, p2, p3, p4, p5⟩ | ⟨h1, h2, h3, p1, p2, p3, p4, p5⟩
  all_goals simp only at *
  · subst h1 h2 p1 p2 p3 p4 p5
    show (sm (decDigits n.toNat) 2147483647).map (fun (u : Nat) => (⟨1, 0, (u : Int), 0, 0, 0, 0, ⟨#[]⟩⟩ : St)) = _
    rw [sm_dec (by omega) (by decide), Option.map_some, show ((n.toNat : Nat) : Int) = n by omega]
  · subst h1 h3 p1 p2 p3 p4 p5
    show (sm (decDigits sd.toNat) 1).map (fun (u : Nat) => (⟨2, (u : Int), 0, 0, 0, 0, 0, ⟨#[]⟩⟩ : St)) = _
    rw [sm_dec (by omega) (by decide), Option.map_some, show ((sd.toNat : Nat) : Int) = sd by omega]
  · subst h1 h2 h3 p5
    show ((sm (decDigits c.toNat) 3).bind fun u => (sm (decDigits f.toNat) 1).bind fun v => (numL (decDigits t.toNat)).bind fun t => (bytesL (hexS d.data.toList)).bind fun y => if y.length ≤ 64 then some (⟨3, 0, 0, u, v, 0, t, ⟨y.toArray⟩⟩ : St) else none) = _
    rw [sm_dec (by omega) (by decide), sm_dec (by omega) (by decide), numL_dec (by omega), bytes_hexS]
    show (if d.data.toList.length ≤ 64 then some (⟨3, 0, 0, c.toNat, f.toNat, 0, t.toNat, ⟨d.data.toList.toArray⟩⟩ : St) else none) = _
    rw [if_pos (by simpa using p4), show ((c.toNat : Nat) : Int) = c by omega, show ((f.toNat : Nat) : Int) = f by omega, show ((t.toNat : Nat) : Int) = t by omega]
  · subst h1 h3 p1 p2 p3 p4 p5
    show (sm (decDigits sd.toNat) 1).map (fun (u : Nat) => (⟨4, (u : Int), 0, 0, 0, 0, 0, ⟨#[]⟩⟩ : St)) = _
    rw [sm_dec (by omega) (by decide), Option.map_some, show ((sd.toNat : Nat) : Int) = sd by omega]
  · subst h1 h2 p1 p2 p3 p4 p5
    show (sm (decDigits n.toNat) 7).map (fun (u : Nat) => (⟨5, 0, (u : Int), 0, 0, 0, 0, ⟨#[]⟩⟩ : St)) = _
    rw [sm_dec (by omega) (by decide), Option.map_some, show ((n.toNat : Nat) : Int) = n by omega]
  · subst h1 p1 p2 p3 p4 p5
    show ((sm (decDigits sd.toNat) 1).bind fun u => (sm (decDigits n.toNat) 4).bind fun v => if v = 0 then none else some (⟨6, u, v, 0, 0, 0, 0, ⟨#[]⟩⟩ : St)) = _
    rw [sm_dec (by omega) (by decide), sm_dec (by omega) (by decide)]
    show (if n.toNat = 0 then none else some (⟨6, sd.toNat, n.toNat, 0, 0, 0, 0, ⟨#[]⟩⟩ : St)) = _
    rw [if_neg (by omega), show ((sd.toNat : Nat) : Int) = sd by omega, show ((n.toNat : Nat) : Int) = n by omega]
  · subst h1 h2 h3 p1 p2 p3 p4 p5; rfl
  · subst h1 h2 h3 p1 p2 p3 p4 p5; rfl
theorem wd_nosp : ∀ k, (32 : UInt8) ∉ wd k := by
  intro k
  unfold wd
  split <;> decide
theorem words_nosp (x : St) : ∀ w ∈ wordsOf x, (32 : UInt8) ∉ w := by
  intro w hw
  unfold wordsOf at hw
  have h1 := wd_nosp
  have h2 := dec_nosp
  have h3 := hexS_nosp
  repeat' split at hw
  all_goals simp only [List.mem_cons, List.not_mem_nil, or_false] at hw
  all_goals (first | (rcases hw with rfl | rfl | rfl | rfl | rfl) | (rcases hw with rfl | rfl | rfl) | (rcases hw with rfl | rfl) | subst hw)
  all_goals first | exact h1 _ | exact h2 _ | exact h3 _
theorem words_ne (x : St) : wordsOf x ≠ [] := by
  unfold wordsOf
  repeat' split
  all_goals simp
def lineL (x : St) : Bs := jn (wordsOf x)
def parseL (l : Bs) : Option St := if rightP (loose (sp l)) ∧ lineL (loose (sp l)) = l then some (loose (sp l)) else none
theorem looseK_t (k : Nat) (a b c d : Bs) : 0 ≤ (looseK k a b c d).t ∧ (looseK k a b c d).t < 18446744073709551616 := by
  have := numP_lt c
  unfold looseK
  split <;> first | exact ⟨t00, t01⟩ | exact ⟨by show (0 : Int) ≤ (numP c : Nat); omega, by show ((numP c : Nat) : Int) < _; omega⟩
/-- WHAT IS READ LOOSELY AND WRITTEN AS IT WAS IS WHAT IS READ STRICTLY. -/
theorem parse_strict (l : Bs) : parseL l = strict (sp l) := by
  unfold parseL
  cases h : strict (sp l) with
  | some x =>
    obtain ⟨h1, h2, h3, h4⟩ := strict_ok h
    have e : loose (sp l) = x := by rw [← h4]; exact loose_words h1 h2 h3
    rw [e, if_pos ⟨h1, by unfold lineL; rw [h4]; exact jn_sp l⟩]
  | none =>
    rw [if_neg]
    rintro ⟨h1, h2⟩
    have h3 := looseK_t (kL ((sp l).getD 0 [])) ((sp l).getD 1 []) ((sp l).getD 2 []) ((sp l).getD 3 []) ((sp l).getD 4 [])
    have h4 := strict_words h1 h3.1 h3.2
    have h5 : sp l = wordsOf (loose (sp l)) := by
      have := sp_jn (words_ne (loose (sp l))) (words_nosp _)
      unfold lineL at h2
      rw [h2] at this
      exact this
    rw [← h5, h] at h4
    cases h4
end Go.Proofs.YtnjcenbmdcogpaaGreatDoor.Sp
