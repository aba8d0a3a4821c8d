import Derived.Test.YtnjcenbmdcogpaaGreatDoorNumB
import Derived.Test.YtnjcenbmdcogpaaGreatDoorTexts
import Derived.LoopTactic
import Derived.Laws.Rows
import Derived.Laws.EntriesVeiled
import Derived.RegionCalls
import Derived.Deep.Cut
import Derived.Deep.QuietTactic
import Derived.Deep.RegionHeld3
import Derived.Laws.Strings
/- What a reader reads: numbers and texts out of bytes. -/
namespace Go.Proofs.YtnjcenbmdcogpaaGreatDoor.Rd
open Go Go.RowKit Num Texts

def val (l : List UInt8) : Nat := l.foldl (fun n b => n * 256 + b.toNat) 0
theorem val_snoc (l : List UInt8) (b : UInt8) : val (l ++ [b]) = val l * 256 + b.toNat := by simp [val]
theorem val_lt (l : List UInt8) : ∀ n, l.length ≤ n → val l < 256 ^ n := by
  have key : ∀ (l : List UInt8) (a n : Nat), a < 256 ^ n → l.foldl (fun n b => n * 256 + b.toNat) a < 256 ^ (n + l.length) := by
    intro l
    induction l with
    | nil => intro a n h; simpa using h
    | cons b t ih =>
      intro a n h
      have := ih (a * 256 + b.toNat) (n + 1) (by rw [Nat.pow_succ]; have := b.toNat_lt; omega)
      simp only [List.foldl_cons, List.length_cons]
      rw [show n + (t.length + 1) = n + 1 + t.length by omega]
      exact this
  intro n hn
  have := key l 0 0 (by decide)
  rw [Nat.zero_add] at this
  exact Nat.lt_of_lt_of_le this (Nat.pow_le_pow_right (by decide) hn)
/-- a number that is read: its value (0, if there is none), the error, and what is left (all, if there is none) -/
def numR (m : Nat) (s : ByteArray) : Nat × Int × ByteArray :=
  if s.size = 0 then (0, 2, s)
  else
    let k := (s.data.toList.getD 0 0).toNat
    if 8 < k ∨ (0 < k ∧ 1 < s.size ∧ (s.data.toList.getD 1 0).toNat = 0) then (0, 3, s)
    else if s.size - 1 < k then (0, 2, s)
    else
      let n := val ((s.data.toList.drop 1).take k)
      if m < n then (0, 5, s) else (n, 0, s.extract (1 + k) s.size)
theorem numR_val (m : Nat) (s : ByteArray) : (numR m s).1 ≤ m := by
  unfold numR
  split
  · exact Nat.zero_le _
  · dsimp only
    split
    · exact Nat.zero_le _
    · split
      · exact Nat.zero_le _
      · split
        · exact Nat.zero_le _
        · rename_i h; exact Nat.le_of_not_lt h
/-- a text that is read -/
def textR (m : Nat) (s : ByteArray) : ByteArray × Int × ByteArray :=
  let x := numR 18446744073709551615 s
  if x.2.1 ≠ 0 then (⟨#[]⟩, x.2.1, x.2.2)
  else if m < x.1 then (⟨#[]⟩, 4, x.2.2)
  else if x.2.2.size < x.1 then (⟨#[]⟩, 2, x.2.2)
  else (x.2.2.extract 0 x.1, 0, x.2.2.extract x.1 x.2.2.size)
/-- a reader: what is left, and its error -/
structure R2 where
  s : ByteArray
  b : Int
def R2.cells (r : R2) : Array Value := #[.string r.s, .int .i64 r.b]
/-- what a reader is behind a reading that told e and left s -/
def R2.after (e : Int) (s : ByteArray) : R2 := if e = 0 then ⟨s, 0⟩ else ⟨⟨#[]⟩, e⟩
def R2.num (r : R2) (m : Nat) : Nat × R2 := if r.b = 0 then ((numR m r.s).1, R2.after (numR m r.s).2.1 (numR m r.s).2.2) else (0, r)
def R2.text (r : R2) (m : Nat) : ByteArray × R2 := if r.b = 0 then ((textR m r.s).1, R2.after (textR m r.s).2.1 (textR m r.s).2.2) else (⟨#[]⟩, r)
def R2.end' (r : R2) : Int := if r.b = 0 ∧ 0 < r.s.size then 4 else r.b
end Go.Proofs.YtnjcenbmdcogpaaGreatDoor.Rd
/- A reader's number: (*digit.Reader).number. -/
namespace Go.Proofs.YtnjcenbmdcogpaaGreatDoor.Rd
open Go Go.RowKit Num Texts

/-- All that stood stands as it was, but block R. -/
structure Only (R : Nat) (w w' : World) : Prop where
  os : w'.os = w.os
  tape : w'.tape = w.tape
  output : w'.output = w.output
  size : w.heap.size ≤ w'.heap.size
  block : ∀ k, k < w.heap.size → k ≠ R → w'.heap[k]? = w.heap[k]?
theorem Only.refl (R : Nat) (w : World) : Only R w w := ⟨rfl, rfl, rfl, Nat.le_refl _, fun _ _ _ => rfl⟩
theorem Only.of_below {R : Nat} {w w' : World} (h : Below w.heap.size w w') : Only R w w' := ⟨h.os, h.tape, h.output, h.size, fun k hk _ => h.block k hk⟩
theorem Only.trans {R : Nat} {a b c : World} (h : Only R a b) (g : Only R b c) : Only R a c :=
  ⟨g.os.trans h.os, g.tape.trans h.tape, g.output.trans h.output, Nat.le_trans h.size g.size, fun k hk hne => (g.block k (Nat.lt_of_lt_of_le hk h.size) hne).trans (h.block k hk hne)⟩
theorem Only.set {R : Nat} {a b : World} (h : Only R a b) (i : Nat) (v : Value) : Only R a (b.setCell ⟨R, i, none⟩ v) :=
  ⟨h.os, h.tape, h.output, by simpa using h.size, fun k hk hne => (Below.heap_setCell _ _ _ _ (fun e => hne e)).trans (h.block k hk hne)⟩
theorem Only.setNew {R n : Nat} {a b : World} (h : Only R a b) (hn : a.heap.size ≤ n) (i : Nat) (v : Value) : Only R a (b.setCell ⟨n, i, none⟩ v) :=
  ⟨h.os, h.tape, h.output, by simpa using h.size, fun k hk hne => (Below.heap_setCell _ _ _ _ (fun e => by have : k = n := e; omega)).trans (h.block k hk hne)⟩
theorem Only.alloc {R : Nat} {a b : World} (h : Only R a b) (o : Obj) : Only R a (b.alloc o) :=
  ⟨h.os, h.tape, h.output, Nat.le_trans h.size (by simp), fun k hk hne => (Below.heap_alloc _ _ _ (Nat.lt_of_lt_of_le hk h.size)).trans (h.block k hk hne)⟩
theorem Only.drew {R : Nat} {a b : World} (h : Only R a b) : Only R a b.drew := ⟨h.os, h.tape, h.output, h.size, h.block⟩
theorem Only.below {B R : Nat} {a b c : World} (h : Below B a b) (g : Only R b c) (hR : B ≤ R) (hB : B ≤ b.heap.size) : Below B a c :=
  ⟨g.os.trans h.os, g.tape.trans h.tape, g.output.trans h.output, Nat.le_trans h.size g.size, fun k hk => (g.block k (Nat.lt_of_lt_of_le hk hB) (by omega)).trans (h.block k hk)⟩

theorem cell_at {w : World} {g : Nat} {cs : Array Value} {t : TypeId} (h : w.heap[g]? = some (.cells cs t (0, 0))) (i : Nat) : w.cell? ⟨g, i, none⟩ = cs[i]? := cell_of_row w g i cs t (0, 0) h
theorem free_at {w : World} {g : Nat} {cs : Array Value} {t : TypeId} (h : w.heap[g]? = some (.cells cs t (0, 0))) (i : Nat) : w.frozen? ⟨g, i, none⟩ = false := by simp [World.frozen?, h]
theorem set_at {w : World} {g : Nat} {cs : Array Value} {t : TypeId} (h : w.heap[g]? = some (.cells cs t (0, 0))) (i : Nat) (u : Value) : (w.setCell ⟨g, i, none⟩ u).heap[g]? = some (.cells (cs.setIfInBounds i u) t (0, 0)) := by
  simp [World.setCell, Array.getElem?_modify, h]
theorem set_off {w : World} {g b i : Nat} {o : Option Obj} (h : w.heap[b]? = o) (hne : b ≠ g) (u : Value) : (w.setCell ⟨g, i, none⟩ u).heap[b]? = o := by
  rw [Below.heap_setCell _ _ _ _ (fun e => hne e)]; exact h

/-- A reader lies in block R. -/
abbrev Lies (W : World) (R : Nat) (r : R2) : Prop := W.heap[R]? = some (.cells #[.string r.s, .int .i64 r.b] 95 (0, 0))

theorem byte0 (s : ByteArray) (h : 0 < s.size) : s.data.toList.getD 0 0 = s[0] := by
  rw [List.getD_eq_getElem?_getD, List.getElem?_eq_getElem (by simpa using h)]; rfl
theorem byteN (s : ByteArray) (j : Nat) (h : j < s.size) : s.data.toList.getD j 0 = s[j] := by
  rw [List.getD_eq_getElem?_getD, List.getElem?_eq_getElem (by simpa using h)]; rfl

set_option maxRecDepth 20000 in
set_option maxHeartbeats 1000000 in
theorem number_any (R : Nat) (r : R2) (m : Nat) (hm : m < 18446744073709551616) (hs : r.s.size ≤ 1099511627776) (W : World) (hR : Lies W R r) :
    Calls Tryz.prog 74 #[.pointer (some ⟨R, 0, none⟩), .int .u64 (m : Int)] W fun e w' => e = .returned (.tuple #[.int .u64 ((numR m r.s).1 : Int), .int .i64 (numR m r.s).2.1]) ∧ Lies w' R ⟨(numR m r.s).2.2, r.b⟩ ∧ Only R W w' := by
  obtain ⟨s, b⟩ := r
  have c0 : W.cell? ⟨R, 0, none⟩ = some (.string s) := cell_at hR 0
  have f0 := free_at hR 0
  have HR := Lib.hid hR
  clear hR
  have hs1 : (s.size : Int) ≤ 1099511627776 := by simp only at hs; omega
  dsimp only
  by_cases hz : s.size = 0
  · have hl : s.toList = [] := by rw [ByteArray.toList_eq]; exact List.eq_nil_of_length_eq_zero hz
    have hl2 : s.toList.isEmpty = true := by rw [hl]; rfl
    have hn : numR m s = (0, 2, s) := by unfold numR; rw [if_pos hz]
    rw [hn]
    clear hz hn
    go_enter Tryz.func74, Tryz.ntmps74
    go_wp2
    go_ret2
    exact ⟨rfl, HR.out, Only.refl _ _⟩
  · have hpos : 0 < s.size := by omega
    have hl : ¬ s.toList = [] := fun h => hz (by have := congrArg List.length h; rw [ByteArray.toList_eq] at this; exact this)
    have hl2 : s.toList.isEmpty = false := by cases hx : s.toList with
      | nil => exact absurd hx hl
      | cons _ _ => rfl
    have x0 : (0 : Int) < (s.size : Int) := by omega
    have x255 : ((s[0]'hpos).toNat : Int) ≤ 255 := by have := (s[0]'hpos).toNat_lt; omega
    by_cases hf : 8 < (s[0]'hpos).toNat ∨ (0 < (s[0]'hpos).toNat ∧ 1 < s.size ∧ (s.data.toList.getD 1 0).toNat = 0)
    · have hn : numR m s = (0, 3, s) := by
        unfold numR
        rw [if_neg hz]
        dsimp only
        rw [byte0 s hpos, if_pos hf]
      rw [hn]
      clear hn
      by_cases h8 : 8 < (s[0]'hpos).toNat
      · have g8 : (8 : Int) < ((s[0]'hpos).toNat : Int) := by omega
        clear hf h8
        go_enter Tryz.func74, Tryz.ntmps74
        go_wp2
        go_ret2
        exact ⟨rfl, HR.out, Only.refl _ _⟩
      · obtain ⟨h1, h2, h3⟩ := hf.resolve_left h8
        rw [byteN s 1 h2] at h3
        have g8 : ¬ (8 : Int) < ((s[0]'hpos).toNat : Int) := by omega
        have g1 : (0 : Int) < ((s[0]'hpos).toNat : Int) := by omega
        have g2 : (1 : Int) < (s.size : Int) := by omega
        have g3 : ((s[1]'h2).toNat : Int) = 0 := by omega
        clear hf h8 h1
        go_enter Tryz.func74, Tryz.ntmps74
        go_wp2
        go_ret2
        exact ⟨rfl, HR.out, Only.refl _ _⟩
    · have g8 : ¬ (8 : Int) < ((s[0]'hpos).toNat : Int) := by omega
      have hform : (s[0]'hpos).toNat = 0 ∨ s.size = 1 ∨ ∃ h : 1 < s.size, (s[1]'h).toNat ≠ 0 := by
        by_cases h0 : (s[0]'hpos).toNat = 0
        · exact .inl h0
        · by_cases h1 : 1 < s.size
          · refine .inr (.inr ⟨h1, fun h => hf (.inr ⟨by omega, h1, ?_⟩)⟩)
            rw [byteN s 1 h1]; exact h
          · exact .inr (.inl (by omega))
      by_cases hsh : s.size - 1 < (s[0]'hpos).toNat
      · have hn : numR m s = (0, 2, s) := by
          unfold numR
          rw [if_neg hz]
          dsimp only
          rw [byte0 s hpos, if_neg hf, if_pos hsh]
        rw [hn]
        have gsh : (s.size : Int) - 1 < ((s[0]'hpos).toNat : Int) := by omega
        clear hf hn
        rcases hform with h0 | h1 | ⟨h1, h2⟩
        · omega
        · have g2 : ¬ (1 : Int) < (s.size : Int) := by omega
          have g1 : (0 : Int) < ((s[0]'hpos).toNat : Int) := by omega
          clear hsh h1
          go_enter Tryz.func74, Tryz.ntmps74
          go_wp2
          go_ret2
          exact ⟨rfl, HR.out, Only.refl _ _⟩
        · have g2 : (1 : Int) < (s.size : Int) := by omega
          have g1 : (0 : Int) < ((s[0]'hpos).toNat : Int) := by omega
          have g3 : (((s[1]'h1).toNat : Int) == 0) = false := by simp; omega
          clear hsh h2
          go_enter Tryz.func74, Tryz.ntmps74
          go_wp2
          go_ret2
          exact ⟨rfl, HR.out, Only.refl _ _⟩
      · have hle : (s[0]'hpos).toNat < s.size := by omega
        have hn : numR m s = if m < val ((s.data.toList.drop 1).take (s[0]'hpos).toNat) then ((0, 5, s) : Nat × Int × ByteArray) else (val ((s.data.toList.drop 1).take (s[0]'hpos).toNat), 0, s.extract (1 + (s[0]'hpos).toNat) s.size) := by
          unfold numR
          rw [if_neg hz]
          dsimp only
          rw [byte0 s hpos, if_neg hf, if_neg hsh]
        have gsh : ((s[0]'hpos).toNat : Int) ≤ (s.size : Int) - 1 := by omega
        by_cases h0 : (s[0]'hpos).toNat = 0
        · have hn2 : numR m s = (0, 0, s.extract 1 s.size) := by
            rw [hn, h0, List.take_zero, show val [] = 0 from rfl, if_neg (Nat.not_lt_zero _)]
          have HN := Lib.hid hn2
          have k0 : ((s[0]'hpos).toNat : Int) = 0 := by omega
          have x1 : (1 : Int) ≤ (s.size : Int) := by omega
          have hm0 : ¬ (m : Int) < 0 := by omega
          clear hn hn2 hf hform hsh hle h0 g8 gsh
          go_enter Tryz.func74, Tryz.ntmps74
          go_wp2_with fail
          refine wp_loop_rounds 1 ?_
          rw [rounds_succ]
          go_wp2_with fail
          go_ret2
          exact ⟨by rw [HN.out]; rfl, by rw [HN.out]; exact set_at HR.out 0 _, (Only.refl _ _).set 0 _⟩
        · obtain ⟨h1, h2⟩ : ∃ h : 1 < s.size, (s[1]'h).toNat ≠ 0 := by
            rcases hform with h | h | h
            · exact absurd h h0
            · omega
            · exact h
          obtain ⟨k, hk⟩ : ∃ k : Nat, (s[0]'hpos).toNat = k := ⟨_, rfl⟩
          rw [hk] at hn hle
          have hk8 : k ≤ 8 := by omega
          have k0 : ((s[0]'hpos).toNat : Int) = (k : Int) := by omega
          have k1 : (k : Int) ≤ 8 := by omega
          have k2 : (0 : Int) < (k : Int) := by omega
          have k3 : (k : Int) ≤ (s.size : Int) - 1 := by omega
          have g2 : (1 : Int) < (s.size : Int) := by omega
          have g3 : (((s[1]'h1).toNat : Int) == 0) = false := by simp; omega
          have HN := Lib.hid hn
          have HK := Lib.hid (And.intro hle hk8)
          clear hn hf hform hsh hle h0 g8 gsh x255 hk hk8 h2
          go_enter Tryz.func74, Tryz.ntmps74
          go_wp2_with fail
          go_loopw [7, 8] (fun n i wr => ∃ j : Nat, 1 ≤ j ∧ j ≤ k + 1 ∧ i = .int .i64 j ∧ n = .int .u64 ((val ((s.data.toList.drop 1).take (j - 1)) : Nat) : Int) ∧ wr = W) (fun _ i _ => 10 - (intOf i).toNat)
          case atStart => exact ⟨1, by omega, by omega, rfl, rfl, rfl⟩
          case round =>
            obtain ⟨j, hj1, hj, rfl, rfl, hwr⟩ := hrel
            obtain rfl := hwr.symm
            rcases Nat.lt_or_ge k j with hge | hlt
            · have hjk : j - 1 = k := by omega
              rw [hjk]
              have j1 : ¬ (j : Int) ≤ (k : Int) := by omega
              generalize val ((s.data.toList.drop 1).take k) = n at *
              clear hjk hge hj hj1
              by_cases hmn : m < n
              · have hmi : (m : Int) < (n : Int) := by omega
                have HN2 : Hid (numR m s = (0, 5, s)) := Lib.hid (by rw [HN.out, if_pos hmn])
                clear hmn
                go_wp2
                go_ret2
                exact ⟨by rw [HN2.out]; rfl, by rw [HN2.out]; exact HR.out, Only.refl _ _⟩
              · have hmi : ¬ (m : Int) < (n : Int) := by omega
                have HN2 : Hid (numR m s = (n, 0, s.extract (1 + k) s.size)) := Lib.hid (by rw [HN.out, if_neg hmn])
                have k4 : 1 + (k : Int) ≤ (s.size : Int) := by omega
                have k5 : 1 + k ≤ s.size := by omega
                clear hmn
                go_wp2_with fail
                go_ret2
                exact ⟨by rw [HN2.out]; rfl, by rw [HN2.out]; exact set_at HR.out 0 _, (Only.refl _ _).set 0 _⟩
            · have j1 : (j : Int) ≤ (k : Int) := by omega
              have j2 : (j : Int) < (s.size : Int) := by have := HK.out.1; omega
              have hjs : j < s.size := by have := HK.out.1; omega
              have hl : j - 1 < (s.data.toList.drop 1).length := by rw [List.length_drop, Array.length_toList]; show j - 1 < s.size - 1; omega
              have hb : (s.data.toList.drop 1)[j - 1] = s[j] := by
                rw [List.getElem_drop]
                have := byteN s j hjs
                rw [List.getD_eq_getElem?_getD, List.getElem?_eq_getElem (by simpa using hjs)] at this
                simp only [Option.getD_some] at this
                rw [← this]
                congr 1
                omega
              have hnx : val ((s.data.toList.drop 1).take (j + 1 - 1)) = val ((s.data.toList.drop 1).take (j - 1)) * 256 + (s[j]'hjs).toNat := by
                rw [show j + 1 - 1 = (j - 1) + 1 by omega, List.take_succ_eq_append_getElem hl, val_snoc, hb]
              have hv : val ((s.data.toList.drop 1).take (j - 1)) < 72057594037927936 := Nat.lt_of_lt_of_le (val_lt _ 7 (by rw [List.length_take]; have := HK.out.2; omega)) (by decide)
              generalize val ((s.data.toList.drop 1).take (j - 1)) = n at *
              have hbx : (s[j]'hjs).toNat < 256 := (s[j]'hjs).toNat_lt
              have hbi : ((s[j]'hjs).toNat : Int) ≤ 255 := by omega
              have hvi : (n : Int) < 72057594037927936 := by omega
              have HNx := Lib.hid hnx
              clear hnx hb hl
              go_wp2_with fail
              have hor : bits .or .u64 ((n : Int) * 256) ((s[j]'hjs).toNat : Int) = ((n * 256 + (s[j]'hjs).toNat : Nat) : Int) := by
                rw [show (n : Int) * 256 = ((n * 256 : Nat) : Int) by omega, u64_or_nat _ _ (by omega) (by omega)]
                have := Nat.two_pow_add_eq_or_of_lt (i := 8) (b := (s[j]'hjs).toNat) (by omega) n
                rw [show 2 ^ 8 * n = n * 256 by omega] at this
                rw [this]
              rw [hor]
              exact ⟨⟨j + 1, by omega, by omega, by go_num, by rw [HNx.out], trivial⟩, by simp [intOf]; omega⟩
end Go.Proofs.YtnjcenbmdcogpaaGreatDoor.Rd
/- A reader: Num, Text, End, Left. -/
namespace Go.Proofs.YtnjcenbmdcogpaaGreatDoor.Rd
open Go Go.RowKit Num Texts

theorem numR_rest (m : Nat) (s : ByteArray) : (numR m s).2.2.size ≤ s.size := by
  unfold numR
  split
  · exact Nat.le_refl _
  · dsimp only
    split
    · exact Nat.le_refl _
    · split
      · exact Nat.le_refl _
      · split
        · exact Nat.le_refl _
        · show (s.extract _ _).size ≤ _
          rw [ByteArray.size_extract]; omega
theorem textR_rest (m : Nat) (s : ByteArray) : (textR m s).2.2.size ≤ s.size := by
  have := numR_rest 18446744073709551615 s
  unfold textR
  dsimp only
  split
  · exact this
  · split
    · exact this
    · split
      · exact this
      · show ((numR 18446744073709551615 s).2.2.extract _ _).size ≤ _
        rw [ByteArray.size_extract]; omega

set_option maxRecDepth 20000 in
set_option maxHeartbeats 1000000 in
theorem text_any (R : Nat) (r : R2) (m : Nat) (hs : r.s.size ≤ 1099511627776) (W : World) (hR : Lies W R r) :
    Calls Tryz.prog 109 #[.pointer (some ⟨R, 0, none⟩), .int .u64 (m : Int)] W fun e w' => e = .returned (.tuple #[.string (textR m r.s).1, .int .i64 (textR m r.s).2.1]) ∧ Lies w' R ⟨(textR m r.s).2.2, r.b⟩ ∧ Only R W w' := by
  have hnum := number_any R r 18446744073709551615 (by decide) hs W hR
  have hsz := numR_rest 18446744073709551615 r.s
  obtain ⟨s, b⟩ := r
  have ht : textR m s = (let x := numR 18446744073709551615 s; if x.2.1 ≠ 0 then ((⟨#[]⟩, x.2.1, x.2.2) : ByteArray × Int × ByteArray) else if m < x.1 then (⟨#[]⟩, 4, x.2.2) else if x.2.2.size < x.1 then (⟨#[]⟩, 2, x.2.2) else (x.2.2.extract 0 x.1, 0, x.2.2.extract x.1 x.2.2.size)) := rfl
  have hv := numR_val 18446744073709551615 s
  dsimp only at hnum hsz ht hs ⊢
  generalize numR 18446744073709551615 s = x at *
  obtain ⟨n, e, s1⟩ := x
  dsimp only at hnum hsz ht hv
  have HNum := Lib.hid hnum
  have HT := Lib.hid ht
  clear hnum ht hR
  have hs1 : (s1.size : Int) ≤ 1099511627776 := by omega
  have hvi : (n : Int) ≤ 18446744073709551615 := by omega
  go_enter Tryz.func109, Tryz.ntmps109
  go_wp2_with fail
  refine HNum.out.mono ?_
  rintro e1 w1 ⟨rfl, hR1, hO1⟩
  have c0 : w1.cell? ⟨R, 0, none⟩ = some (.string s1) := cell_at hR1 0
  have f0 := free_at hR1 0
  have HR1 := Lib.hid hR1
  have HO1 := Lib.hid hO1
  clear hR1 hO1 HNum
  by_cases he : e = 0
  · subst he
    by_cases hmn : m < n
    · have hmi : (m : Int) < (n : Int) := by omega
      have HT2 : Hid (textR m s = (⟨#[]⟩, 4, s1)) := Lib.hid (by rw [HT.out, if_neg (by simp), if_pos hmn])
      clear hmn
      go_wp2
      go_ret2
      exact ⟨by rw [HT2.out]; rfl, by rw [HT2.out]; exact HR1.out, HO1.out⟩
    · have hmi : ¬ (m : Int) < (n : Int) := by omega
      by_cases hl : s1.size < n
      · have hli : (s1.size : Int) < (n : Int) := by omega
        have HT2 : Hid (textR m s = (⟨#[]⟩, 2, s1)) := Lib.hid (by rw [HT.out, if_neg (by simp), if_neg hmn, if_pos hl])
        clear hmn hl
        go_wp2
        go_ret2
        exact ⟨by rw [HT2.out]; rfl, by rw [HT2.out]; exact HR1.out, HO1.out⟩
      · have hli : ¬ (s1.size : Int) < (n : Int) := by omega
        have hle : (n : Int) ≤ (s1.size : Int) := by omega
        have hle2 : n ≤ s1.size := by omega
        have HT2 : Hid (textR m s = (s1.extract 0 n, 0, s1.extract n s1.size)) := Lib.hid (by rw [HT.out, if_neg (by simp), if_neg hmn, if_neg hl])
        clear hmn hl
        go_wp2
        go_ret2
        exact ⟨by rw [HT2.out]; rfl, by rw [HT2.out]; exact set_at HR1.out 0 _, HO1.out.set 0 _⟩
  · have he2 : (e == 0) = false := by simpa using he
    have HT2 : Hid (textR m s = (⟨#[]⟩, e, s1)) := Lib.hid (by rw [HT.out, if_pos he])
    go_wp2
    go_ret2
    exact ⟨by rw [HT2.out]; rfl, by rw [HT2.out]; exact HR1.out, HO1.out⟩

/-- the closure that Num gives read: captured are the boxes of the reader, of the bound and of the result -/
def cloN (A : Nat) : Value := .func (.func 73) #[] #[.pointer (some ⟨A, 0, none⟩), .pointer (some ⟨A + 1, 0, none⟩), .pointer (some ⟨A + 1 + 1, 0, none⟩)]

set_option maxRecDepth 20000 in
set_option maxHeartbeats 1000000 in
theorem clon_any (R A : Nat) (r : R2) (m : Nat) (hm : m < 18446744073709551616) (hs : r.s.size ≤ 1099511627776) (W : World) (hR : Lies W R r) (hlt : R < A)
    (hA : W.heap[A]? = some (.cells #[.pointer (some ⟨R, 0, none⟩)] 59 (0, 0))) (hB : W.heap[A + 1]? = some (.cells #[.int .u64 (m : Int)] 22 (0, 0))) (hC : W.heap[A + 1 + 1]? = some (.cells #[.int .u64 0] 22 (0, 0))) :
    Calls Tryz.prog 73 #[.pointer (some ⟨A, 0, none⟩), .pointer (some ⟨A + 1, 0, none⟩), .pointer (some ⟨A + 1 + 1, 0, none⟩)] W
      fun e w' => e = .returned (.int .i64 (numR m r.s).2.1) ∧ ∃ w1, w' = w1.setCell ⟨A + 1 + 1, 0, none⟩ (.int .u64 ((numR m r.s).1 : Int)) ∧ Lies w1 R ⟨(numR m r.s).2.2, r.b⟩ ∧ Only R W w1 := by
  have HN := Lib.hid (number_any R r m hm hs W hR)
  have a0 := cell_at hA 0
  have b0 := cell_at hB 0
  have hzC := (Array.getElem?_eq_some_iff.1 hC).1
  have HC := Lib.hid hC
  have HR := Lib.hid hR
  have a1 : W.cell? ⟨A, 0, none⟩ = some (.pointer (some ⟨R, 0, none⟩)) := a0
  have b1 : W.cell? ⟨A + 1, 0, none⟩ = some (.int .u64 (m : Int)) := b0
  clear a0 b0 hA hB hC hR
  go_enter Tryz.func73, Tryz.ntmps73
  go_wp2_with fail
  refine HN.out.mono ?_
  rintro e w1 ⟨rfl, hR1, hO⟩
  have hC1 := (hO.block _ hzC (by omega)).trans HC.out
  have c1 : w1.cell? ⟨A + 1 + 1, 0, none⟩ = some (.int .u64 0) := cell_at hC1 0
  have f1 := free_at hC1 0
  have HR1 := Lib.hid hR1
  have HO := Lib.hid hO
  clear hR1 hO hC1 HC HN
  go_wp2
  go_ret
  exact ⟨rfl, w1, rfl, HR1.out, HO.out⟩

set_option maxRecDepth 20000 in
set_option maxHeartbeats 1000000 in
theorem readn_any {w0 : World} (R A : Nat) (r : R2) (m : Nat) (hm : m < 18446744073709551616) (hs : r.s.size ≤ 1099511627776) (W : World) (hR : Lies W R r) (hlt : R < A) (hw : w0.heap.size ≤ A) (h0 : Only R w0 W)
    (hA : W.heap[A]? = some (.cells #[.pointer (some ⟨R, 0, none⟩)] 59 (0, 0))) (hB : W.heap[A + 1]? = some (.cells #[.int .u64 (m : Int)] 22 (0, 0))) (hC : W.heap[A + 1 + 1]? = some (.cells #[.int .u64 0] 22 (0, 0))) :
    Calls Tryz.prog 72 #[.pointer (some ⟨R, 0, none⟩), cloN A] W
      fun e w' => e = .returned (.tuple #[]) ∧ Lies w' R (r.num m).2 ∧ w'.heap[A + 1 + 1]? = some (.cells #[.int .u64 ((r.num m).1 : Int)] 22 (0, 0)) ∧ Only R w0 w' := by
  have HN := Lib.hid (clon_any R A r m hm hs W hR hlt hA hB hC)
  have HC := Lib.hid hC
  have HR := Lib.hid hR
  have H0 := Lib.hid h0
  have hzC := (Array.getElem?_eq_some_iff.1 hC).1
  obtain ⟨s, b⟩ := r
  have c0 : W.cell? ⟨R, 0, none⟩ = some (.string s) := cell_at hR 0
  have c1 : W.cell? ⟨R, 1, none⟩ = some (.int .i64 b) := cell_at hR 1
  clear hA hB hC hR h0
  unfold cloN
  by_cases hb : b = 0
  · subst hb
    have hnum : (⟨s, 0⟩ : R2).num m = ((numR m s).1, R2.after (numR m s).2.1 (numR m s).2.2) := by unfold R2.num; rw [if_pos rfl]
    dsimp only at HN
    generalize numR m s = x at *
    obtain ⟨n, e, s1⟩ := x
    dsimp only at HN hnum
    have HX := Lib.hid hnum
    clear hnum
    go_enter Tryz.func72, Tryz.ntmps72
    go_wp2_with fail
    refine HN.out.mono ?_
    rintro e1 w1 ⟨rfl, w2, rfl, hR2, hO2⟩
    clear c0 c1
    have hC2 := (hO2.block _ hzC (by omega)).trans HC.out
    have hne : R ≠ A + 1 + 1 := by omega
    have hR3 := set_off (i := 0) hR2 hne (.int .u64 (n : Int))
    have hC3 := set_at hC2 0 (.int .u64 (n : Int))
    have hO3 : Only R w0 (w2.setCell ⟨A + 1 + 1, 0, none⟩ (.int .u64 (n : Int))) := (H0.out.trans hO2).setNew (by omega) _ _
    obtain ⟨w3, hw3⟩ : ∃ w3, w3 = w2.setCell ⟨A + 1 + 1, 0, none⟩ (.int .u64 (n : Int)) := ⟨_, rfl⟩
    rw [← hw3] at hR3 hC3 hO3 ⊢
    have c1 : w3.cell? ⟨R, 1, none⟩ = some (.int .i64 0) := cell_at hR3 1
    have c0 : w3.cell? ⟨R, 0, none⟩ = some (.string s1) := cell_at hR3 0
    have f1 := free_at hR3 1
    have f0 := free_at hR3 0
    have HR3 := Lib.hid hR3
    have HC3 := Lib.hid (show w3.heap[A + 1 + 1]? = some (.cells #[.int .u64 (n : Int)] 22 (0, 0)) from hC3)
    have HO3 := Lib.hid hO3
    clear hw3 hR3 hC3 hO3 hC2 hR2 hO2 HC HR HN
    by_cases he : e = 0
    · subst he
      go_wp2
      refine bodyPost_end (results_none rfl _ _ _) rfl ?_
      exact ⟨rfl, by rw [HX.out]; exact set_at HR3.out 1 _, by rw [HX.out]; exact set_off HC3.out (by omega) _, HO3.out.set 1 _⟩
    · have he2 : (e == 0) = false := by simpa using he
      go_wp2
      refine bodyPost_end (results_none rfl _ _ _) rfl ?_
      refine ⟨rfl, ?_, ?_, (HO3.out.set 1 _).set 0 _⟩
      · rw [HX.out, show R2.after e s1 = ⟨⟨#[]⟩, e⟩ by unfold R2.after; rw [if_neg he]]
        exact set_at (set_at HR3.out 1 _) 0 _
      · rw [HX.out]
        exact set_off (set_off HC3.out (by omega) _) (by omega) _
  · have hb2 : (b == 0) = false := by simpa using hb
    have hnum : (⟨s, b⟩ : R2).num m = (0, ⟨s, b⟩) := by unfold R2.num; rw [if_neg hb]
    have HX := Lib.hid hnum
    clear hnum
    go_enter Tryz.func72, Tryz.ntmps72
    go_wp2
    refine bodyPost_ret (results_none rfl _ _ _) rfl ?_
    exact ⟨rfl, by rw [HX.out]; exact HR.out, by rw [HX.out]; exact HC.out, H0.out⟩

set_option maxRecDepth 20000 in
set_option maxHeartbeats 1000000 in
/-- Num of a reader -/
theorem rnum_any (R : Nat) (r : R2) (m : Nat) (hm : m < 18446744073709551616) (hs : r.s.size ≤ 1099511627776) (W : World) (hR : Lies W R r) :
    Calls Tryz.prog 40 #[.pointer (some ⟨R, 0, none⟩), .int .u64 (m : Int)] W
      fun e w' => e = .returned (.int .u64 ((r.num m).1 : Int)) ∧ Lies w' R (r.num m).2 ∧ Only R W w' := by
  have hlt := (Array.getElem?_eq_some_iff.1 hR).1
  obtain ⟨W3, hW3⟩ : ∃ W3, W3 = ((W.alloc (.cells #[.pointer (some ⟨R, 0, none⟩)] 59)).alloc (.cells #[.int .u64 (m : Int)] 22)).alloc (.cells #[.int .u64 0] 22) := ⟨_, rfl⟩
  have hA : W3.heap[W.heap.size]? = some (.cells #[.pointer (some ⟨R, 0, none⟩)] 59 (0, 0)) := by
    rw [hW3, Below.heap_alloc _ _ _ (by simp; omega), Below.heap_alloc _ _ _ (by simp)]; exact heap_alloc_new _ _
  have hB : W3.heap[W.heap.size + 1]? = some (.cells #[.int .u64 (m : Int)] 22 (0, 0)) := by
    rw [hW3, Below.heap_alloc _ _ _ (by simp)]
    have := heap_alloc_new (W.alloc (.cells #[.pointer (some ⟨R, 0, none⟩)] 59)) (.cells #[.int .u64 (m : Int)] 22)
    simpa using this
  have hC : W3.heap[W.heap.size + 1 + 1]? = some (.cells #[.int .u64 0] 22 (0, 0)) := by
    have := heap_alloc_new ((W.alloc (.cells #[.pointer (some ⟨R, 0, none⟩)] 59)).alloc (.cells #[.int .u64 (m : Int)] 22)) (.cells #[.int .u64 0] 22)
    rw [hW3]
    simpa using this
  have hO : Only R W W3 := by rw [hW3]; exact (((Only.refl R W).alloc _).alloc _).alloc _
  have hR3 : Lies W3 R r := by
    rw [hW3]; unfold Lies
    rw [Below.heap_alloc _ _ _ (by simp; omega), Below.heap_alloc _ _ _ (by simp; omega), Below.heap_alloc _ _ _ hlt]; exact hR
  have HN := Lib.hid (readn_any (w0 := W) R W.heap.size r m hm hs W3 hR3 hlt (Nat.le_refl _) hO hA hB hC)
  have ca : W3.cell? ⟨W.heap.size, 0, none⟩ = some (.pointer (some ⟨R, 0, none⟩)) := cell_at hA 0
  have CA := Lib.hid ca
  clear hA hB hC hO hR3 ca hR
  unfold cloN at HN
  go_enter Tryz.func40, Tryz.ntmps40
  go_upto_region 1 with fail
  rw [← hW3]
  have ca := CA.out
  clear hW3 CA
  go_wp2_with fail
  refine HN.out.mono ?_
  rintro e w1 ⟨rfl, hR1, hC1, hO1⟩
  have c1 : w1.cell? ⟨W.heap.size + 1 + 1, 0, none⟩ = some (.int .u64 ((r.num m).1 : Int)) := cell_at hC1 0
  have f1 := free_at hC1 0
  have HR1 := Lib.hid hR1
  have HC1 := Lib.hid hC1
  have HO1 := Lib.hid hO1
  clear hR1 hC1 hO1 ca HN
  go_wp2_with fail
  have c2 : (w1.setCell ⟨W.heap.size + 1 + 1, 0, none⟩ (.int .u64 ((r.num m).1 : Int))).cell? ⟨W.heap.size + 1 + 1, 0, none⟩ = some (.int .u64 ((r.num m).1 : Int)) := cell_at (set_at HC1.out 0 _) 0
  refine bodyPost_ret (v := .int .u64 ((r.num m).1 : Int)) (by simp [results, Tryz.results40, go_sem, c2]) rfl ?_
  exact ⟨rfl, set_off HR1.out (by omega) _, HO1.out.setNew (by omega) _ _⟩
end Go.Proofs.YtnjcenbmdcogpaaGreatDoor.Rd
/- A reader's texts: Text. -/
namespace Go.Proofs.YtnjcenbmdcogpaaGreatDoor.Rd
open Go Go.RowKit Num Texts

theorem cell_off {w : World} {g i b k : Nat} {x : Value} {u : Value} (h : w.cell? ⟨b, k, none⟩ = some x) (hne : b ≠ g) : (w.setCell ⟨g, i, none⟩ u).cell? ⟨b, k, none⟩ = some x := by
  unfold World.cell? at h ⊢
  rw [Below.heap_setCell _ _ _ _ (fun e => hne e)]; exact h
theorem limit_any (m : Nat) (hm : m < 9223372036854775808) (w : World) : Calls Tryz.prog 110 #[.int .i64 (m : Int)] w fun e w' => e = .returned (.int .u64 (m : Int)) ∧ w' = w := by
  have h0 : (0 : Int) ≤ (m : Int) := by omega
  have h1 : (m : Int) < 9223372036854775808 := by omega
  go_enter Tryz.func110, Tryz.ntmps110
  go_wp2
  go_ret
  exact ⟨rfl, rfl⟩

/-- the closure that Text gives read: captured are the boxes of the reader, of the bound and of the result -/
def cloT (A : Nat) : Value := .func (.func 108) #[] #[.pointer (some ⟨A, 0, none⟩), .pointer (some ⟨A + 1, 0, none⟩), .pointer (some ⟨A + 1 + 1, 0, none⟩)]

set_option maxRecDepth 20000 in
set_option maxHeartbeats 1000000 in
theorem clot_any (R A : Nat) (r : R2) (m : Nat) (hm : m < 9223372036854775808) (hs : r.s.size ≤ 1099511627776) (W : World) (hR : Lies W R r) (hlt : R < A)
    (hA : W.heap[A]? = some (.cells #[.pointer (some ⟨R, 0, none⟩)] 59 (0, 0))) (hB : W.heap[A + 1]? = some (.cells #[.int .i64 (m : Int)] 3 (0, 0))) (hC : W.heap[A + 1 + 1]? = some (.cells #[.string ⟨#[]⟩] 9 (0, 0))) :
    Calls Tryz.prog 108 #[.pointer (some ⟨A, 0, none⟩), .pointer (some ⟨A + 1, 0, none⟩), .pointer (some ⟨A + 1 + 1, 0, none⟩)] W
      fun e w' => e = .returned (.int .i64 (textR m r.s).2.1) ∧ ∃ w1, w' = w1.setCell ⟨A + 1 + 1, 0, none⟩ (.string (textR m r.s).1) ∧ Lies w1 R ⟨(textR m r.s).2.2, r.b⟩ ∧ Only R W w1 := by
  have HN := Lib.hid (show Calls Tryz.prog 109 #[.pointer (some ⟨R, 0, none⟩), .int .u64 (m : Int)] W.drew fun e w' => e = .returned (.tuple #[.string (textR m r.s).1, .int .i64 (textR m r.s).2.1]) ∧ Lies w' R ⟨(textR m r.s).2.2, r.b⟩ ∧ Only R W.drew w' from text_any R r m hs W.drew hR)
  have a0 := cell_at hA 0
  have b0 := cell_at hB 0
  have hzA := (Array.getElem?_eq_some_iff.1 hA).1
  have hzB := (Array.getElem?_eq_some_iff.1 hB).1
  have hzC := (Array.getElem?_eq_some_iff.1 hC).1
  have HC := Lib.hid hC
  have HS := Lib.hid (show ∀ W', Only R W.drew W' → W'.cell? ⟨A, 0, none⟩ = some (.pointer (some ⟨R, 0, none⟩)) ∧ W'.cell? ⟨A + 1, 0, none⟩ = some (.int .i64 (m : Int)) from fun W' h => ⟨cell_at ((h.block _ hzA (by omega)).trans hA) 0, cell_at ((h.block _ hzB (by omega)).trans hB) 0⟩)
  have a1 : W.drew.cell? ⟨A, 0, none⟩ = some (.pointer (some ⟨R, 0, none⟩)) := a0
  have b1 : W.drew.cell? ⟨A + 1, 0, none⟩ = some (.int .i64 (m : Int)) := b0
  clear a0 b0 hA hB hC hR
  go_enter Tryz.func108, Tryz.ntmps108
  go_upto_region 1 with fail
  refine wp_region_held_drew (S := (fun W' => W'.cell? ⟨A, 0, none⟩ = some (.pointer (some ⟨R, 0, none⟩)) ∧ W'.cell? ⟨A + 1, 0, none⟩ = some (.int .i64 (m : Int)))) (by kernel_rfl) ⟨a1, b1⟩ (fun hHeld => ?_)
  refine wpAnyH_take (i := 0) (oi := _) (v := ?_) rfl (by kernel_rfl) (by kernel_rfl) (by kernel_rfl) (fun _ _ _ h => h) (Or.inl ⟨by rfl, ?_⟩) (by assumption) ?_
  rotate_left
  · (intro W' hSw; have hq := hSw.1; clear hSw; go_simp; try with_reducible rfl)
  try simp only [Act.put, List.getElem_toArray, List.getElem_cons_zero, List.setIfInBounds_toArray, List.set_cons_zero, List.set_cons_succ]
  refine wpAnyH_take (i := 1) (oi := _) (v := ?_) rfl (by kernel_rfl) (by kernel_rfl) (by kernel_rfl) (fun _ _ _ h => h) (Or.inl ⟨by rfl, ?_⟩) (by assumption) ?_
  rotate_left
  · (intro W' hSw; have hq := hSw.2; clear hSw; go_simp; try with_reducible rfl)
  try simp only [Act.put, List.getElem_toArray, List.getElem_cons_succ, List.getElem_cons_zero, List.setIfInBounds_toArray, List.set_cons_zero, List.set_cons_succ]
  refine wpAnyH_ready (rs := [2]) (by kernel_rfl) (by simp) ?_
  refine AllReadyH.cons rfl (fun K hK => ?_) AllReadyH.nil
  simp only [List.getElem_toArray, List.getElem_cons_succ, List.getElem_cons_zero]
  rw [if_pos (by rfl)]
  go_simp
  (go_at_call 110; refine (limit_any m hm _).mono ?_; rintro e w1 ⟨rfl, rfl⟩)
  go_wp2_with fail
  refine hK.out _ _ hHeld (fun hHeld => ?_)
  clear hK K
  try simp only [Act.put, List.getElem_toArray, List.getElem_cons_succ, List.getElem_cons_zero, List.setIfInBounds_toArray, List.set_cons_zero, List.set_cons_succ]
  refine wpAnyH_ready (rs := [3]) (by kernel_rfl) (by simp) ?_
  refine AllReadyH.cons rfl (fun K hK => ?_) AllReadyH.nil
  simp only [List.getElem_toArray, List.getElem_cons_succ, List.getElem_cons_zero]
  rw [if_pos (by rfl)]
  go_simp
  (go_at_call 109; refine (HN.out).mono ?_; rintro e w1 ⟨rfl, hR1, hO⟩; have hS1 := HS.out w1 hO)
  go_wp2_with fail
  refine hK.out _ _ hS1 (fun hHeld => ?_)
  clear hK K
  try simp only [Act.put, List.getElem_toArray, List.getElem_cons_succ, List.getElem_cons_zero, List.setIfInBounds_toArray, List.set_cons_zero, List.set_cons_succ]
  refine wpAnyH_take (i := 4) (oi := _) (v := ?_) rfl (by kernel_rfl) (by kernel_rfl) (by kernel_rfl) (fun _ _ _ h => h) (Or.inl ⟨by rfl, ?_⟩) (by assumption) ?_
  rotate_left
  · (intro W hSw; (try dsimp only at hSw); go_simp; try with_reducible rfl)
  try simp only [Act.put, List.getElem_toArray, List.getElem_cons_succ, List.getElem_cons_zero, List.setIfInBounds_toArray, List.set_cons_zero, List.set_cons_succ]
  refine wpAnyH_take (i := 5) (oi := _) (v := ?_) rfl (by kernel_rfl) (by kernel_rfl) (by kernel_rfl) (fun _ _ _ h => h) (Or.inl ⟨by rfl, ?_⟩) (by assumption) ?_
  rotate_left
  · (intro W hSw; (try dsimp only at hSw); go_simp; try with_reducible rfl)
  try simp only [Act.put, List.getElem_toArray, List.getElem_cons_succ, List.getElem_cons_zero, List.setIfInBounds_toArray, List.set_cons_zero, List.set_cons_succ]
  refine wpAnyH_take (i := 6) (oi := _) (v := ?_) rfl (by kernel_rfl) (by kernel_rfl) (by kernel_rfl) (fun _ _ _ h => h) (Or.inl ⟨by rfl, ?_⟩) (by assumption) ?_
  rotate_left
  · (intro W hSw; (try dsimp only at hSw); go_simp; try with_reducible rfl)
  try simp only [Act.put, List.getElem_toArray, List.getElem_cons_succ, List.getElem_cons_zero, List.setIfInBounds_toArray, List.set_cons_zero, List.set_cons_succ]
  have hC1 := (hO.block _ hzC (by omega)).trans HC.out
  have c1 : w1.cell? ⟨A + 1 + 1, 0, none⟩ = some (.string ⟨#[]⟩) := cell_at hC1 0
  have f1 := free_at hC1 0
  refine wpAnyH_ready (rs := [7]) (by kernel_rfl) (by simp) ?_
  refine AllReadyH.cons rfl (fun K hK => ?_) AllReadyH.nil
  simp only [List.getElem_toArray, List.getElem_cons_succ, List.getElem_cons_zero]
  rw [if_pos (by rfl)]
  go_simp
  refine hK.out _ _ (by have h2 := HS.out w1 hO; exact ⟨(cell_off h2.1 (by omega)), (cell_off h2.2 (by omega))⟩) (fun hHeld => ?_)
  clear hK K
  try simp only [Act.put, List.getElem_toArray, List.getElem_cons_succ, List.getElem_cons_zero, List.setIfInBounds_toArray, List.set_cons_zero, List.set_cons_succ]
  refine wpAnyH_take (i := 8) (oi := _) (v := ?_) rfl (by kernel_rfl) (by kernel_rfl) (by kernel_rfl) (fun _ _ _ h => h) (Or.inl ⟨by rfl, ?_⟩) (by assumption) ?_
  rotate_left
  · (intro W hSw; (try dsimp only at hSw); go_simp; try with_reducible rfl)
  try simp only [Act.put, List.getElem_toArray, List.getElem_cons_succ, List.getElem_cons_zero, List.setIfInBounds_toArray, List.set_cons_zero, List.set_cons_succ]
  refine wpAnyH_done (by kernel_rfl) ?_ _
  go_wp2
  go_ret
  exact ⟨rfl, w1, rfl, hR1, ((Only.refl R W).drew).trans hO⟩

set_option maxRecDepth 20000 in
set_option maxHeartbeats 1000000 in
theorem readt_any {w0 : World} (R A : Nat) (r : R2) (m : Nat) (hm : m < 9223372036854775808) (hs : r.s.size ≤ 1099511627776) (W : World) (hR : Lies W R r) (hlt : R < A) (hw : w0.heap.size ≤ A) (h0 : Only R w0 W)
    (hA : W.heap[A]? = some (.cells #[.pointer (some ⟨R, 0, none⟩)] 59 (0, 0))) (hB : W.heap[A + 1]? = some (.cells #[.int .i64 (m : Int)] 3 (0, 0))) (hC : W.heap[A + 1 + 1]? = some (.cells #[.string ⟨#[]⟩] 9 (0, 0))) :
    Calls Tryz.prog 72 #[.pointer (some ⟨R, 0, none⟩), cloT A] W
      fun e w' => e = .returned (.tuple #[]) ∧ Lies w' R (r.text m).2 ∧ w'.heap[A + 1 + 1]? = some (.cells #[.string (r.text m).1] 9 (0, 0)) ∧ Only R w0 w' := by
  have HN := Lib.hid (clot_any R A r m hm hs W hR hlt hA hB hC)
  have HC := Lib.hid hC
  have HR := Lib.hid hR
  have H0 := Lib.hid h0
  have hzC := (Array.getElem?_eq_some_iff.1 hC).1
  obtain ⟨s, b⟩ := r
  have c0 : W.cell? ⟨R, 0, none⟩ = some (.string s) := cell_at hR 0
  have c1 : W.cell? ⟨R, 1, none⟩ = some (.int .i64 b) := cell_at hR 1
  clear hA hB hC hR h0
  unfold cloT
  by_cases hb : b = 0
  · subst hb
    have hnum : (⟨s, 0⟩ : R2).text m = ((textR m s).1, R2.after (textR m s).2.1 (textR m s).2.2) := by unfold R2.text; rw [if_pos rfl]
    dsimp only at HN
    generalize textR m s = x at *
    obtain ⟨n, e, s1⟩ := x
    dsimp only at HN hnum
    have HX := Lib.hid hnum
    clear hnum
    go_enter Tryz.func72, Tryz.ntmps72
    go_wp2_with fail
    refine HN.out.mono ?_
    rintro e1 w1 ⟨rfl, w2, rfl, hR2, hO2⟩
    clear c0 c1
    have hC2 := (hO2.block _ hzC (by omega)).trans HC.out
    have hne : R ≠ A + 1 + 1 := by omega
    have hR3 := set_off (i := 0) hR2 hne (.string n)
    have hC3 := set_at hC2 0 (.string n)
    have hO3 : Only R w0 (w2.setCell ⟨A + 1 + 1, 0, none⟩ (.string n)) := (H0.out.trans hO2).setNew (by omega) _ _
    obtain ⟨w3, hw3⟩ : ∃ w3, w3 = w2.setCell ⟨A + 1 + 1, 0, none⟩ (.string n) := ⟨_, rfl⟩
    rw [← hw3] at hR3 hC3 hO3 ⊢
    have c1 : w3.cell? ⟨R, 1, none⟩ = some (.int .i64 0) := cell_at hR3 1
    have c0 : w3.cell? ⟨R, 0, none⟩ = some (.string s1) := cell_at hR3 0
    have f1 := free_at hR3 1
    have f0 := free_at hR3 0
    have HR3 := Lib.hid hR3
    have HC3 := Lib.hid (show w3.heap[A + 1 + 1]? = some (.cells #[.string n] 9 (0, 0)) from hC3)
    have HO3 := Lib.hid hO3
    clear hw3 hR3 hC3 hO3 hC2 hR2 hO2 HC HR HN
    by_cases he : e = 0
    · subst he
      go_wp2
      refine bodyPost_end (results_none rfl _ _ _) rfl ?_
      exact ⟨rfl, by rw [HX.out]; exact set_at HR3.out 1 _, by rw [HX.out]; exact set_off HC3.out (by omega) _, HO3.out.set 1 _⟩
    · have he2 : (e == 0) = false := by simpa using he
      go_wp2
      refine bodyPost_end (results_none rfl _ _ _) rfl ?_
      refine ⟨rfl, ?_, ?_, (HO3.out.set 1 _).set 0 _⟩
      · rw [HX.out, show R2.after e s1 = ⟨⟨#[]⟩, e⟩ by unfold R2.after; rw [if_neg he]]
        exact set_at (set_at HR3.out 1 _) 0 _
      · rw [HX.out]
        exact set_off (set_off HC3.out (by omega) _) (by omega) _
  · have hb2 : (b == 0) = false := by simpa using hb
    have hnum : (⟨s, b⟩ : R2).text m = (⟨#[]⟩, ⟨s, b⟩) := by unfold R2.text; rw [if_neg hb]
    have HX := Lib.hid hnum
    clear hnum
    go_enter Tryz.func72, Tryz.ntmps72
    go_wp2
    refine bodyPost_ret (results_none rfl _ _ _) rfl ?_
    exact ⟨rfl, by rw [HX.out]; exact HR.out, by rw [HX.out]; exact HC.out, H0.out⟩

set_option maxRecDepth 20000 in
set_option maxHeartbeats 1000000 in
/-- Text of a reader -/
theorem rtext_any (R : Nat) (r : R2) (m : Nat) (hm : m < 9223372036854775808) (hs : r.s.size ≤ 1099511627776) (W : World) (hR : Lies W R r) :
    Calls Tryz.prog 75 #[.pointer (some ⟨R, 0, none⟩), .int .i64 (m : Int)] W
      fun e w' => e = .returned (.string (r.text m).1) ∧ Lies w' R (r.text m).2 ∧ Only R W w' := by
  have hlt := (Array.getElem?_eq_some_iff.1 hR).1
  obtain ⟨W3, hW3⟩ : ∃ W3, W3 = ((W.alloc (.cells #[.pointer (some ⟨R, 0, none⟩)] 59)).alloc (.cells #[.int .i64 (m : Int)] 3)).alloc (.cells #[.string ⟨#[]⟩] 9) := ⟨_, rfl⟩
  have hA : W3.heap[W.heap.size]? = some (.cells #[.pointer (some ⟨R, 0, none⟩)] 59 (0, 0)) := by
    rw [hW3, Below.heap_alloc _ _ _ (by simp; omega), Below.heap_alloc _ _ _ (by simp)]; exact heap_alloc_new _ _
  have hB : W3.heap[W.heap.size + 1]? = some (.cells #[.int .i64 (m : Int)] 3 (0, 0)) := by
    rw [hW3, Below.heap_alloc _ _ _ (by simp)]
    have := heap_alloc_new (W.alloc (.cells #[.pointer (some ⟨R, 0, none⟩)] 59)) (.cells #[.int .i64 (m : Int)] 3)
    simpa using this
  have hC : W3.heap[W.heap.size + 1 + 1]? = some (.cells #[.string ⟨#[]⟩] 9 (0, 0)) := by
    have := heap_alloc_new ((W.alloc (.cells #[.pointer (some ⟨R, 0, none⟩)] 59)).alloc (.cells #[.int .i64 (m : Int)] 3)) (.cells #[.string ⟨#[]⟩] 9)
    rw [hW3]
    simpa using this
  have hO : Only R W W3 := by rw [hW3]; exact (((Only.refl R W).alloc _).alloc _).alloc _
  have hR3 : Lies W3 R r := by
    rw [hW3]; unfold Lies
    rw [Below.heap_alloc _ _ _ (by simp; omega), Below.heap_alloc _ _ _ (by simp; omega), Below.heap_alloc _ _ _ hlt]; exact hR
  have HN := Lib.hid (readt_any (w0 := W) R W.heap.size r m hm hs W3 hR3 hlt (Nat.le_refl _) hO hA hB hC)
  have ca : W3.cell? ⟨W.heap.size, 0, none⟩ = some (.pointer (some ⟨R, 0, none⟩)) := cell_at hA 0
  have CA := Lib.hid ca
  clear hA hB hC hO hR3 ca hR
  unfold cloT at HN
  go_enter Tryz.func75, Tryz.ntmps75
  go_upto_region 1 with fail
  rw [← hW3]
  have ca := CA.out
  clear hW3 CA
  go_wp2_with fail
  refine HN.out.mono ?_
  rintro e w1 ⟨rfl, hR1, hC1, hO1⟩
  have c1 : w1.cell? ⟨W.heap.size + 1 + 1, 0, none⟩ = some (.string (r.text m).1) := cell_at hC1 0
  have f1 := free_at hC1 0
  have HR1 := Lib.hid hR1
  have HC1 := Lib.hid hC1
  have HO1 := Lib.hid hO1
  clear hR1 hC1 hO1 ca HN
  go_wp2_with fail
  have c2 : (w1.setCell ⟨W.heap.size + 1 + 1, 0, none⟩ (.string (r.text m).1)).cell? ⟨W.heap.size + 1 + 1, 0, none⟩ = some (.string (r.text m).1) := cell_at (set_at HC1.out 0 _) 0
  refine bodyPost_ret (v := .string (r.text m).1) (by simp [results, Tryz.results75, go_sem, c2]) rfl ?_
  exact ⟨rfl, set_off HR1.out (by omega) _, HO1.out.setNew (by omega) _ _⟩
end Go.Proofs.YtnjcenbmdcogpaaGreatDoor.Rd
/- What was put is read as it was; how a reader ends. -/
namespace Go.Proofs.YtnjcenbmdcogpaaGreatDoor.Rd
open Go Go.RowKit Num Texts

theorem val_dig (n : Nat) : val (bytesOf (dig n)) = n := by
  induction n using Nat.strongRecOn with
  | _ n ih =>
    by_cases h : n = 0
    · subst h; rw [dig_zero]; rfl
    · have e : bytesOf (dig n) = bytesOf (dig (n / 256)) ++ [UInt8.ofNat (n % 256)] := by
        rw [dig_pos h, ← dig_byte]; unfold bytesOf; rw [List.map_append]
      rw [e, val_snoc, ih _ (by omega), UInt8.toNat_ofNat']
      omega
theorem dig_head (n : Nat) (h : n ≠ 0) (x : List UInt8) : ((bytesOf (dig n) ++ x).getD 0 0).toNat ≠ 0 := by
  induction n using Nat.strongRecOn generalizing x with
  | _ n ih =>
    have e : bytesOf (dig n) = bytesOf (dig (n / 256)) ++ [UInt8.ofNat (n % 256)] := by
      rw [dig_pos h, ← dig_byte]; unfold bytesOf; rw [List.map_append]
    rw [e, List.append_assoc]
    by_cases hq : n / 256 = 0
    · rw [hq, dig_zero]
      show (UInt8.ofNat (n % 256)).toNat ≠ 0
      rw [UInt8.toNat_ofNat']
      omega
    · exact ih _ (by omega) hq _
theorem ext_list {a b : ByteArray} (h : a.data.toList = b.data.toList) : a = b := by
  apply ByteArray.ext
  exact Array.toList_inj.1 h
theorem num_back (m x : Nat) (s rest : ByteArray) (hx : x < 18446744073709551616) (hm : x ≤ m) (hs : s.data.toList = (numS x).data.toList ++ rest.data.toList) : numR m s = (x, 0, rest) := by
  have hl := dig_len (m := x) (k := 8) (Nat.lt_of_lt_of_le hx (by decide))
  rw [numS_list, List.cons_append] at hs
  have hsz : s.size = (dig x).length + 1 + rest.size := by
    have := congrArg List.length hs
    simp only [Array.length_toList, List.length_cons, List.length_append, bytesOf, List.length_map] at this
    show s.data.size = _
    rw [this]
    show _ = _ + rest.data.size
    omega
  have h0 : (s.data.toList.getD 0 0).toNat = (dig x).length := by
    rw [hs, List.getD_cons_zero, UInt8.toNat_ofNat']; omega
  have hval : val ((s.data.toList.drop 1).take (dig x).length) = x := by
    rw [hs, List.drop_succ_cons, List.drop_zero, List.take_append_of_le_length (by simp [bytesOf]), List.take_of_length_le (by simp [bytesOf]), val_dig]
  have hex : s.extract (1 + (dig x).length) s.size = rest := by
    apply ext_list
    rw [Lib.extract_data, hs, Nat.add_comm 1, List.drop_succ_cons, List.drop_append_of_le_length (by simp [bytesOf]), List.drop_of_length_le (by simp [bytesOf]), List.nil_append, List.take_of_length_le]
    rw [Array.length_toList]
    show rest.size ≤ _
    omega
  unfold numR
  rw [if_neg (by omega)]
  dsimp only
  rw [h0, if_neg ?_, if_neg (by omega), hval, if_neg (by omega), hex]
  rintro (h | ⟨h1, h2, h3⟩)
  · omega
  · have hx0 : x ≠ 0 := by rintro rfl; rw [dig_zero] at h1; exact Nat.lt_irrefl _ h1
    rw [hs, List.getD_cons_succ] at h3
    exact dig_head x hx0 _ h3
theorem text_back (m : Nat) (s d rest : ByteArray) (hm : d.size ≤ m) (hd : d.size < 18446744073709551616) (hs : s.data.toList = (numS d.size).data.toList ++ (d.data.toList ++ rest.data.toList)) : textR m s = (d, 0, rest) := by
  have hn := num_back 18446744073709551615 d.size s (d ++ rest) hd (by omega) (by rw [hs, ByteArray.data_append, Array.toList_append])
  unfold textR
  rw [hn]
  dsimp only
  have hz : (d ++ rest).size = d.size + rest.size := ByteArray.size_append
  rw [if_neg (by simp), if_neg (by omega), if_neg (by omega)]
  have e1 : (d ++ rest).extract 0 d.size = d := by
    apply ext_list
    rw [Lib.extract_data, ByteArray.data_append, Array.toList_append, List.drop_zero, Nat.sub_zero, List.take_append_of_le_length (by rw [Array.length_toList]; exact Nat.le_refl _), List.take_of_length_le (by rw [Array.length_toList]; exact Nat.le_refl _)]
  have e2 : (d ++ rest).extract d.size (d ++ rest).size = rest := by
    apply ext_list
    rw [Lib.extract_data, ByteArray.data_append, Array.toList_append, List.drop_append_of_le_length (by rw [Array.length_toList]; exact Nat.le_refl _), List.drop_of_length_le (by rw [Array.length_toList]; exact Nat.le_refl _), List.nil_append, List.take_of_length_le (by rw [Array.length_toList, hz]; show rest.size ≤ _; omega)]
  rw [e1, e2]
theorem R2.num_ok {s rest : ByteArray} {m x : Nat} (h : numR m s = (x, 0, rest)) : (⟨s, 0⟩ : R2).num m = (x, ⟨rest, 0⟩) := by
  unfold R2.num; rw [if_pos rfl, h]; rfl
theorem R2.text_ok {s rest d : ByteArray} {m : Nat} (h : textR m s = (d, 0, rest)) : (⟨s, 0⟩ : R2).text m = (d, ⟨rest, 0⟩) := by
  unfold R2.text; rw [if_pos rfl, h]; rfl
theorem R2.num_val (r : R2) (m : Nat) : (r.num m).1 ≤ m := by unfold R2.num; split; exact numR_val _ _; exact Nat.zero_le _
theorem R2.after_rest (e : Int) (s : ByteArray) : (R2.after e s).s.size ≤ s.size := by unfold R2.after; split; exact Nat.le_refl _; exact Nat.zero_le _
theorem R2.num_rest (r : R2) (m : Nat) : (r.num m).2.s.size ≤ r.s.size := by unfold R2.num; split; exact Nat.le_trans (R2.after_rest _ _) (numR_rest _ _); exact Nat.le_refl _
theorem R2.text_rest (r : R2) (m : Nat) : (r.text m).2.s.size ≤ r.s.size := by unfold R2.text; split; exact Nat.le_trans (R2.after_rest _ _) (textR_rest _ _); exact Nat.le_refl _

theorem new_any (s : ByteArray) (W : World) : Calls Tryz.prog 39 #[.string s] W fun e w' => e = .returned (.pointer (some ⟨W.heap.size, 0, none⟩)) ∧ w' = W.alloc (.cells #[.string s, .int .i64 0] 95) := by
  go_enter Tryz.func39, Tryz.ntmps39
  go_wp2
  go_ret
  exact ⟨rfl, rfl⟩
theorem end_any (R : Nat) (r : R2) (W : World) (hR : Lies W R r) : Calls Tryz.prog 42 #[.pointer (some ⟨R, 0, none⟩)] W fun e w' => e = .returned (.int .i64 r.end') ∧ w' = W := by
  obtain ⟨s, b⟩ := r
  have c0 : W.cell? ⟨R, 0, none⟩ = some (.string s) := cell_at hR 0
  have c1 : W.cell? ⟨R, 1, none⟩ = some (.int .i64 b) := cell_at hR 1
  clear hR
  by_cases hb : b = 0
  · subst hb
    by_cases hz : 0 < s.size
    · have he : (⟨s, 0⟩ : R2).end' = 4 := by unfold R2.end'; rw [if_pos ⟨rfl, hz⟩]
      have hzi : (0 : Int) < (s.size : Int) := by omega
      rw [he]; clear he hz
      go_enter Tryz.func42, Tryz.ntmps42
      go_wp2
      go_ret
      exact ⟨rfl, rfl⟩
    · have he : (⟨s, 0⟩ : R2).end' = 0 := by unfold R2.end'; rw [if_neg (fun h => hz h.2)]
      have hzi : ¬ (0 : Int) < (s.size : Int) := by omega
      rw [he]; clear he hz
      go_enter Tryz.func42, Tryz.ntmps42
      go_wp2
      go_ret
      exact ⟨rfl, rfl⟩
  · have he : (⟨s, b⟩ : R2).end' = b := by unfold R2.end'; rw [if_neg (fun h => hb h.1)]
    have hb2 : (b == 0) = false := by simpa using hb
    rw [he]; clear he
    go_enter Tryz.func42, Tryz.ntmps42
    go_wp2
    go_ret
    exact ⟨rfl, rfl⟩
theorem left_any (R : Nat) (r : R2) (W : World) (hR : Lies W R r) : Calls Tryz.prog 111 #[.pointer (some ⟨R, 0, none⟩)] W fun e w' => e = .returned (.int .i64 (r.s.size : Int)) ∧ w' = W := by
  have c0 : W.cell? ⟨R, 0, none⟩ = some (.string r.s) := cell_at hR 0
  clear hR
  go_enter Tryz.func111, Tryz.ntmps111
  go_wp2
  go_ret
  exact ⟨rfl, rfl⟩
def R2.failed (r : R2) : Bool := decide (r.end' ≠ 0) && decide (r.s.size = 0)
theorem R2.failed_ok (s : ByteArray) : (⟨s, 0⟩ : R2).failed = false := by
  unfold R2.failed R2.end'
  by_cases h : s.size = 0
  · simp [h]
  · simp [h]
theorem failed_any (R : Nat) (r : R2) (W : World) (hR : Lies W R r) : Calls Tryz.prog 76 #[.pointer (some ⟨R, 0, none⟩)] W fun e w' => e = .returned (.bool r.failed) ∧ w' = W := by
  have HE := Lib.hid (end_any R r W hR)
  have HL := Lib.hid (left_any R r W hR)
  clear hR
  have hf : r.failed = (decide (r.end' ≠ 0) && decide (r.s.size = 0)) := rfl
  generalize r.end' = e at *
  generalize r.s.size = n at *
  have HF := Lib.hid hf
  clear hf
  go_enter Tryz.func76, Tryz.ntmps76
  go_wp2_with fail
  refine HE.out.mono ?_
  rintro _ w1 ⟨rfl, hw⟩
  obtain rfl := hw.symm
  by_cases he : e = 0
  · subst he
    go_wp2
    go_ret
    exact ⟨by rw [HF.out]; rfl, rfl⟩
  · have he2 : (e == 0) = false := by simpa using he
    go_wp2_with fail
    refine HL.out.mono ?_
    rintro _ w1 ⟨rfl, hw⟩
    obtain rfl := hw.symm
    by_cases hn : n = 0
    · subst hn
      go_wp2
      go_ret
      exact ⟨by rw [HF.out]; simp [he], rfl⟩
    · have hn2 : ((n : Int) == 0) = false := by simp; omega
      go_wp2
      go_ret
      exact ⟨by rw [HF.out]; simp [hn], rfl⟩
end Go.Proofs.YtnjcenbmdcogpaaGreatDoor.Rd
