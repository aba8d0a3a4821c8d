import Derived.Test.YtfalmebgjghjeaaMsgRows0
import Derived.Deep.AppendLies
import Derived.Test.YtfalmebgjghjeaaNumBytes
import Derived.Test.YtfalmebgjghjeaaTexts
import Derived.LoopTactic
import Derived.Laws.Rows
import Derived.Laws.EntriesVeiled
import Derived.RegionCalls
import Derived.Deep.Cut
import Derived.Deep.QuietTactic
import Derived.Deep.RegionHeld3
import Derived.Laws.Strings
import Derived.Test.YtfalmebgjghjeaaPacketMath
import Derived.Great.BuildSlice
import Derived.Test.YtfalmebgjghjeaaMsgMath
import Derived.Test.YtfalmebgjghjeaaMsgPut
import Derived.Test.YtfalmebgjghjeaaTx
import Derived.WalkMore
import Derived.Test.YtfalmebgjghjeaaTxnPut
/- Rows of the call's own, of whatever element: what leaves them as they are. -/
namespace Go.Proofs.Ytfalmebgjghjeaa.Msg
open Go Go.RowKit

abbrev TM : Nat := 43
abbrev TMs : Nat := 27

theorem own_blk_type {w : World} {base e n size k : Nat} {v : Value} {o : Obj} {zs : List Value} (h : w.ownsRow base e size v n zs) (hk : v.ownBlock = some k) (hb : w.heap[k]? = some o) : ∃ cs fr, o = .cells cs e fr := by
  rcases h.2 with ⟨rfl, _⟩ | ⟨g', cap, cur, rfl, _, hh, _⟩
  · cases hk
  · injection hk with hk
    subst hk
    rw [hh] at hb
    injection hb with hb
    exact ⟨_, _, hb.symm⟩
/-- A row behind a store or an append in a block of another type. -/
theorem own_other {w w' : World} {base e n size e' n' size' base' : Nat} {v v' : Value} {xs xs' : List Value} (h : w.ownsRow base e size v n xs) (h' : w.ownsRow base' e' size' v' n' xs') (hne : e ≠ e') (hg : w.grownBy w' v'.ownBlock) : w'.ownsRow base e size v n xs := by
  refine ⟨h.1, ?_⟩
  rcases h.2 with h2 | ⟨k, cap, cur, hv, hgb, hh, r⟩
  · exact .inl h2
  · refine .inr ⟨k, cap, cur, hv, hgb, (hg.block k (lt_blk hh) fun heq => ?_).trans hh, r⟩
    obtain ⟨cs, fr, ho⟩ := own_blk_type h' heq.symm hh
    injection ho with _ ht
    exact hne ht
theorem own_apart {w w' : World} {base e n size : Nat} {v : Value} {row : Option Nat} {xs : List Value} (h : w.ownsRow base e size v n xs) (hne : v.ownBlock = none ∨ v.ownBlock ≠ row) (hg : w.grownBy w' row) : w'.ownsRow base e size v n xs := by
  refine ⟨h.1, ?_⟩
  rcases h.2 with h2 | ⟨k, cap, cur, rfl, hgb, hh, r⟩
  · exact .inl h2
  · refine .inr ⟨k, cap, cur, rfl, hgb, (hg.block k (lt_blk hh) fun heq => ?_).trans hh, r⟩
    rcases hne with h1 | h1
    · cases h1
    · exact h1 heq
theorem own_setblk {w : World} {base e n size g i T : Nat} {v u : Value} {cs : Array Value} {fr : Nat × Nat} {xs : List Value} (h : w.ownsRow base e size v n xs) (hb : w.heap[g]? = some (.cells cs T fr)) (hT : T ≠ e) :
    (w.setCell ⟨g, i, none⟩ u).ownsRow base e size v n xs := by
  refine ⟨h.1, ?_⟩
  rcases h.2 with h2 | ⟨k, cap, cur, hv, hg, hh, r⟩
  · exact Or.inl h2
  · refine Or.inr ⟨k, cap, cur, hv, hg, (Below.heap_setCell _ _ _ _ fun e => ?_).trans hh, r⟩
    subst e
    rw [hh] at hb
    injection hb with hb
    injection hb with _ ht
    exact hT ht.symm
theorem own_belowN {w w' : World} {B base e size n : Nat} {v : Value} {xs : List Value} (h : w.ownsRow base e size v n xs) (hb : Below B w w') (hB : w.heap.size ≤ B) : w'.ownsRow base e size v n xs := own_below h (hb.mono hB)
theorem own_base {w : World} {base base' e size n : Nat} {v : Value} {xs : List Value} (h : w.ownsRow base' e size v n xs) (hB : base ≤ base') : w.ownsRow base e size v n xs := by
  refine ⟨h.1, ?_⟩
  rcases h.2 with h2 | ⟨k, cap, cur, hv, hg, r⟩
  · exact .inl h2
  · exact .inr ⟨k, cap, cur, hv, Nat.le_trans hB hg, r⟩

end Go.Proofs.Ytfalmebgjghjeaa.Msg
/- What a reader reads: numbers and texts out of bytes. -/
namespace Go.Proofs.Ytfalmebgjghjeaa.Rd
open Go Go.RowKit Num Texts

def val (l : List UInt8) : Nat := l.foldl (fun n b => n * 256 + b.toNat) 0
theorem val_snoc (l : List UInt8) (b : UInt8) : val (l ++ [b]) = val l * 256 + b.toNat := by simp [val]
theorem val_lt (l : List UInt8) : ∀ n, l.length ≤ n → val l < 256 ^ n := by
  have key : ∀ (l : List UInt8) (a n : Nat), a < 256 ^ n → l.foldl (fun n b => n * 256 + b.toNat) a < 256 ^ (n + l.length) := by
    intro l
    induction l with
    | nil => intro a n h; simpa using h
    | cons b t ih =>
      intro a n h
      have := ih (a * 256 + b.toNat) (n + 1) (by rw [Nat.pow_succ]; have := b.toNat_lt; omega)
      simp only [List.foldl_cons, List.length_cons]
      rw [show n + (t.length + 1) = n + 1 + t.length by omega]
      exact this
  intro n hn
  have := key l 0 0 (by decide)
  rw [Nat.zero_add] at this
  exact Nat.lt_of_lt_of_le this (Nat.pow_le_pow_right (by decide) hn)
/-- a number that is read: its value (0, if there is none), the error, and what is left (all, if there is none) -/
def numR (m : Nat) (s : ByteArray) : Nat × Int × ByteArray :=
  if s.size = 0 then (0, 2, s)
  else
    let k := (s.data.toList.getD 0 0).toNat
    if 8 < k ∨ (0 < k ∧ 1 < s.size ∧ (s.data.toList.getD 1 0).toNat = 0) then (0, 3, s)
    else if s.size - 1 < k then (0, 2, s)
    else
      let n := val ((s.data.toList.drop 1).take k)
      if m < n then (0, 5, s) else (n, 0, s.extract (1 + k) s.size)
theorem numR_val (m : Nat) (s : ByteArray) : (numR m s).1 ≤ m := by
  unfold numR
  split
  · exact Nat.zero_le _
  · dsimp only
    split
    · exact Nat.zero_le _
    · split
      · exact Nat.zero_le _
      · split
        · exact Nat.zero_le _
        · rename_i h; exact Nat.le_of_not_lt h
/-- a text that is read -/
def textR (m : Nat) (s : ByteArray) : ByteArray × Int × ByteArray :=
  let x := numR 18446744073709551615 s
  if x.2.1 ≠ 0 then (⟨#[]⟩, x.2.1, x.2.2)
  else if m < x.1 then (⟨#[]⟩, 4, x.2.2)
  else if x.2.2.size < x.1 then (⟨#[]⟩, 2, x.2.2)
  else (x.2.2.extract 0 x.1, 0, x.2.2.extract x.1 x.2.2.size)
/-- a reader: what is left, and its error -/
structure R2 where
  s : ByteArray
  b : Int
def R2.cells (r : R2) : Array Value := #[.string r.s, .int .i64 r.b]
/-- what a reader is behind a reading that told e and left s -/
def R2.after (e : Int) (s : ByteArray) : R2 := if e = 0 then ⟨s, 0⟩ else ⟨⟨#[]⟩, e⟩
def R2.num (r : R2) (m : Nat) : Nat × R2 := if r.b = 0 then ((numR m r.s).1, R2.after (numR m r.s).2.1 (numR m r.s).2.2) else (0, r)
def R2.text (r : R2) (m : Nat) : ByteArray × R2 := if r.b = 0 then ((textR m r.s).1, R2.after (textR m r.s).2.1 (textR m r.s).2.2) else (⟨#[]⟩, r)
def R2.end' (r : R2) : Int := if r.b = 0 ∧ 0 < r.s.size then 4 else r.b
end Go.Proofs.Ytfalmebgjghjeaa.Rd
/- A reader's number: (*digit.Reader).number. -/
namespace Go.Proofs.Ytfalmebgjghjeaa.Rd
open Go Go.RowKit Num Texts

/-- All that stood stands as it was, but block R. -/
structure Only (R : Nat) (w w' : World) : Prop where
  os : w'.os = w.os
  tape : w'.tape = w.tape
  output : w'.output = w.output
  size : w.heap.size ≤ w'.heap.size
  block : ∀ k, k < w.heap.size → k ≠ R → w'.heap[k]? = w.heap[k]?
theorem Only.refl (R : Nat) (w : World) : Only R w w := ⟨rfl, rfl, rfl, Nat.le_refl _, fun _ _ _ => rfl⟩
theorem Only.of_below {R : Nat} {w w' : World} (h : Below w.heap.size w w') : Only R w w' := ⟨h.os, h.tape, h.output, h.size, fun k hk _ => h.block k hk⟩
theorem Only.trans {R : Nat} {a b c : World} (h : Only R a b) (g : Only R b c) : Only R a c :=
  ⟨g.os.trans h.os, g.tape.trans h.tape, g.output.trans h.output, Nat.le_trans h.size g.size, fun k hk hne => (g.block k (Nat.lt_of_lt_of_le hk h.size) hne).trans (h.block k hk hne)⟩
theorem Only.set {R : Nat} {a b : World} (h : Only R a b) (i : Nat) (v : Value) : Only R a (b.setCell ⟨R, i, none⟩ v) :=
  ⟨h.os, h.tape, h.output, by simpa using h.size, fun k hk hne => (Below.heap_setCell _ _ _ _ (fun e => hne e)).trans (h.block k hk hne)⟩
theorem Only.setNew {R n : Nat} {a b : World} (h : Only R a b) (hn : a.heap.size ≤ n) (i : Nat) (v : Value) : Only R a (b.setCell ⟨n, i, none⟩ v) :=
  ⟨h.os, h.tape, h.output, by simpa using h.size, fun k hk hne => (Below.heap_setCell _ _ _ _ (fun e => by have : k = n := e; omega)).trans (h.block k hk hne)⟩
theorem Only.alloc {R : Nat} {a b : World} (h : Only R a b) (o : Obj) : Only R a (b.alloc o) :=
  ⟨h.os, h.tape, h.output, Nat.le_trans h.size (by simp), fun k hk hne => (Below.heap_alloc _ _ _ (Nat.lt_of_lt_of_le hk h.size)).trans (h.block k hk hne)⟩
theorem Only.drew {R : Nat} {a b : World} (h : Only R a b) : Only R a b.drew := ⟨h.os, h.tape, h.output, h.size, h.block⟩
theorem Only.below {B R : Nat} {a b c : World} (h : Below B a b) (g : Only R b c) (hR : B ≤ R) (hB : B ≤ b.heap.size) : Below B a c :=
  ⟨g.os.trans h.os, g.tape.trans h.tape, g.output.trans h.output, Nat.le_trans h.size g.size, fun k hk => (g.block k (Nat.lt_of_lt_of_le hk hB) (by omega)).trans (h.block k hk)⟩

theorem cell_at {w : World} {g : Nat} {cs : Array Value} {t : TypeId} (h : w.heap[g]? = some (.cells cs t (0, 0))) (i : Nat) : w.cell? ⟨g, i, none⟩ = cs[i]? := cell_of_row w g i cs t (0, 0) h
theorem free_at {w : World} {g : Nat} {cs : Array Value} {t : TypeId} (h : w.heap[g]? = some (.cells cs t (0, 0))) (i : Nat) : w.frozen? ⟨g, i, none⟩ = false := by simp [World.frozen?, h]
theorem set_at {w : World} {g : Nat} {cs : Array Value} {t : TypeId} (h : w.heap[g]? = some (.cells cs t (0, 0))) (i : Nat) (u : Value) : (w.setCell ⟨g, i, none⟩ u).heap[g]? = some (.cells (cs.setIfInBounds i u) t (0, 0)) := by
  simp [World.setCell, Array.getElem?_modify, h]
theorem set_off {w : World} {g b i : Nat} {o : Option Obj} (h : w.heap[b]? = o) (hne : b ≠ g) (u : Value) : (w.setCell ⟨g, i, none⟩ u).heap[b]? = o := by
  rw [Below.heap_setCell _ _ _ _ (fun e => hne e)]; exact h

/-- A reader lies in block R. -/
abbrev Lies (W : World) (R : Nat) (r : R2) : Prop := W.heap[R]? = some (.cells #[.string r.s, .int .i64 r.b] 67 (0, 0))

theorem byte0 (s : ByteArray) (h : 0 < s.size) : s.data.toList.getD 0 0 = s[0] := by
  rw [List.getD_eq_getElem?_getD, List.getElem?_eq_getElem (by simpa using h)]; rfl
theorem byteN (s : ByteArray) (j : Nat) (h : j < s.size) : s.data.toList.getD j 0 = s[j] := by
  rw [List.getD_eq_getElem?_getD, List.getElem?_eq_getElem (by simpa using h)]; rfl

set_option maxRecDepth 20000 in
set_option maxHeartbeats 1000000 in
theorem number_any (R : Nat) (r : R2) (m : Nat) (hm : m < 18446744073709551616) (hs : r.s.size ≤ 1099511627776) (W : World) (hR : Lies W R r) :
    Calls Try.prog 49 #[.pointer (some ⟨R, 0, none⟩), .int .u64 (m : Int)] W fun e w' => e = .returned (.tuple #[.int .u64 ((numR m r.s).1 : Int), .int .i64 (numR m r.s).2.1]) ∧ Lies w' R ⟨(numR m r.s).2.2, r.b⟩ ∧ Only R W w' := by
  obtain ⟨s, b⟩ := r
  have c0 : W.cell? ⟨R, 0, none⟩ = some (.string s) := cell_at hR 0
  have f0 := free_at hR 0
  have HR := Lib.hid hR
  clear hR
  have hs1 : (s.size : Int) ≤ 1099511627776 := by simp only at hs; omega
  dsimp only
  by_cases hz : s.size = 0
  · have hl : s.toList = [] := by rw [ByteArray.toList_eq]; exact List.eq_nil_of_length_eq_zero hz
    have hl2 : s.toList.isEmpty = true := by rw [hl]; rfl
    have hn : numR m s = (0, 2, s) := by unfold numR; rw [if_pos hz]
    rw [hn]
    clear hz hn
    go_enter Try.func49, Try.ntmps49
    go_wp2
    go_ret2
    exact ⟨rfl, HR.out, Only.refl _ _⟩
  · have hpos : 0 < s.size := by omega
    have hl : ¬ s.toList = [] := fun h => hz (by have := congrArg List.length h; rw [ByteArray.toList_eq] at this; exact this)
    have hl2 : s.toList.isEmpty = false := by cases hx : s.toList with
      | nil => exact absurd hx hl
      | cons _ _ => rfl
    have x0 : (0 : Int) < (s.size : Int) := by omega
    have x255 : ((s[0]'hpos).toNat : Int) ≤ 255 := by have := (s[0]'hpos).toNat_lt; omega
    by_cases hf : 8 < (s[0]'hpos).toNat ∨ (0 < (s[0]'hpos).toNat ∧ 1 < s.size ∧ (s.data.toList.getD 1 0).toNat = 0)
    · have hn : numR m s = (0, 3, s) := by
        unfold numR
        rw [if_neg hz]
        dsimp only
        rw [byte0 s hpos, if_pos hf]
      rw [hn]
      clear hn
      by_cases h8 : 8 < (s[0]'hpos).toNat
      · have g8 : (8 : Int) < ((s[0]'hpos).toNat : Int) := by omega
        clear hf h8
        go_enter Try.func49, Try.ntmps49
        go_wp2
        go_ret2
        exact ⟨rfl, HR.out, Only.refl _ _⟩
      · obtain ⟨h1, h2, h3⟩ := hf.resolve_left h8
        rw [byteN s 1 h2] at h3
        have g8 : ¬ (8 : Int) < ((s[0]'hpos).toNat : Int) := by omega
        have g1 : (0 : Int) < ((s[0]'hpos).toNat : Int) := by omega
        have g2 : (1 : Int) < (s.size : Int) := by omega
        have g3 : ((s[1]'h2).toNat : Int) = 0 := by omega
        clear hf h8 h1
        go_enter Try.func49, Try.ntmps49
        go_wp2
        go_ret2
        exact ⟨rfl, HR.out, Only.refl _ _⟩
    · have g8 : ¬ (8 : Int) < ((s[0]'hpos).toNat : Int) := by omega
      have hform : (s[0]'hpos).toNat = 0 ∨ s.size = 1 ∨ ∃ h : 1 < s.size, (s[1]'h).toNat ≠ 0 := by
        by_cases h0 : (s[0]'hpos).toNat = 0
        · exact .inl h0
        · by_cases h1 : 1 < s.size
          · refine .inr (.inr ⟨h1, fun h => hf (.inr ⟨by omega, h1, ?_⟩)⟩)
            rw [byteN s 1 h1]; exact h
          · exact .inr (.inl (by omega))
      by_cases hsh : s.size - 1 < (s[0]'hpos).toNat
      · have hn : numR m s = (0, 2, s) := by
          unfold numR
          rw [if_neg hz]
          dsimp only
          rw [byte0 s hpos, if_neg hf, if_pos hsh]
        rw [hn]
        have gsh : (s.size : Int) - 1 < ((s[0]'hpos).toNat : Int) := by omega
        clear hf hn
        rcases hform with h0 | h1 | ⟨h1, h2⟩
        · omega
        · have g2 : ¬ (1 : Int) < (s.size : Int) := by omega
          have g1 : (0 : Int) < ((s[0]'hpos).toNat : Int) := by omega
          clear hsh h1
          go_enter Try.func49, Try.ntmps49
          go_wp2
          go_ret2
          exact ⟨rfl, HR.out, Only.refl _ _⟩
        · have g2 : (1 : Int) < (s.size : Int) := by omega
          have g1 : (0 : Int) < ((s[0]'hpos).toNat : Int) := by omega
          have g3 : (((s[1]'h1).toNat : Int) == 0) = false := by simp; omega
          clear hsh h2
          go_enter Try.func49, Try.ntmps49
          go_wp2
          go_ret2
          exact ⟨rfl, HR.out, Only.refl _ _⟩
      · have hle : (s[0]'hpos).toNat < s.size := by omega
        have hn : numR m s = if m < val ((s.data.toList.drop 1).take (s[0]'hpos).toNat) then ((0, 5, s) : Nat × Int × ByteArray) else (val ((s.data.toList.drop 1).take (s[0]'hpos).toNat), 0, s.extract (1 + (s[0]'hpos).toNat) s.size) := by
          unfold numR
          rw [if_neg hz]
          dsimp only
          rw [byte0 s hpos, if_neg hf, if_neg hsh]
        have gsh : ((s[0]'hpos).toNat : Int) ≤ (s.size : Int) - 1 := by omega
        by_cases h0 : (s[0]'hpos).toNat = 0
        · have hn2 : numR m s = (0, 0, s.extract 1 s.size) := by
            rw [hn, h0, List.take_zero, show val [] = 0 from rfl, if_neg (Nat.not_lt_zero _)]
          have HN := Lib.hid hn2
          have k0 : ((s[0]'hpos).toNat : Int) = 0 := by omega
          have x1 : (1 : Int) ≤ (s.size : Int) := by omega
          have hm0 : ¬ (m : Int) < 0 := by omega
          clear hn hn2 hf hform hsh hle h0 g8 gsh
          go_enter Try.func49, Try.ntmps49
          go_wp2_with fail
          refine wp_loop_rounds 1 ?_
          rw [rounds_succ]
          go_wp2_with fail
          go_ret2
          exact ⟨by rw [HN.out]; rfl, by rw [HN.out]; exact set_at HR.out 0 _, (Only.refl _ _).set 0 _⟩
        · obtain ⟨h1, h2⟩ : ∃ h : 1 < s.size, (s[1]'h).toNat ≠ 0 := by
            rcases hform with h | h | h
            · exact absurd h h0
            · omega
            · exact h
          obtain ⟨k, hk⟩ : ∃ k : Nat, (s[0]'hpos).toNat = k := ⟨_, rfl⟩
          rw [hk] at hn hle
          have hk8 : k ≤ 8 := by omega
          have k0 : ((s[0]'hpos).toNat : Int) = (k : Int) := by omega
          have k1 : (k : Int) ≤ 8 := by omega
          have k2 : (0 : Int) < (k : Int) := by omega
          have k3 : (k : Int) ≤ (s.size : Int) - 1 := by omega
          have g2 : (1 : Int) < (s.size : Int) := by omega
          have g3 : (((s[1]'h1).toNat : Int) == 0) = false := by simp; omega
          have HN := Lib.hid hn
          have HK := Lib.hid (And.intro hle hk8)
          clear hn hf hform hsh hle h0 g8 gsh x255 hk hk8 h2
          go_enter Try.func49, Try.ntmps49
          go_wp2_with fail
          go_loopw [7, 8] (fun n i wr => ∃ j : Nat, 1 ≤ j ∧ j ≤ k + 1 ∧ i = .int .i64 j ∧ n = .int .u64 ((val ((s.data.toList.drop 1).take (j - 1)) : Nat) : Int) ∧ wr = W) (fun _ i _ => 10 - (intOf i).toNat)
          case atStart => exact ⟨1, by omega, by omega, rfl, rfl, rfl⟩
          case round =>
            obtain ⟨j, hj1, hj, rfl, rfl, hwr⟩ := hrel
            obtain rfl := hwr.symm
            rcases Nat.lt_or_ge k j with hge | hlt
            · have hjk : j - 1 = k := by omega
              rw [hjk]
              have j1 : ¬ (j : Int) ≤ (k : Int) := by omega
              generalize val ((s.data.toList.drop 1).take k) = n at *
              clear hjk hge hj hj1
              by_cases hmn : m < n
              · have hmi : (m : Int) < (n : Int) := by omega
                have HN2 : Hid (numR m s = (0, 5, s)) := Lib.hid (by rw [HN.out, if_pos hmn])
                clear hmn
                go_wp2
                go_ret2
                exact ⟨by rw [HN2.out]; rfl, by rw [HN2.out]; exact HR.out, Only.refl _ _⟩
              · have hmi : ¬ (m : Int) < (n : Int) := by omega
                have HN2 : Hid (numR m s = (n, 0, s.extract (1 + k) s.size)) := Lib.hid (by rw [HN.out, if_neg hmn])
                have k4 : 1 + (k : Int) ≤ (s.size : Int) := by omega
                have k5 : 1 + k ≤ s.size := by omega
                clear hmn
                go_wp2_with fail
                go_ret2
                exact ⟨by rw [HN2.out]; rfl, by rw [HN2.out]; exact set_at HR.out 0 _, (Only.refl _ _).set 0 _⟩
            · have j1 : (j : Int) ≤ (k : Int) := by omega
              have j2 : (j : Int) < (s.size : Int) := by have := HK.out.1; omega
              have hjs : j < s.size := by have := HK.out.1; omega
              have hl : j - 1 < (s.data.toList.drop 1).length := by rw [List.length_drop, Array.length_toList]; show j - 1 < s.size - 1; omega
              have hb : (s.data.toList.drop 1)[j - 1] = s[j] := by
                rw [List.getElem_drop]
                have := byteN s j hjs
                rw [List.getD_eq_getElem?_getD, List.getElem?_eq_getElem (by simpa using hjs)] at this
                simp only [Option.getD_some] at this
                rw [← this]
                congr 1
                omega
              have hnx : val ((s.data.toList.drop 1).take (j + 1 - 1)) = val ((s.data.toList.drop 1).take (j - 1)) * 256 + (s[j]'hjs).toNat := by
                rw [show j + 1 - 1 = (j - 1) + 1 by omega, List.take_succ_eq_append_getElem hl, val_snoc, hb]
              have hv : val ((s.data.toList.drop 1).take (j - 1)) < 72057594037927936 := Nat.lt_of_lt_of_le (val_lt _ 7 (by rw [List.length_take]; have := HK.out.2; omega)) (by decide)
              generalize val ((s.data.toList.drop 1).take (j - 1)) = n at *
              have hbx : (s[j]'hjs).toNat < 256 := (s[j]'hjs).toNat_lt
              have hbi : ((s[j]'hjs).toNat : Int) ≤ 255 := by omega
              have hvi : (n : Int) < 72057594037927936 := by omega
              have HNx := Lib.hid hnx
              clear hnx hb hl
              go_wp2_with fail
              have hor : bits .or .u64 ((n : Int) * 256) ((s[j]'hjs).toNat : Int) = ((n * 256 + (s[j]'hjs).toNat : Nat) : Int) := by
                rw [show (n : Int) * 256 = ((n * 256 : Nat) : Int) by omega, u64_or_nat _ _ (by omega) (by omega)]
                have := Nat.two_pow_add_eq_or_of_lt (i := 8) (b := (s[j]'hjs).toNat) (by omega) n
                rw [show 2 ^ 8 * n = n * 256 by omega] at this
                rw [this]
              rw [hor]
              exact ⟨⟨j + 1, by omega, by omega, by go_num, by rw [HNx.out], trivial⟩, by simp [intOf]; omega⟩
end Go.Proofs.Ytfalmebgjghjeaa.Rd
/- A reader: Num, Text, End, Left. -/
namespace Go.Proofs.Ytfalmebgjghjeaa.Rd
open Go Go.RowKit Num Texts

theorem numR_rest (m : Nat) (s : ByteArray) : (numR m s).2.2.size ≤ s.size := by
  unfold numR
  split
  · exact Nat.le_refl _
  · dsimp only
    split
    · exact Nat.le_refl _
    · split
      · exact Nat.le_refl _
      · split
        · exact Nat.le_refl _
        · show (s.extract _ _).size ≤ _
          rw [ByteArray.size_extract]; omega
theorem textR_rest (m : Nat) (s : ByteArray) : (textR m s).2.2.size ≤ s.size := by
  have := numR_rest 18446744073709551615 s
  unfold textR
  dsimp only
  split
  · exact this
  · split
    · exact this
    · split
      · exact this
      · show ((numR 18446744073709551615 s).2.2.extract _ _).size ≤ _
        rw [ByteArray.size_extract]; omega

set_option maxRecDepth 20000 in
set_option maxHeartbeats 1000000 in
theorem text_any (R : Nat) (r : R2) (m : Nat) (hs : r.s.size ≤ 1099511627776) (W : World) (hR : Lies W R r) :
    Calls Try.prog 50 #[.pointer (some ⟨R, 0, none⟩), .int .u64 (m : Int)] W fun e w' => e = .returned (.tuple #[.string (textR m r.s).1, .int .i64 (textR m r.s).2.1]) ∧ Lies w' R ⟨(textR m r.s).2.2, r.b⟩ ∧ Only R W w' := by
  have hnum := number_any R r 18446744073709551615 (by decide) hs W hR
  have hsz := numR_rest 18446744073709551615 r.s
  obtain ⟨s, b⟩ := r
  have ht : textR m s = (let x := numR 18446744073709551615 s; if x.2.1 ≠ 0 then ((⟨#[]⟩, x.2.1, x.2.2) : ByteArray × Int × ByteArray) else if m < x.1 then (⟨#[]⟩, 4, x.2.2) else if x.2.2.size < x.1 then (⟨#[]⟩, 2, x.2.2) else (x.2.2.extract 0 x.1, 0, x.2.2.extract x.1 x.2.2.size)) := rfl
  have hv := numR_val 18446744073709551615 s
  dsimp only at hnum hsz ht hs ⊢
  generalize numR 18446744073709551615 s = x at *
  obtain ⟨n, e, s1⟩ := x
  dsimp only at hnum hsz ht hv
  have HNum := Lib.hid hnum
  have HT := Lib.hid ht
  clear hnum ht hR
  have hs1 : (s1.size : Int) ≤ 1099511627776 := by omega
  have hvi : (n : Int) ≤ 18446744073709551615 := by omega
  go_enter Try.func50, Try.ntmps50
  go_wp2_with fail
  refine HNum.out.mono ?_
  rintro e1 w1 ⟨rfl, hR1, hO1⟩
  have c0 : w1.cell? ⟨R, 0, none⟩ = some (.string s1) := cell_at hR1 0
  have f0 := free_at hR1 0
  have HR1 := Lib.hid hR1
  have HO1 := Lib.hid hO1
  clear hR1 hO1 HNum
  by_cases he : e = 0
  · subst he
    by_cases hmn : m < n
    · have hmi : (m : Int) < (n : Int) := by omega
      have HT2 : Hid (textR m s = (⟨#[]⟩, 4, s1)) := Lib.hid (by rw [HT.out, if_neg (by simp), if_pos hmn])
      clear hmn
      go_wp2
      go_ret2
      exact ⟨by rw [HT2.out]; rfl, by rw [HT2.out]; exact HR1.out, HO1.out⟩
    · have hmi : ¬ (m : Int) < (n : Int) := by omega
      by_cases hl : s1.size < n
      · have hli : (s1.size : Int) < (n : Int) := by omega
        have HT2 : Hid (textR m s = (⟨#[]⟩, 2, s1)) := Lib.hid (by rw [HT.out, if_neg (by simp), if_neg hmn, if_pos hl])
        clear hmn hl
        go_wp2
        go_ret2
        exact ⟨by rw [HT2.out]; rfl, by rw [HT2.out]; exact HR1.out, HO1.out⟩
      · have hli : ¬ (s1.size : Int) < (n : Int) := by omega
        have hle : (n : Int) ≤ (s1.size : Int) := by omega
        have hle2 : n ≤ s1.size := by omega
        have HT2 : Hid (textR m s = (s1.extract 0 n, 0, s1.extract n s1.size)) := Lib.hid (by rw [HT.out, if_neg (by simp), if_neg hmn, if_neg hl])
        clear hmn hl
        go_wp2
        go_ret2
        exact ⟨by rw [HT2.out]; rfl, by rw [HT2.out]; exact set_at HR1.out 0 _, HO1.out.set 0 _⟩
  · have he2 : (e == 0) = false := by simpa using he
    have HT2 : Hid (textR m s = (⟨#[]⟩, e, s1)) := Lib.hid (by rw [HT.out, if_pos he])
    go_wp2
    go_ret2
    exact ⟨by rw [HT2.out]; rfl, by rw [HT2.out]; exact HR1.out, HO1.out⟩

/-- the closure that Num gives read: captured are the boxes of the reader, of the bound and of the result -/
def cloN (A : Nat) : Value := .func (.func 51) #[] #[.pointer (some ⟨A, 0, none⟩), .pointer (some ⟨A + 1, 0, none⟩), .pointer (some ⟨A + 1 + 1, 0, none⟩)]

set_option maxRecDepth 20000 in
set_option maxHeartbeats 1000000 in
theorem clon_any (R A : Nat) (r : R2) (m : Nat) (hm : m < 18446744073709551616) (hs : r.s.size ≤ 1099511627776) (W : World) (hR : Lies W R r) (hlt : R < A)
    (hA : W.heap[A]? = some (.cells #[.pointer (some ⟨R, 0, none⟩)] 58 (0, 0))) (hB : W.heap[A + 1]? = some (.cells #[.int .u64 (m : Int)] 26 (0, 0))) (hC : W.heap[A + 1 + 1]? = some (.cells #[.int .u64 0] 26 (0, 0))) :
    Calls Try.prog 51 #[.pointer (some ⟨A, 0, none⟩), .pointer (some ⟨A + 1, 0, none⟩), .pointer (some ⟨A + 1 + 1, 0, none⟩)] W
      fun e w' => e = .returned (.int .i64 (numR m r.s).2.1) ∧ ∃ w1, w' = w1.setCell ⟨A + 1 + 1, 0, none⟩ (.int .u64 ((numR m r.s).1 : Int)) ∧ Lies w1 R ⟨(numR m r.s).2.2, r.b⟩ ∧ Only R W w1 := by
  have HN := Lib.hid (number_any R r m hm hs W hR)
  have a0 := cell_at hA 0
  have b0 := cell_at hB 0
  have hzC := (Array.getElem?_eq_some_iff.1 hC).1
  have HC := Lib.hid hC
  have HR := Lib.hid hR
  have a1 : W.cell? ⟨A, 0, none⟩ = some (.pointer (some ⟨R, 0, none⟩)) := a0
  have b1 : W.cell? ⟨A + 1, 0, none⟩ = some (.int .u64 (m : Int)) := b0
  clear a0 b0 hA hB hC hR
  go_enter Try.func51, Try.ntmps51
  go_wp2_with fail
  refine HN.out.mono ?_
  rintro e w1 ⟨rfl, hR1, hO⟩
  have hC1 := (hO.block _ hzC (by omega)).trans HC.out
  have c1 : w1.cell? ⟨A + 1 + 1, 0, none⟩ = some (.int .u64 0) := cell_at hC1 0
  have f1 := free_at hC1 0
  have HR1 := Lib.hid hR1
  have HO := Lib.hid hO
  clear hR1 hO hC1 HC HN
  go_wp2
  go_ret
  exact ⟨rfl, w1, rfl, HR1.out, HO.out⟩

set_option maxRecDepth 20000 in
set_option maxHeartbeats 1000000 in
theorem readn_any {w0 : World} (R A : Nat) (r : R2) (m : Nat) (hm : m < 18446744073709551616) (hs : r.s.size ≤ 1099511627776) (W : World) (hR : Lies W R r) (hlt : R < A) (hw : w0.heap.size ≤ A) (h0 : Only R w0 W)
    (hA : W.heap[A]? = some (.cells #[.pointer (some ⟨R, 0, none⟩)] 58 (0, 0))) (hB : W.heap[A + 1]? = some (.cells #[.int .u64 (m : Int)] 26 (0, 0))) (hC : W.heap[A + 1 + 1]? = some (.cells #[.int .u64 0] 26 (0, 0))) :
    Calls Try.prog 39 #[.pointer (some ⟨R, 0, none⟩), cloN A] W
      fun e w' => e = .returned (.tuple #[]) ∧ Lies w' R (r.num m).2 ∧ w'.heap[A + 1 + 1]? = some (.cells #[.int .u64 ((r.num m).1 : Int)] 26 (0, 0)) ∧ Only R w0 w' := by
  have HN := Lib.hid (clon_any R A r m hm hs W hR hlt hA hB hC)
  have HC := Lib.hid hC
  have HR := Lib.hid hR
  have H0 := Lib.hid h0
  have hzC := (Array.getElem?_eq_some_iff.1 hC).1
  obtain ⟨s, b⟩ := r
  have c0 : W.cell? ⟨R, 0, none⟩ = some (.string s) := cell_at hR 0
  have c1 : W.cell? ⟨R, 1, none⟩ = some (.int .i64 b) := cell_at hR 1
  clear hA hB hC hR h0
  unfold cloN
  by_cases hb : b = 0
  · subst hb
    have hnum : (⟨s, 0⟩ : R2).num m = ((numR m s).1, R2.after (numR m s).2.1 (numR m s).2.2) := by unfold R2.num; rw [if_pos rfl]
    dsimp only at HN
    generalize numR m s = x at *
    obtain ⟨n, e, s1⟩ := x
    dsimp only at HN hnum
    have HX := Lib.hid hnum
    clear hnum
    go_enter Try.func39, Try.ntmps39
    go_wp2_with fail
    refine HN.out.mono ?_
    rintro e1 w1 ⟨rfl, w2, rfl, hR2, hO2⟩
    clear c0 c1
    have hC2 := (hO2.block _ hzC (by omega)).trans HC.out
    have hne : R ≠ A + 1 + 1 := by omega
    have hR3 := set_off (i := 0) hR2 hne (.int .u64 (n : Int))
    have hC3 := set_at hC2 0 (.int .u64 (n : Int))
    have hO3 : Only R w0 (w2.setCell ⟨A + 1 + 1, 0, none⟩ (.int .u64 (n : Int))) := (H0.out.trans hO2).setNew (by omega) _ _
    obtain ⟨w3, hw3⟩ : ∃ w3, w3 = w2.setCell ⟨A + 1 + 1, 0, none⟩ (.int .u64 (n : Int)) := ⟨_, rfl⟩
    rw [← hw3] at hR3 hC3 hO3 ⊢
    have c1 : w3.cell? ⟨R, 1, none⟩ = some (.int .i64 0) := cell_at hR3 1
    have c0 : w3.cell? ⟨R, 0, none⟩ = some (.string s1) := cell_at hR3 0
    have f1 := free_at hR3 1
    have f0 := free_at hR3 0
    have HR3 := Lib.hid hR3
    have HC3 := Lib.hid (show w3.heap[A + 1 + 1]? = some (.cells #[.int .u64 (n : Int)] 26 (0, 0)) from hC3)
    have HO3 := Lib.hid hO3
    clear hw3 hR3 hC3 hO3 hC2 hR2 hO2 HC HR HN
    by_cases he : e = 0
    · subst he
      go_wp2
      refine bodyPost_end (results_none rfl _ _ _) rfl ?_
      exact ⟨rfl, by rw [HX.out]; exact set_at HR3.out 1 _, by rw [HX.out]; exact set_off HC3.out (by omega) _, HO3.out.set 1 _⟩
    · have he2 : (e == 0) = false := by simpa using he
      go_wp2
      refine bodyPost_end (results_none rfl _ _ _) rfl ?_
      refine ⟨rfl, ?_, ?_, (HO3.out.set 1 _).set 0 _⟩
      · rw [HX.out, show R2.after e s1 = ⟨⟨#[]⟩, e⟩ by unfold R2.after; rw [if_neg he]]
        exact set_at (set_at HR3.out 1 _) 0 _
      · rw [HX.out]
        exact set_off (set_off HC3.out (by omega) _) (by omega) _
  · have hb2 : (b == 0) = false := by simpa using hb
    have hnum : (⟨s, b⟩ : R2).num m = (0, ⟨s, b⟩) := by unfold R2.num; rw [if_neg hb]
    have HX := Lib.hid hnum
    clear hnum
    go_enter Try.func39, Try.ntmps39
    go_wp2
    refine bodyPost_ret (results_none rfl _ _ _) rfl ?_
    exact ⟨rfl, by rw [HX.out]; exact HR.out, by rw [HX.out]; exact HC.out, H0.out⟩

set_option maxRecDepth 20000 in
set_option maxHeartbeats 1000000 in
/-- Num of a reader -/
theorem rnum_any (R : Nat) (r : R2) (m : Nat) (hm : m < 18446744073709551616) (hs : r.s.size ≤ 1099511627776) (W : World) (hR : Lies W R r) :
    Calls Try.prog 43 #[.pointer (some ⟨R, 0, none⟩), .int .u64 (m : Int)] W
      fun e w' => e = .returned (.int .u64 ((r.num m).1 : Int)) ∧ Lies w' R (r.num m).2 ∧ Only R W w' := by
  have hlt := (Array.getElem?_eq_some_iff.1 hR).1
  obtain ⟨W3, hW3⟩ : ∃ W3, W3 = ((W.alloc (.cells #[.pointer (some ⟨R, 0, none⟩)] 58)).alloc (.cells #[.int .u64 (m : Int)] 26)).alloc (.cells #[.int .u64 0] 26) := ⟨_, rfl⟩
  have hA : W3.heap[W.heap.size]? = some (.cells #[.pointer (some ⟨R, 0, none⟩)] 58 (0, 0)) := by
    rw [hW3, Below.heap_alloc _ _ _ (by simp; omega), Below.heap_alloc _ _ _ (by simp)]; exact heap_alloc_new _ _
  have hB : W3.heap[W.heap.size + 1]? = some (.cells #[.int .u64 (m : Int)] 26 (0, 0)) := by
    rw [hW3, Below.heap_alloc _ _ _ (by simp)]
    have := heap_alloc_new (W.alloc (.cells #[.pointer (some ⟨R, 0, none⟩)] 58)) (.cells #[.int .u64 (m : Int)] 26)
    simpa using this
  have hC : W3.heap[W.heap.size + 1 + 1]? = some (.cells #[.int .u64 0] 26 (0, 0)) := by
    have := heap_alloc_new ((W.alloc (.cells #[.pointer (some ⟨R, 0, none⟩)] 58)).alloc (.cells #[.int .u64 (m : Int)] 26)) (.cells #[.int .u64 0] 26)
    rw [hW3]
    simpa using this
  have hO : Only R W W3 := by rw [hW3]; exact (((Only.refl R W).alloc _).alloc _).alloc _
  have hR3 : Lies W3 R r := by
    rw [hW3]; unfold Lies
    rw [Below.heap_alloc _ _ _ (by simp; omega), Below.heap_alloc _ _ _ (by simp; omega), Below.heap_alloc _ _ _ hlt]; exact hR
  have HN := Lib.hid (readn_any (w0 := W) R W.heap.size r m hm hs W3 hR3 hlt (Nat.le_refl _) hO hA hB hC)
  have ca : W3.cell? ⟨W.heap.size, 0, none⟩ = some (.pointer (some ⟨R, 0, none⟩)) := cell_at hA 0
  have CA := Lib.hid ca
  clear hA hB hC hO hR3 ca hR
  unfold cloN at HN
  go_enter Try.func43, Try.ntmps43
  go_upto_region 1 with fail
  rw [← hW3]
  have ca := CA.out
  clear hW3 CA
  go_wp2_with fail
  refine HN.out.mono ?_
  rintro e w1 ⟨rfl, hR1, hC1, hO1⟩
  have c1 : w1.cell? ⟨W.heap.size + 1 + 1, 0, none⟩ = some (.int .u64 ((r.num m).1 : Int)) := cell_at hC1 0
  have f1 := free_at hC1 0
  have HR1 := Lib.hid hR1
  have HC1 := Lib.hid hC1
  have HO1 := Lib.hid hO1
  clear hR1 hC1 hO1 ca HN
  go_wp2_with fail
  have c2 : (w1.setCell ⟨W.heap.size + 1 + 1, 0, none⟩ (.int .u64 ((r.num m).1 : Int))).cell? ⟨W.heap.size + 1 + 1, 0, none⟩ = some (.int .u64 ((r.num m).1 : Int)) := cell_at (set_at HC1.out 0 _) 0
  refine bodyPost_ret (v := .int .u64 ((r.num m).1 : Int)) (by simp [results, Try.results43, go_sem, c2]) rfl ?_
  exact ⟨rfl, set_off HR1.out (by omega) _, HO1.out.setNew (by omega) _ _⟩
end Go.Proofs.Ytfalmebgjghjeaa.Rd
/- A reader's texts: Text. -/
namespace Go.Proofs.Ytfalmebgjghjeaa.Rd
open Go Go.RowKit Num Texts

theorem cell_off {w : World} {g i b k : Nat} {x : Value} {u : Value} (h : w.cell? ⟨b, k, none⟩ = some x) (hne : b ≠ g) : (w.setCell ⟨g, i, none⟩ u).cell? ⟨b, k, none⟩ = some x := by
  unfold World.cell? at h ⊢
  rw [Below.heap_setCell _ _ _ _ (fun e => hne e)]; exact h
theorem limit_any (m : Nat) (hm : m < 9223372036854775808) (w : World) : Calls Try.prog 42 #[.int .i64 (m : Int)] w fun e w' => e = .returned (.int .u64 (m : Int)) ∧ w' = w := by
  have h0 : (0 : Int) ≤ (m : Int) := by omega
  have h1 : (m : Int) < 9223372036854775808 := by omega
  go_enter Try.func42, Try.ntmps42
  go_wp2
  go_ret
  exact ⟨rfl, rfl⟩

/-- the closure that Text gives read: captured are the boxes of the reader, of the bound and of the result -/
def cloT (A : Nat) : Value := .func (.func 56) #[] #[.pointer (some ⟨A, 0, none⟩), .pointer (some ⟨A + 1, 0, none⟩), .pointer (some ⟨A + 1 + 1, 0, none⟩)]

set_option maxRecDepth 20000 in
set_option maxHeartbeats 1000000 in
theorem clot_any (R A : Nat) (r : R2) (m : Nat) (hm : m < 9223372036854775808) (hs : r.s.size ≤ 1099511627776) (W : World) (hR : Lies W R r) (hlt : R < A)
    (hA : W.heap[A]? = some (.cells #[.pointer (some ⟨R, 0, none⟩)] 58 (0, 0))) (hB : W.heap[A + 1]? = some (.cells #[.int .i64 (m : Int)] 3 (0, 0))) (hC : W.heap[A + 1 + 1]? = some (.cells #[.string ⟨#[]⟩] 9 (0, 0))) :
    Calls Try.prog 56 #[.pointer (some ⟨A, 0, none⟩), .pointer (some ⟨A + 1, 0, none⟩), .pointer (some ⟨A + 1 + 1, 0, none⟩)] W
      fun e w' => e = .returned (.int .i64 (textR m r.s).2.1) ∧ ∃ w1, w' = w1.setCell ⟨A + 1 + 1, 0, none⟩ (.string (textR m r.s).1) ∧ Lies w1 R ⟨(textR m r.s).2.2, r.b⟩ ∧ Only R W w1 := by
  have HN := Lib.hid (show Calls Try.prog 50 #[.pointer (some ⟨R, 0, none⟩), .int .u64 (m : Int)] W.drew fun e w' => e = .returned (.tuple #[.string (textR m r.s).1, .int .i64 (textR m r.s).2.1]) ∧ Lies w' R ⟨(textR m r.s).2.2, r.b⟩ ∧ Only R W.drew w' from text_any R r m hs W.drew hR)
  have a0 := cell_at hA 0
  have b0 := cell_at hB 0
  have hzA := (Array.getElem?_eq_some_iff.1 hA).1
  have hzB := (Array.getElem?_eq_some_iff.1 hB).1
  have hzC := (Array.getElem?_eq_some_iff.1 hC).1
  have HC := Lib.hid hC
  have HS := Lib.hid (show ∀ W', Only R W.drew W' → W'.cell? ⟨A, 0, none⟩ = some (.pointer (some ⟨R, 0, none⟩)) ∧ W'.cell? ⟨A + 1, 0, none⟩ = some (.int .i64 (m : Int)) from fun W' h => ⟨cell_at ((h.block _ hzA (by omega)).trans hA) 0, cell_at ((h.block _ hzB (by omega)).trans hB) 0⟩)
  have a1 : W.drew.cell? ⟨A, 0, none⟩ = some (.pointer (some ⟨R, 0, none⟩)) := a0
  have b1 : W.drew.cell? ⟨A + 1, 0, none⟩ = some (.int .i64 (m : Int)) := b0
  clear a0 b0 hA hB hC hR
  go_enter Try.func56, Try.ntmps56
  go_upto_region 1 with fail
  refine wp_region_held_drew (S := (fun W' => W'.cell? ⟨A, 0, none⟩ = some (.pointer (some ⟨R, 0, none⟩)) ∧ W'.cell? ⟨A + 1, 0, none⟩ = some (.int .i64 (m : Int)))) (by kernel_rfl) ⟨a1, b1⟩ (fun hHeld => ?_)
  refine wpAnyH_take (i := 0) (oi := _) (v := ?_) rfl (by kernel_rfl) (by kernel_rfl) (by kernel_rfl) (fun _ _ _ h => h) (Or.inl ⟨by rfl, ?_⟩) (by assumption) ?_
  rotate_left
  · (intro W' hSw; have hq := hSw.1; clear hSw; go_simp; try with_reducible rfl)
  try simp only [Act.put, List.getElem_toArray, List.getElem_cons_zero, List.setIfInBounds_toArray, List.set_cons_zero, List.set_cons_succ]
  refine wpAnyH_take (i := 1) (oi := _) (v := ?_) rfl (by kernel_rfl) (by kernel_rfl) (by kernel_rfl) (fun _ _ _ h => h) (Or.inl ⟨by rfl, ?_⟩) (by assumption) ?_
  rotate_left
  · (intro W' hSw; have hq := hSw.2; clear hSw; go_simp; try with_reducible rfl)
  try simp only [Act.put, List.getElem_toArray, List.getElem_cons_succ, List.getElem_cons_zero, List.setIfInBounds_toArray, List.set_cons_zero, List.set_cons_succ]
  refine wpAnyH_ready (rs := [2]) (by kernel_rfl) (by simp) ?_
  refine AllReadyH.cons rfl (fun K hK => ?_) AllReadyH.nil
  simp only [List.getElem_toArray, List.getElem_cons_succ, List.getElem_cons_zero]
  rw [if_pos (by rfl)]
  go_simp
  (go_at_call 42; refine (limit_any m hm _).mono ?_; rintro e w1 ⟨rfl, rfl⟩)
  go_wp2_with fail
  refine hK.out _ _ hHeld (fun hHeld => ?_)
  clear hK K
  try simp only [Act.put, List.getElem_toArray, List.getElem_cons_succ, List.getElem_cons_zero, List.setIfInBounds_toArray, List.set_cons_zero, List.set_cons_succ]
  refine wpAnyH_ready (rs := [3]) (by kernel_rfl) (by simp) ?_
  refine AllReadyH.cons rfl (fun K hK => ?_) AllReadyH.nil
  simp only [List.getElem_toArray, List.getElem_cons_succ, List.getElem_cons_zero]
  rw [if_pos (by rfl)]
  go_simp
  (go_at_call 50; refine (HN.out).mono ?_; rintro e w1 ⟨rfl, hR1, hO⟩; have hS1 := HS.out w1 hO)
  go_wp2_with fail
  refine hK.out _ _ hS1 (fun hHeld => ?_)
  clear hK K
  try simp only [Act.put, List.getElem_toArray, List.getElem_cons_succ, List.getElem_cons_zero, List.setIfInBounds_toArray, List.set_cons_zero, List.set_cons_succ]
  refine wpAnyH_take (i := 4) (oi := _) (v := ?_) rfl (by kernel_rfl) (by kernel_rfl) (by kernel_rfl) (fun _ _ _ h => h) (Or.inl ⟨by rfl, ?_⟩) (by assumption) ?_
  rotate_left
  · (intro W hSw; (try dsimp only at hSw); go_simp; try with_reducible rfl)
  try simp only [Act.put, List.getElem_toArray, List.getElem_cons_succ, List.getElem_cons_zero, List.setIfInBounds_toArray, List.set_cons_zero, List.set_cons_succ]
  refine wpAnyH_take (i := 5) (oi := _) (v := ?_) rfl (by kernel_rfl) (by kernel_rfl) (by kernel_rfl) (fun _ _ _ h => h) (Or.inl ⟨by rfl, ?_⟩) (by assumption) ?_
  rotate_left
  · (intro W hSw; (try dsimp only at hSw); go_simp; try with_reducible rfl)
  try simp only [Act.put, List.getElem_toArray, List.getElem_cons_succ, List.getElem_cons_zero, List.setIfInBounds_toArray, List.set_cons_zero, List.set_cons_succ]
  refine wpAnyH_take (i := 6) (oi := _) (v := ?_) rfl (by kernel_rfl) (by kernel_rfl) (by kernel_rfl) (fun _ _ _ h => h) (Or.inl ⟨by rfl, ?_⟩) (by assumption) ?_
  rotate_left
  · (intro W hSw; (try dsimp only at hSw); go_simp; try with_reducible rfl)
  try simp only [Act.put, List.getElem_toArray, List.getElem_cons_succ, List.getElem_cons_zero, List.setIfInBounds_toArray, List.set_cons_zero, List.set_cons_succ]
  have hC1 := (hO.block _ hzC (by omega)).trans HC.out
  have c1 : w1.cell? ⟨A + 1 + 1, 0, none⟩ = some (.string ⟨#[]⟩) := cell_at hC1 0
  have f1 := free_at hC1 0
  refine wpAnyH_ready (rs := [7]) (by kernel_rfl) (by simp) ?_
  refine AllReadyH.cons rfl (fun K hK => ?_) AllReadyH.nil
  simp only [List.getElem_toArray, List.getElem_cons_succ, List.getElem_cons_zero]
  rw [if_pos (by rfl)]
  go_simp
  refine hK.out _ _ (by have h2 := HS.out w1 hO; exact ⟨(cell_off h2.1 (by omega)), (cell_off h2.2 (by omega))⟩) (fun hHeld => ?_)
  clear hK K
  try simp only [Act.put, List.getElem_toArray, List.getElem_cons_succ, List.getElem_cons_zero, List.setIfInBounds_toArray, List.set_cons_zero, List.set_cons_succ]
  refine wpAnyH_take (i := 8) (oi := _) (v := ?_) rfl (by kernel_rfl) (by kernel_rfl) (by kernel_rfl) (fun _ _ _ h => h) (Or.inl ⟨by rfl, ?_⟩) (by assumption) ?_
  rotate_left
  · (intro W hSw; (try dsimp only at hSw); go_simp; try with_reducible rfl)
  try simp only [Act.put, List.getElem_toArray, List.getElem_cons_succ, List.getElem_cons_zero, List.setIfInBounds_toArray, List.set_cons_zero, List.set_cons_succ]
  refine wpAnyH_done (by kernel_rfl) ?_ _
  go_wp2
  go_ret
  exact ⟨rfl, w1, rfl, hR1, ((Only.refl R W).drew).trans hO⟩

set_option maxRecDepth 20000 in
set_option maxHeartbeats 1000000 in
theorem readt_any {w0 : World} (R A : Nat) (r : R2) (m : Nat) (hm : m < 9223372036854775808) (hs : r.s.size ≤ 1099511627776) (W : World) (hR : Lies W R r) (hlt : R < A) (hw : w0.heap.size ≤ A) (h0 : Only R w0 W)
    (hA : W.heap[A]? = some (.cells #[.pointer (some ⟨R, 0, none⟩)] 58 (0, 0))) (hB : W.heap[A + 1]? = some (.cells #[.int .i64 (m : Int)] 3 (0, 0))) (hC : W.heap[A + 1 + 1]? = some (.cells #[.string ⟨#[]⟩] 9 (0, 0))) :
    Calls Try.prog 39 #[.pointer (some ⟨R, 0, none⟩), cloT A] W
      fun e w' => e = .returned (.tuple #[]) ∧ Lies w' R (r.text m).2 ∧ w'.heap[A + 1 + 1]? = some (.cells #[.string (r.text m).1] 9 (0, 0)) ∧ Only R w0 w' := by
  have HN := Lib.hid (clot_any R A r m hm hs W hR hlt hA hB hC)
  have HC := Lib.hid hC
  have HR := Lib.hid hR
  have H0 := Lib.hid h0
  have hzC := (Array.getElem?_eq_some_iff.1 hC).1
  obtain ⟨s, b⟩ := r
  have c0 : W.cell? ⟨R, 0, none⟩ = some (.string s) := cell_at hR 0
  have c1 : W.cell? ⟨R, 1, none⟩ = some (.int .i64 b) := cell_at hR 1
  clear hA hB hC hR h0
  unfold cloT
  by_cases hb : b = 0
  · subst hb
    have hnum : (⟨s, 0⟩ : R2).text m = ((textR m s).1, R2.after (textR m s).2.1 (textR m s).2.2) := by unfold R2.text; rw [if_pos rfl]
    dsimp only at HN
    generalize textR m s = x at *
    obtain ⟨n, e, s1⟩ := x
    dsimp only at HN hnum
    have HX := Lib.hid hnum
    clear hnum
    go_enter Try.func39, Try.ntmps39
    go_wp2_with fail
    refine HN.out.mono ?_
    rintro e1 w1 ⟨rfl, w2, rfl, hR2, hO2⟩
    clear c0 c1
    have hC2 := (hO2.block _ hzC (by omega)).trans HC.out
    have hne : R ≠ A + 1 + 1 := by omega
    have hR3 := set_off (i := 0) hR2 hne (.string n)
    have hC3 := set_at hC2 0 (.string n)
    have hO3 : Only R w0 (w2.setCell ⟨A + 1 + 1, 0, none⟩ (.string n)) := (H0.out.trans hO2).setNew (by omega) _ _
    obtain ⟨w3, hw3⟩ : ∃ w3, w3 = w2.setCell ⟨A + 1 + 1, 0, none⟩ (.string n) := ⟨_, rfl⟩
    rw [← hw3] at hR3 hC3 hO3 ⊢
    have c1 : w3.cell? ⟨R, 1, none⟩ = some (.int .i64 0) := cell_at hR3 1
    have c0 : w3.cell? ⟨R, 0, none⟩ = some (.string s1) := cell_at hR3 0
    have f1 := free_at hR3 1
    have f0 := free_at hR3 0
    have HR3 := Lib.hid hR3
    have HC3 := Lib.hid (show w3.heap[A + 1 + 1]? = some (.cells #[.string n] 9 (0, 0)) from hC3)
    have HO3 := Lib.hid hO3
    clear hw3 hR3 hC3 hO3 hC2 hR2 hO2 HC HR HN
    by_cases he : e = 0
    · subst he
      go_wp2
      refine bodyPost_end (results_none rfl _ _ _) rfl ?_
      exact ⟨rfl, by rw [HX.out]; exact set_at HR3.out 1 _, by rw [HX.out]; exact set_off HC3.out (by omega) _, HO3.out.set 1 _⟩
    · have he2 : (e == 0) = false := by simpa using he
      go_wp2
      refine bodyPost_end (results_none rfl _ _ _) rfl ?_
      refine ⟨rfl, ?_, ?_, (HO3.out.set 1 _).set 0 _⟩
      · rw [HX.out, show R2.after e s1 = ⟨⟨#[]⟩, e⟩ by unfold R2.after; rw [if_neg he]]
        exact set_at (set_at HR3.out 1 _) 0 _
      · rw [HX.out]
        exact set_off (set_off HC3.out (by omega) _) (by omega) _
  · have hb2 : (b == 0) = false := by simpa using hb
    have hnum : (⟨s, b⟩ : R2).text m = (⟨#[]⟩, ⟨s, b⟩) := by unfold R2.text; rw [if_neg hb]
    have HX := Lib.hid hnum
    clear hnum
    go_enter Try.func39, Try.ntmps39
    go_wp2
    refine bodyPost_ret (results_none rfl _ _ _) rfl ?_
    exact ⟨rfl, by rw [HX.out]; exact HR.out, by rw [HX.out]; exact HC.out, H0.out⟩

set_option maxRecDepth 20000 in
set_option maxHeartbeats 1000000 in
/-- Text of a reader -/
theorem rtext_any (R : Nat) (r : R2) (m : Nat) (hm : m < 9223372036854775808) (hs : r.s.size ≤ 1099511627776) (W : World) (hR : Lies W R r) :
    Calls Try.prog 53 #[.pointer (some ⟨R, 0, none⟩), .int .i64 (m : Int)] W
      fun e w' => e = .returned (.string (r.text m).1) ∧ Lies w' R (r.text m).2 ∧ Only R W w' := by
  have hlt := (Array.getElem?_eq_some_iff.1 hR).1
  obtain ⟨W3, hW3⟩ : ∃ W3, W3 = ((W.alloc (.cells #[.pointer (some ⟨R, 0, none⟩)] 58)).alloc (.cells #[.int .i64 (m : Int)] 3)).alloc (.cells #[.string ⟨#[]⟩] 9) := ⟨_, rfl⟩
  have hA : W3.heap[W.heap.size]? = some (.cells #[.pointer (some ⟨R, 0, none⟩)] 58 (0, 0)) := by
    rw [hW3, Below.heap_alloc _ _ _ (by simp; omega), Below.heap_alloc _ _ _ (by simp)]; exact heap_alloc_new _ _
  have hB : W3.heap[W.heap.size + 1]? = some (.cells #[.int .i64 (m : Int)] 3 (0, 0)) := by
    rw [hW3, Below.heap_alloc _ _ _ (by simp)]
    have := heap_alloc_new (W.alloc (.cells #[.pointer (some ⟨R, 0, none⟩)] 58)) (.cells #[.int .i64 (m : Int)] 3)
    simpa using this
  have hC : W3.heap[W.heap.size + 1 + 1]? = some (.cells #[.string ⟨#[]⟩] 9 (0, 0)) := by
    have := heap_alloc_new ((W.alloc (.cells #[.pointer (some ⟨R, 0, none⟩)] 58)).alloc (.cells #[.int .i64 (m : Int)] 3)) (.cells #[.string ⟨#[]⟩] 9)
    rw [hW3]
    simpa using this
  have hO : Only R W W3 := by rw [hW3]; exact (((Only.refl R W).alloc _).alloc _).alloc _
  have hR3 : Lies W3 R r := by
    rw [hW3]; unfold Lies
    rw [Below.heap_alloc _ _ _ (by simp; omega), Below.heap_alloc _ _ _ (by simp; omega), Below.heap_alloc _ _ _ hlt]; exact hR
  have HN := Lib.hid (readt_any (w0 := W) R W.heap.size r m hm hs W3 hR3 hlt (Nat.le_refl _) hO hA hB hC)
  have ca : W3.cell? ⟨W.heap.size, 0, none⟩ = some (.pointer (some ⟨R, 0, none⟩)) := cell_at hA 0
  have CA := Lib.hid ca
  clear hA hB hC hO hR3 ca hR
  unfold cloT at HN
  go_enter Try.func53, Try.ntmps53
  go_upto_region 1 with fail
  rw [← hW3]
  have ca := CA.out
  clear hW3 CA
  go_wp2_with fail
  refine HN.out.mono ?_
  rintro e w1 ⟨rfl, hR1, hC1, hO1⟩
  have c1 : w1.cell? ⟨W.heap.size + 1 + 1, 0, none⟩ = some (.string (r.text m).1) := cell_at hC1 0
  have f1 := free_at hC1 0
  have HR1 := Lib.hid hR1
  have HC1 := Lib.hid hC1
  have HO1 := Lib.hid hO1
  clear hR1 hC1 hO1 ca HN
  go_wp2_with fail
  have c2 : (w1.setCell ⟨W.heap.size + 1 + 1, 0, none⟩ (.string (r.text m).1)).cell? ⟨W.heap.size + 1 + 1, 0, none⟩ = some (.string (r.text m).1) := cell_at (set_at HC1.out 0 _) 0
  refine bodyPost_ret (v := .string (r.text m).1) (by simp [results, Try.results53, go_sem, c2]) rfl ?_
  exact ⟨rfl, set_off HR1.out (by omega) _, HO1.out.setNew (by omega) _ _⟩
end Go.Proofs.Ytfalmebgjghjeaa.Rd
/- What was put is read as it was; how a reader ends. -/
namespace Go.Proofs.Ytfalmebgjghjeaa.Rd
open Go Go.RowKit Num Texts

theorem val_dig (n : Nat) : val (bytesOf (dig n)) = n := by
  induction n using Nat.strongRecOn with
  | _ n ih =>
    by_cases h : n = 0
    · subst h; rw [dig_zero]; rfl
    · have e : bytesOf (dig n) = bytesOf (dig (n / 256)) ++ [UInt8.ofNat (n % 256)] := by
        rw [dig_pos h, ← dig_byte]; unfold bytesOf; rw [List.map_append]
      rw [e, val_snoc, ih _ (by omega), UInt8.toNat_ofNat']
      omega
theorem dig_head (n : Nat) (h : n ≠ 0) (x : List UInt8) : ((bytesOf (dig n) ++ x).getD 0 0).toNat ≠ 0 := by
  induction n using Nat.strongRecOn generalizing x with
  | _ n ih =>
    have e : bytesOf (dig n) = bytesOf (dig (n / 256)) ++ [UInt8.ofNat (n % 256)] := by
      rw [dig_pos h, ← dig_byte]; unfold bytesOf; rw [List.map_append]
    rw [e, List.append_assoc]
    by_cases hq : n / 256 = 0
    · rw [hq, dig_zero]
      show (UInt8.ofNat (n % 256)).toNat ≠ 0
      rw [UInt8.toNat_ofNat']
      omega
    · exact ih _ (by omega) hq _
theorem ext_list {a b : ByteArray} (h : a.data.toList = b.data.toList) : a = b := by
  apply ByteArray.ext
  exact Array.toList_inj.1 h
theorem num_back (m x : Nat) (s rest : ByteArray) (hx : x < 18446744073709551616) (hm : x ≤ m) (hs : s.data.toList = (numS x).data.toList ++ rest.data.toList) : numR m s = (x, 0, rest) := by
  have hl := dig_len (m := x) (k := 8) (Nat.lt_of_lt_of_le hx (by decide))
  rw [numS_list, List.cons_append] at hs
  have hsz : s.size = (dig x).length + 1 + rest.size := by
    have := congrArg List.length hs
    simp only [Array.length_toList, List.length_cons, List.length_append, bytesOf, List.length_map] at this
    show s.data.size = _
    rw [this]
    show _ = _ + rest.data.size
    omega
  have h0 : (s.data.toList.getD 0 0).toNat = (dig x).length := by
    rw [hs, List.getD_cons_zero, UInt8.toNat_ofNat']; omega
  have hval : val ((s.data.toList.drop 1).take (dig x).length) = x := by
    rw [hs, List.drop_succ_cons, List.drop_zero, List.take_append_of_le_length (by simp [bytesOf]), List.take_of_length_le (by simp [bytesOf]), val_dig]
  have hex : s.extract (1 + (dig x).length) s.size = rest := by
    apply ext_list
    rw [Lib.extract_data, hs, Nat.add_comm 1, List.drop_succ_cons, List.drop_append_of_le_length (by simp [bytesOf]), List.drop_of_length_le (by simp [bytesOf]), List.nil_append, List.take_of_length_le]
    rw [Array.length_toList]
    show rest.size ≤ _
    omega
  unfold numR
  rw [if_neg (by omega)]
  dsimp only
  rw [h0, if_neg ?_, if_neg (by omega), hval, if_neg (by omega), hex]
  rintro (h | ⟨h1, h2, h3⟩)
  · omega
  · have hx0 : x ≠ 0 := by rintro rfl; rw [dig_zero] at h1; exact Nat.lt_irrefl _ h1
    rw [hs, List.getD_cons_succ] at h3
    exact dig_head x hx0 _ h3
theorem text_back (m : Nat) (s d rest : ByteArray) (hm : d.size ≤ m) (hd : d.size < 18446744073709551616) (hs : s.data.toList = (numS d.size).data.toList ++ (d.data.toList ++ rest.data.toList)) : textR m s = (d, 0, rest) := by
  have hn := num_back 18446744073709551615 d.size s (d ++ rest) hd (by omega) (by rw [hs, ByteArray.data_append, Array.toList_append])
  unfold textR
  rw [hn]
  dsimp only
  have hz : (d ++ rest).size = d.size + rest.size := ByteArray.size_append
  rw [if_neg (by simp), if_neg (by omega), if_neg (by omega)]
  have e1 : (d ++ rest).extract 0 d.size = d := by
    apply ext_list
    rw [Lib.extract_data, ByteArray.data_append, Array.toList_append, List.drop_zero, Nat.sub_zero, List.take_append_of_le_length (by rw [Array.length_toList]; exact Nat.le_refl _), List.take_of_length_le (by rw [Array.length_toList]; exact Nat.le_refl _)]
  have e2 : (d ++ rest).extract d.size (d ++ rest).size = rest := by
    apply ext_list
    rw [Lib.extract_data, ByteArray.data_append, Array.toList_append, List.drop_append_of_le_length (by rw [Array.length_toList]; exact Nat.le_refl _), List.drop_of_length_le (by rw [Array.length_toList]; exact Nat.le_refl _), List.nil_append, List.take_of_length_le (by rw [Array.length_toList, hz]; show rest.size ≤ _; omega)]
  rw [e1, e2]
theorem R2.num_ok {s rest : ByteArray} {m x : Nat} (h : numR m s = (x, 0, rest)) : (⟨s, 0⟩ : R2).num m = (x, ⟨rest, 0⟩) := by
  unfold R2.num; rw [if_pos rfl, h]; rfl
theorem R2.text_ok {s rest d : ByteArray} {m : Nat} (h : textR m s = (d, 0, rest)) : (⟨s, 0⟩ : R2).text m = (d, ⟨rest, 0⟩) := by
  unfold R2.text; rw [if_pos rfl, h]; rfl
theorem R2.num_val (r : R2) (m : Nat) : (r.num m).1 ≤ m := by unfold R2.num; split; exact numR_val _ _; exact Nat.zero_le _
theorem R2.after_rest (e : Int) (s : ByteArray) : (R2.after e s).s.size ≤ s.size := by unfold R2.after; split; exact Nat.le_refl _; exact Nat.zero_le _
theorem R2.num_rest (r : R2) (m : Nat) : (r.num m).2.s.size ≤ r.s.size := by unfold R2.num; split; exact Nat.le_trans (R2.after_rest _ _) (numR_rest _ _); exact Nat.le_refl _
theorem R2.text_rest (r : R2) (m : Nat) : (r.text m).2.s.size ≤ r.s.size := by unfold R2.text; split; exact Nat.le_trans (R2.after_rest _ _) (textR_rest _ _); exact Nat.le_refl _

theorem new_any (s : ByteArray) (W : World) : Calls Try.prog 28 #[.string s] W fun e w' => e = .returned (.pointer (some ⟨W.heap.size, 0, none⟩)) ∧ w' = W.alloc (.cells #[.string s, .int .i64 0] 67) := by
  go_enter Try.func28, Try.ntmps28
  go_wp2
  go_ret
  exact ⟨rfl, rfl⟩
theorem end_any (R : Nat) (r : R2) (W : World) (hR : Lies W R r) : Calls Try.prog 30 #[.pointer (some ⟨R, 0, none⟩)] W fun e w' => e = .returned (.int .i64 r.end') ∧ w' = W := by
  obtain ⟨s, b⟩ := r
  have c0 : W.cell? ⟨R, 0, none⟩ = some (.string s) := cell_at hR 0
  have c1 : W.cell? ⟨R, 1, none⟩ = some (.int .i64 b) := cell_at hR 1
  clear hR
  by_cases hb : b = 0
  · subst hb
    by_cases hz : 0 < s.size
    · have he : (⟨s, 0⟩ : R2).end' = 4 := by unfold R2.end'; rw [if_pos ⟨rfl, hz⟩]
      have hzi : (0 : Int) < (s.size : Int) := by omega
      rw [he]; clear he hz
      go_enter Try.func30, Try.ntmps30
      go_wp2
      go_ret
      exact ⟨rfl, rfl⟩
    · have he : (⟨s, 0⟩ : R2).end' = 0 := by unfold R2.end'; rw [if_neg (fun h => hz h.2)]
      have hzi : ¬ (0 : Int) < (s.size : Int) := by omega
      rw [he]; clear he hz
      go_enter Try.func30, Try.ntmps30
      go_wp2
      go_ret
      exact ⟨rfl, rfl⟩
  · have he : (⟨s, b⟩ : R2).end' = b := by unfold R2.end'; rw [if_neg (fun h => hb h.1)]
    have hb2 : (b == 0) = false := by simpa using hb
    rw [he]; clear he
    go_enter Try.func30, Try.ntmps30
    go_wp2
    go_ret
    exact ⟨rfl, rfl⟩
theorem left_any (R : Nat) (r : R2) (W : World) (hR : Lies W R r) : Calls Try.prog 54 #[.pointer (some ⟨R, 0, none⟩)] W fun e w' => e = .returned (.int .i64 (r.s.size : Int)) ∧ w' = W := by
  have c0 : W.cell? ⟨R, 0, none⟩ = some (.string r.s) := cell_at hR 0
  clear hR
  go_enter Try.func54, Try.ntmps54
  go_wp2
  go_ret
  exact ⟨rfl, rfl⟩
def R2.failed (r : R2) : Bool := decide (r.end' ≠ 0) && decide (r.s.size = 0)
theorem R2.failed_ok (s : ByteArray) : (⟨s, 0⟩ : R2).failed = false := by
  unfold R2.failed R2.end'
  by_cases h : s.size = 0
  · simp [h]
  · simp [h]
theorem failed_any (R : Nat) (r : R2) (W : World) (hR : Lies W R r) : Calls Try.prog 45 #[.pointer (some ⟨R, 0, none⟩)] W fun e w' => e = .returned (.bool r.failed) ∧ w' = W := by
  have HE := Lib.hid (end_any R r W hR)
  have HL := Lib.hid (left_any R r W hR)
  clear hR
  have hf : r.failed = (decide (r.end' ≠ 0) && decide (r.s.size = 0)) := rfl
  generalize r.end' = e at *
  generalize r.s.size = n at *
  have HF := Lib.hid hf
  clear hf
  go_enter Try.func45, Try.ntmps45
  go_wp2_with fail
  refine HE.out.mono ?_
  rintro _ w1 ⟨rfl, hw⟩
  obtain rfl := hw.symm
  by_cases he : e = 0
  · subst he
    go_wp2
    go_ret
    exact ⟨by rw [HF.out]; rfl, rfl⟩
  · have he2 : (e == 0) = false := by simpa using he
    go_wp2_with fail
    refine HL.out.mono ?_
    rintro _ w1 ⟨rfl, hw⟩
    obtain rfl := hw.symm
    by_cases hn : n = 0
    · subst hn
      go_wp2
      go_ret
      exact ⟨by rw [HF.out]; simp [he], rfl⟩
    · have hn2 : ((n : Int) == 0) = false := by simp; omega
      go_wp2
      go_ret
      exact ⟨by rw [HF.out]; simp [hn], rfl⟩
end Go.Proofs.Ytfalmebgjghjeaa.Rd
/- Rows of the call's own beside a reader: what stays. -/
namespace Go.Proofs.Ytfalmebgjghjeaa.Rd
open Go Go.RowKit

theorem own_ge {w : World} {base e n size k : Nat} {v : Value} {xs : List Value} (h : w.ownsRow base e size v n xs) (hk : v.ownBlock = some k) : base ≤ k := by
  rcases h.2 with ⟨hv, _⟩ | ⟨g, cap, cur, hv, hg, _⟩
  · rw [hv] at hk; simp [Value.ownBlock] at hk
  · rw [hv] at hk; simp [Value.ownBlock] at hk; omega
theorem Only.grown {R : Nat} {w w' : World} (h : Only R w w') : w.grownBy w' (some R) := ⟨h.os, h.tape, h.output, h.size, fun k hk hne => h.block k hk (fun e => hne (by rw [e]))⟩
theorem own_only {R : Nat} {w w' : World} {base e n size : Nat} {v : Value} {xs : List Value} (h : w.ownsRow base e size v n xs) (hO : Only R w w') (hR : R < base) : w'.ownsRow base e size v n xs :=
  Msg.own_apart h (.inr (fun hv => by have := own_ge h hv; omega)) hO.grown
theorem Only.push {R : Nat} {a wr w1 : World} {base e n size : Nat} {v : Value} {xs : List Value} (h : Only R a wr) (hown : wr.ownsRow base e size v n xs) (hb : a.heap.size ≤ base) (hg : wr.grownBy w1 v.ownBlock) : Only R a w1 :=
  ⟨hg.os.trans h.os, hg.tape.trans h.tape, hg.output.trans h.output, Nat.le_trans h.size hg.size, fun k hk hne => (hg.block k (Nat.lt_of_lt_of_le hk h.size) (fun hv => by have := own_ge hown hv.symm; omega)).trans (h.block k hk hne)⟩
theorem grown_off {w w1 : World} {g base e T n size : Nat} {v : Value} {cs : Array Value} {xs : List Value} (hb : w.heap[g]? = some (.cells cs T (0, 0))) (hg : w.grownBy w1 v.ownBlock) (hown : w.ownsRow base e size v n xs) (hT : T ≠ e) : w1.heap[g]? = some (.cells cs T (0, 0)) := by
  refine (hg.block g (Array.getElem?_eq_some_iff.1 hb).1 (fun hv => ?_)).trans hb
  obtain ⟨cs', fr, ho⟩ := Msg.own_blk_type hown hv.symm hb
  injection ho with _ h2 _
  exact hT h2
end Go.Proofs.Ytfalmebgjghjeaa.Rd
/- packet.Take, packet.Get: packets that are read. -/
namespace Go.Proofs.Ytfalmebgjghjeaa.Rd
open Go Go.RowKit Num Texts Packet

def zeroP : P5 := ⟨0, 0, 0, 0, ⟨#[]⟩⟩
/-- the packet that is read, and the reader behind it -/
def R2.packet (r : R2) : P5 × R2 :=
  let a := r.num 3
  let b := a.2.num 1
  let c := b.2.num 18446744073709551615
  let d := c.2.num 18446744073709551615
  let e := d.2.text 64
  (if e.2.failed then zeroP else ⟨(a.1 : Int), (b.1 : Int), (c.1 : Int), (d.1 : Int), e.1⟩, e.2)
theorem R2.packet_rest (r : R2) : r.packet.2.s.size ≤ r.s.size :=
  Nat.le_trans (R2.text_rest _ _) (Nat.le_trans (R2.num_rest _ _) (Nat.le_trans (R2.num_rest _ _) (Nat.le_trans (R2.num_rest _ _) (R2.num_rest _ _))))

theorem Only.setRow {R n : Nat} {a b : World} (h : Only R a b) (hn : a.heap.size ≤ n) (cs : Array Value) : Only R a (b.setRow n cs) :=
  ⟨h.os, h.tape, h.output, by simpa using h.size, fun k hk hne => (setRow_other b n k cs (by omega)).trans (h.block k hk hne)⟩
theorem cells5_one (p : P5) : p.cells.all (·.oneCell') = true := by
  rw [Array.all_eq_true']
  intro x hx
  simp only [P5.cells, List.mem_toArray, List.mem_cons, List.not_mem_nil, or_false] at hx
  rcases hx with rfl | rfl | rfl | rfl | rfl <;> rfl

set_option maxRecDepth 20000 in
set_option maxHeartbeats 2000000 in
theorem take_any (R : Nat) (r : R2) (hs : r.s.size ≤ 1099511627776) (W : World) (hR : Lies W R r) :
    Calls Try.prog 52 #[.pointer (some ⟨R, 0, none⟩)] W
      fun e w' => e = .returned (.agg r.packet.1.cells) ∧ Lies w' R r.packet.2 ∧ Only R W w' := by
  have hlt := (Array.getElem?_eq_some_iff.1 hR).1
  obtain ⟨W0, hW0⟩ : ∃ X, X = (W.alloc (.cells #[.int .i64 0, .int .i64 0, .int .u64 0, .int .u64 0, .string ⟨#[]⟩] 41)).alloc (.cells #[.int .i64 0, .int .i64 0, .int .u64 0, .int .u64 0, .string ⟨#[]⟩] 41) := ⟨_, rfl⟩
  have hA : W0.heap[W.heap.size]? = some (.cells #[.int .i64 0, .int .i64 0, .int .u64 0, .int .u64 0, .string ⟨#[]⟩] 41 (0, 0)) := by
    rw [hW0, Below.heap_alloc _ _ _ (by simp)]; exact heap_alloc_new _ _
  have hB : W0.heap[W.heap.size + 1]? = some (.cells #[.int .i64 0, .int .i64 0, .int .u64 0, .int .u64 0, .string ⟨#[]⟩] 41 (0, 0)) := by
    have := heap_alloc_new (W.alloc (.cells #[.int .i64 0, .int .i64 0, .int .u64 0, .int .u64 0, .string ⟨#[]⟩] 41)) (.cells #[.int .i64 0, .int .i64 0, .int .u64 0, .int .u64 0, .string ⟨#[]⟩] 41)
    rw [hW0]; simpa using this
  have hO : Only R W W0 := by rw [hW0]; exact ((Only.refl R W).alloc _).alloc _
  have hR0 : Lies W0 R r := by
    rw [hW0]; unfold Lies
    rw [Below.heap_alloc _ _ _ (by simp; omega), Below.heap_alloc _ _ _ hlt]; exact hR
  have H0 := Lib.hid hA
  have HB0 := Lib.hid hB
  have HO0 := Lib.hid hO
  have HR0 := Lib.hid hR0
  clear hA hB hO hR0 hR
  have hpk : r.packet = (let a := r.num 3
    let b := a.2.num 1
    let c := b.2.num 18446744073709551615
    let d := c.2.num 18446744073709551615
    let e := d.2.text 64
    (if e.2.failed then zeroP else ⟨(a.1 : Int), (b.1 : Int), (c.1 : Int), (d.1 : Int), e.1⟩, e.2)) := rfl
  have HP := Lib.hid hpk
  clear hpk
  have HS0 := Lib.hid hs
  clear hs
  go_enter Try.func52, Try.ntmps52
  go_upto_region 3 with fail
  rw [← hW0]
  clear hW0
  go_wp2_with fail
  refine (rnum_any R r 3 (by decide) HS0.out _ HR0.out).mono ?_
  rintro _ w1 ⟨rfl, hR, hO⟩
  have hA := (hO.block _ (Array.getElem?_eq_some_iff.1 H0.out).1 (by omega)).trans H0.out
  have hB := (hO.block _ (Array.getElem?_eq_some_iff.1 HB0.out).1 (by omega)).trans HB0.out
  have hOO := HO0.out.trans hO
  have hs1 : (r.num 3).2.s.size ≤ 1099511627776 := Nat.le_trans (R2.num_rest _ _) HS0.out
  have hn0 : (r.num 3).1 ≤ 3 := R2.num_val _ _
  generalize r.num 3 = x at *
  obtain ⟨n0, r1⟩ := x
  dsimp only at *
  have hi0 : (n0 : Int) ≤ 3 := by omega
  have cB : w1.cell? ⟨W.heap.size + 1, 0, none⟩ = some (.int .i64 0) := cell_at hB 0
  have fB := free_at hB 0
  have hRn := set_off (i := 0) hR (show R ≠ W.heap.size + 1 by omega) (.int .i64 (n0 : Int))
  have hAn := set_off (i := 0) hA (show W.heap.size ≠ W.heap.size + 1 by omega) (.int .i64 (n0 : Int))
  have hBn := set_at hB 0 (.int .i64 (n0 : Int))
  have hOn := hOO.setNew (show W.heap.size ≤ W.heap.size + 1 by omega) 0 (.int .i64 (n0 : Int))
  obtain ⟨V1, hV⟩ : ∃ X, X = w1.setCell ⟨W.heap.size + 1, 0, none⟩ (.int .i64 (n0 : Int)) := ⟨_, rfl⟩
  rw [← hV] at hRn hAn hBn hOn
  have HS1 := Lib.hid hs1
  have HR1 := Lib.hid hRn
  have H1 := Lib.hid hAn
  have HB1 := Lib.hid (show V1.heap[W.heap.size + 1]? = some (.cells #[.int .i64 (n0 : Int), .int .i64 0, .int .u64 0, .int .u64 0, .string ⟨#[]⟩] 41 (0, 0)) from hBn)
  have HO1 := Lib.hid hOn
  have HV := Lib.hid hV
  clear hR hA hB hOO hO hs1 hRn hAn hBn hOn hV HR0 H0 HB0 HO0 HS0
  go_upto_region 4 with fail
  rw [← HV.out]
  clear HV cB fB
  go_wp2_with fail
  refine (rnum_any R r1 1 (by decide) HS1.out _ HR1.out).mono ?_
  rintro _ w2 ⟨rfl, hR, hO⟩
  have hA := (hO.block _ (Array.getElem?_eq_some_iff.1 H1.out).1 (by omega)).trans H1.out
  have hB := (hO.block _ (Array.getElem?_eq_some_iff.1 HB1.out).1 (by omega)).trans HB1.out
  have hOO := HO1.out.trans hO
  have hs2 : (r1.num 1).2.s.size ≤ 1099511627776 := Nat.le_trans (R2.num_rest _ _) HS1.out
  have hn1 : (r1.num 1).1 ≤ 1 := R2.num_val _ _
  generalize r1.num 1 = x at *
  obtain ⟨n1, r2⟩ := x
  dsimp only at *
  have hi1 : (n1 : Int) ≤ 1 := by omega
  have cB : w2.cell? ⟨W.heap.size + 1, 1, none⟩ = some (.int .i64 0) := cell_at hB 1
  have fB := free_at hB 1
  have hRn := set_off (i := 1) hR (show R ≠ W.heap.size + 1 by omega) (.int .i64 (n1 : Int))
  have hAn := set_off (i := 1) hA (show W.heap.size ≠ W.heap.size + 1 by omega) (.int .i64 (n1 : Int))
  have hBn := set_at hB 1 (.int .i64 (n1 : Int))
  have hOn := hOO.setNew (show W.heap.size ≤ W.heap.size + 1 by omega) 1 (.int .i64 (n1 : Int))
  obtain ⟨V2, hV⟩ : ∃ X, X = w2.setCell ⟨W.heap.size + 1, 1, none⟩ (.int .i64 (n1 : Int)) := ⟨_, rfl⟩
  rw [← hV] at hRn hAn hBn hOn
  have HS2 := Lib.hid hs2
  have HR2 := Lib.hid hRn
  have H2 := Lib.hid hAn
  have HB2 := Lib.hid (show V2.heap[W.heap.size + 1]? = some (.cells #[.int .i64 (n0 : Int), .int .i64 (n1 : Int), .int .u64 0, .int .u64 0, .string ⟨#[]⟩] 41 (0, 0)) from hBn)
  have HO2 := Lib.hid hOn
  have HV := Lib.hid hV
  clear hR hA hB hOO hO hs2 hRn hAn hBn hOn hV HR1 H1 HB1 HO1 HS1
  go_upto_region 5 with fail
  rw [← HV.out]
  clear HV cB fB
  go_wp2_with fail
  refine (rnum_any R r2 18446744073709551615 (by decide) HS2.out _ HR2.out).mono ?_
  rintro _ w3 ⟨rfl, hR, hO⟩
  have hA := (hO.block _ (Array.getElem?_eq_some_iff.1 H2.out).1 (by omega)).trans H2.out
  have hB := (hO.block _ (Array.getElem?_eq_some_iff.1 HB2.out).1 (by omega)).trans HB2.out
  have hOO := HO2.out.trans hO
  have hs3 : (r2.num 18446744073709551615).2.s.size ≤ 1099511627776 := Nat.le_trans (R2.num_rest _ _) HS2.out
  have hn2 : (r2.num 18446744073709551615).1 ≤ 18446744073709551615 := R2.num_val _ _
  generalize r2.num 18446744073709551615 = x at *
  obtain ⟨n2, r3⟩ := x
  dsimp only at *
  have cB : w3.cell? ⟨W.heap.size + 1, 2, none⟩ = some (.int .u64 0) := cell_at hB 2
  have fB := free_at hB 2
  have hRn := set_off (i := 2) hR (show R ≠ W.heap.size + 1 by omega) (.int .u64 (n2 : Int))
  have hAn := set_off (i := 2) hA (show W.heap.size ≠ W.heap.size + 1 by omega) (.int .u64 (n2 : Int))
  have hBn := set_at hB 2 (.int .u64 (n2 : Int))
  have hOn := hOO.setNew (show W.heap.size ≤ W.heap.size + 1 by omega) 2 (.int .u64 (n2 : Int))
  obtain ⟨V3, hV⟩ : ∃ X, X = w3.setCell ⟨W.heap.size + 1, 2, none⟩ (.int .u64 (n2 : Int)) := ⟨_, rfl⟩
  rw [← hV] at hRn hAn hBn hOn
  have HS3 := Lib.hid hs3
  have HR3 := Lib.hid hRn
  have H3 := Lib.hid hAn
  have HB3 := Lib.hid (show V3.heap[W.heap.size + 1]? = some (.cells #[.int .i64 (n0 : Int), .int .i64 (n1 : Int), .int .u64 (n2 : Int), .int .u64 0, .string ⟨#[]⟩] 41 (0, 0)) from hBn)
  have HO3 := Lib.hid hOn
  have HV := Lib.hid hV
  clear hR hA hB hOO hO hs3 hRn hAn hBn hOn hV HR2 H2 HB2 HO2 HS2
  go_upto_region 6 with fail
  rw [← HV.out]
  clear HV cB fB
  go_wp2_with fail
  refine (rnum_any R r3 18446744073709551615 (by decide) HS3.out _ HR3.out).mono ?_
  rintro _ w4 ⟨rfl, hR, hO⟩
  have hA := (hO.block _ (Array.getElem?_eq_some_iff.1 H3.out).1 (by omega)).trans H3.out
  have hB := (hO.block _ (Array.getElem?_eq_some_iff.1 HB3.out).1 (by omega)).trans HB3.out
  have hOO := HO3.out.trans hO
  have hs4 : (r3.num 18446744073709551615).2.s.size ≤ 1099511627776 := Nat.le_trans (R2.num_rest _ _) HS3.out
  have hn3 : (r3.num 18446744073709551615).1 ≤ 18446744073709551615 := R2.num_val _ _
  generalize r3.num 18446744073709551615 = x at *
  obtain ⟨n3, r4⟩ := x
  dsimp only at *
  have cB : w4.cell? ⟨W.heap.size + 1, 3, none⟩ = some (.int .u64 0) := cell_at hB 3
  have fB := free_at hB 3
  have hRn := set_off (i := 3) hR (show R ≠ W.heap.size + 1 by omega) (.int .u64 (n3 : Int))
  have hAn := set_off (i := 3) hA (show W.heap.size ≠ W.heap.size + 1 by omega) (.int .u64 (n3 : Int))
  have hBn := set_at hB 3 (.int .u64 (n3 : Int))
  have hOn := hOO.setNew (show W.heap.size ≤ W.heap.size + 1 by omega) 3 (.int .u64 (n3 : Int))
  obtain ⟨V4, hV⟩ : ∃ X, X = w4.setCell ⟨W.heap.size + 1, 3, none⟩ (.int .u64 (n3 : Int)) := ⟨_, rfl⟩
  rw [← hV] at hRn hAn hBn hOn
  have HS4 := Lib.hid hs4
  have HR4 := Lib.hid hRn
  have H4 := Lib.hid hAn
  have HB4 := Lib.hid (show V4.heap[W.heap.size + 1]? = some (.cells #[.int .i64 (n0 : Int), .int .i64 (n1 : Int), .int .u64 (n2 : Int), .int .u64 (n3 : Int), .string ⟨#[]⟩] 41 (0, 0)) from hBn)
  have HO4 := Lib.hid hOn
  have HV := Lib.hid hV
  clear hR hA hB hOO hO hs4 hRn hAn hBn hOn hV HR3 H3 HB3 HO3 HS3
  go_upto_region 7 with fail
  rw [← HV.out]
  clear HV cB fB
  go_wp2_with fail
  refine (rtext_any R r4 64 (by decide) HS4.out _ HR4.out).mono ?_
  rintro _ w5 ⟨rfl, hR, hO⟩
  have hA := (hO.block _ (Array.getElem?_eq_some_iff.1 H4.out).1 (by omega)).trans H4.out
  have hB := (hO.block _ (Array.getElem?_eq_some_iff.1 HB4.out).1 (by omega)).trans HB4.out
  have hOO := HO4.out.trans hO
  have hs5 : (r4.text 64).2.s.size ≤ 1099511627776 := Nat.le_trans (R2.text_rest _ _) HS4.out
  generalize r4.text 64 = x at *
  obtain ⟨d4, r5⟩ := x
  dsimp only at *
  have cB : w5.cell? ⟨W.heap.size + 1, 4, none⟩ = some (.string ⟨#[]⟩) := cell_at hB 4
  have fB := free_at hB 4
  have hRn := set_off (i := 4) hR (show R ≠ W.heap.size + 1 by omega) (.string d4)
  have hAn := set_off (i := 4) hA (show W.heap.size ≠ W.heap.size + 1 by omega) (.string d4)
  have hBn := set_at hB 4 (.string d4)
  have hOn := hOO.setNew (show W.heap.size ≤ W.heap.size + 1 by omega) 4 (.string d4)
  obtain ⟨V5, hV⟩ : ∃ X, X = w5.setCell ⟨W.heap.size + 1, 4, none⟩ (.string d4) := ⟨_, rfl⟩
  rw [← hV] at hRn hAn hBn hOn
  have HS5 := Lib.hid hs5
  have HR5 := Lib.hid hRn
  have H5 := Lib.hid hAn
  have HB5 := Lib.hid (show V5.heap[W.heap.size + 1]? = some (.cells #[.int .i64 (n0 : Int), .int .i64 (n1 : Int), .int .u64 (n2 : Int), .int .u64 (n3 : Int), .string d4] 41 (0, 0)) from hBn)
  have HO5 := Lib.hid hOn
  have HV := Lib.hid hV
  clear hR hA hB hOO hO hs5 hRn hAn hBn hOn hV HR4 H4 HB4 HO4 HS4
  go_upto_region 8 with fail
  rw [← HV.out]
  clear HV cB fB
  go_wp2_with fail
  refine (failed_any R r5 _ HR5.out).mono ?_
  rintro _ w6 ⟨rfl, hw⟩
  obtain rfl := hw.symm
  clear hw
  have hi5 : ∀ C : Array Value, C.size = 5 → (Try.prog.info? 41).map (·.size) = some C.size := fun C h => by rw [h]; kernel_rfl
  cases hf : r5.failed with
  | true =>
    have HP2 : Hid (r.packet = (zeroP, r5)) := Lib.hid (by rw [HP.out, hf, if_pos rfl])
    clear hf HB5 HP
    go_upto_region 9 with fail
    refine wp_region_lit ?_
    refine wpList_step (fun K hK => ?_)
    go_simp
    refine hK _ _ ?_
    clear hK K
    refine wpList_store_rowTo rfl 41 _ _ rfl rfl W.heap.size zeroP.cells rfl rfl 41 _ H5.out (hi5 _ rfl) rfl (cells5_one _) ?_
    refine wpList_nil ?_
    have HR' := setRow_heap V5 W.heap.size _ zeroP.cells 41 (0, 0) H5.out
    have HRr := (setRow_other V5 W.heap.size R zeroP.cells (by omega)).trans HR5.out
    have HOr := HO5.out.setRow (Nat.le_refl _) zeroP.cells
    obtain ⟨W9, hW9⟩ : ∃ W9, W9 = V5.setRow W.heap.size zeroP.cells := ⟨_, rfl⟩
    rw [← hW9] at HR' HRr HOr ⊢
    clear hW9 H5 HR5 HO5
    go_wp2_with fail
    exact bodyPost_ret (results_cell_row Try.results52 _ _ W.heap.size 41 zeroP.cells (0, 0) _ rfl HR' Try.underlying41 rfl (hi5 _ rfl)) rfl ⟨by rw [HP2.out], by rw [HP2.out]; exact HRr, HOr⟩
  | false =>
    have HP2 : Hid (r.packet = (⟨(n0 : Int), (n1 : Int), (n2 : Int), (n3 : Int), d4⟩, r5)) := Lib.hid (by rw [HP.out, hf, if_neg (by simp)])
    clear hf HP
    obtain ⟨C, hC⟩ : ∃ C : Array Value, C = #[.int .i64 (n0 : Int), .int .i64 (n1 : Int), .int .u64 (n2 : Int), .int .u64 (n3 : Int), .string d4] := ⟨_, rfl⟩
    have HBC := HB5.out
    rw [← hC] at HBC
    have hz : C.size = 5 := by rw [hC]; rfl
    have ho : C.all (·.oneCell') = true := by rw [hC]; exact cells5_one ⟨n0, n1, n2, n3, d4⟩
    have HC := Lib.hid hC
    clear hC HB5
    go_upto_region 10 with fail
    refine wp_region_lit ?_
    refine wpList_load_row rfl 41 _ rfl (W.heap.size + 1) rfl 41 C (0, 0) _ HBC Try.underlying41 rfl (hi5 _ hz) ?_
    refine wpList_store_rowTo rfl 41 _ _ rfl rfl W.heap.size C rfl rfl 41 _ H5.out (hi5 _ hz) (by rw [hz]; rfl) ho ?_
    refine wpList_nil ?_
    have HR' := setRow_heap V5 W.heap.size _ C 41 (0, 0) H5.out
    have HRr := (setRow_other V5 W.heap.size R C (by omega)).trans HR5.out
    have HOr := HO5.out.setRow (Nat.le_refl _) C
    obtain ⟨W9, hW9⟩ : ∃ W9, W9 = V5.setRow W.heap.size C := ⟨_, rfl⟩
    rw [← hW9] at HR' HRr HOr ⊢
    clear hW9 H5 HR5 HO5
    go_wp2_with fail
    exact bodyPost_ret (results_cell_row Try.results52 _ _ W.heap.size 41 C (0, 0) _ rfl HR' Try.underlying41 rfl (hi5 _ hz)) rfl ⟨by rw [HP2.out, HC.out]; rfl, by rw [HP2.out]; exact HRr, HOr⟩

theorem packet_back (p : P5) (hp : p.right) (ho : p.ok) (s rest : ByteArray) (hs : s.data.toList = p.bytes.data.toList ++ rest.data.toList) : (R2.mk s 0).packet = (p, ⟨rest, 0⟩) := by
  obtain ⟨c0, c1, f, d⟩ := hp
  obtain ⟨s0, s1, t0, t1, _⟩ := ho
  have hk : ∀ x : Int, (kS x) = numS (x.toNat % 18446744073709551616) := fun _ => rfl
  have e := bytes_list p
  rw [hk, hk, hk, hk] at e
  have l1 := num_back 3 (p.c.toNat % 18446744073709551616) s (kS p.f ++ (kS p.s ++ (kS p.t ++ (textB p.d ++ rest)))) (by omega) (by omega) (by rw [hs, e]; simp [hk, textB, textL])
  have l2 := num_back 1 (p.f.toNat % 18446744073709551616) (kS p.f ++ (kS p.s ++ (kS p.t ++ (textB p.d ++ rest)))) (kS p.s ++ (kS p.t ++ (textB p.d ++ rest))) (by omega) (by omega) (by simp [hk])
  have l3 := num_back 18446744073709551615 (p.s.toNat % 18446744073709551616) (kS p.s ++ (kS p.t ++ (textB p.d ++ rest))) (kS p.t ++ (textB p.d ++ rest)) (by omega) (by omega) (by simp [hk])
  have l4 := num_back 18446744073709551615 (p.t.toNat % 18446744073709551616) (kS p.t ++ (textB p.d ++ rest)) (textB p.d ++ rest) (by omega) (by omega) (by simp [hk])
  have l5 := text_back 64 (textB p.d ++ rest) p.d rest d (by omega) (by simp [textB, textL])
  unfold R2.packet
  simp only [R2.num_ok l1, R2.num_ok l2, R2.num_ok l3, R2.num_ok l4, R2.text_ok l5, R2.failed_ok]
  rw [if_neg (by simp)]
  clear l1 l2 l3 l4 l5 e hk
  obtain ⟨c, f', s, t, dd⟩ := p
  dsimp only at *
  congr 2 <;> omega

end Go.Proofs.Ytfalmebgjghjeaa.Rd
/- msg.Take: a message that is read. -/
namespace Go.Proofs.Ytfalmebgjghjeaa.Rd
open Go Go.RowKit Num Texts Packet
open Msg (M7)

def zeroM : M7 := ⟨0, 0, 0, 0, 0, ⟨#[]⟩, ⟨#[]⟩⟩
/-- the message that is read, and the reader behind it -/
def R2.msg (r : R2) : M7 × R2 :=
  let a := r.num 4
  let p := a.2.packet
  let q := if a.1 = 3 then p.2.text 64 else (⟨#[]⟩, p.2)
  (if q.2.failed then zeroM else ⟨(a.1 : Int), p.1.c, p.1.f, p.1.s, p.1.t, p.1.d, q.1⟩, q.2)
theorem R2.msg_rest (r : R2) : r.msg.2.s.size ≤ r.s.size := by
  have h := Nat.le_trans (R2.packet_rest (r.num 4).2) (R2.num_rest r 4)
  unfold R2.msg
  dsimp only
  split
  · exact Nat.le_trans (R2.text_rest _ _) h
  · exact h
theorem cells7_one (m : M7) : m.cells.all (·.oneCell') = true := by
  rw [Array.all_eq_true']
  intro x hx
  simp only [M7.cells, List.mem_toArray, List.mem_cons, List.not_mem_nil, or_false] at hx
  rcases hx with rfl | rfl | rfl | rfl | rfl | rfl | rfl <;> rfl
theorem i7 (C : Array Value) (h : C.size = 7) : (Try.prog.info? 43).map (·.size) = some C.size := by rw [h]; kernel_rfl

set_option maxRecDepth 20000 in
set_option maxHeartbeats 2000000 in
/-- how Take ends -/
theorem mtake_any (R : Nat) (r : R2) (hs : r.s.size ≤ 1099511627776) (W : World) (hR : Lies W R r) :
    Calls Try.prog 44 #[.pointer (some ⟨R, 0, none⟩)] W
      fun e w' => e = .returned (.agg r.msg.1.cells) ∧ Lies w' R r.msg.2 ∧ Only R W w' := by
  have hlt := (Array.getElem?_eq_some_iff.1 hR).1
  obtain ⟨W0, hW0⟩ : ∃ X, X = W.alloc (.cells #[.int .i64 0, .int .i64 0, .int .i64 0, .int .u64 0, .int .u64 0, .string ⟨#[]⟩, .string ⟨#[]⟩] 43) := ⟨_, rfl⟩
  have HA0 := Lib.hid (show W0.heap[W.heap.size]? = some (.cells #[.int .i64 0, .int .i64 0, .int .i64 0, .int .u64 0, .int .u64 0, .string ⟨#[]⟩, .string ⟨#[]⟩] 43 (0, 0)) by rw [hW0]; exact heap_alloc_new _ _)
  have HO0 := Lib.hid (show Only R W W0 by rw [hW0]; exact (Only.refl R W).alloc _)
  have HR0 := Lib.hid (show Lies W0 R r by rw [hW0]; unfold Lies; rw [Below.heap_alloc _ _ _ hlt]; exact hR)
  have hpk : r.msg = (let a := r.num 4
    let p := a.2.packet
    let q := if a.1 = 3 then p.2.text 64 else (⟨#[]⟩, p.2)
    (if q.2.failed then zeroM else ⟨(a.1 : Int), p.1.c, p.1.f, p.1.s, p.1.t, p.1.d, q.1⟩, q.2)) := rfl
  have HP := Lib.hid hpk
  clear hpk hR
  have HS0 := Lib.hid hs
  clear hs
  go_enter Try.func44, Try.ntmps44
  go_upto_region 1 with fail
  rw [← hW0]
  clear hW0
  go_wp2_with fail
  refine (rnum_any R r 4 (by decide) HS0.out _ HR0.out).mono ?_
  rintro _ w1 ⟨rfl, hR1, hO1⟩
  have hA1 := (hO1.block _ (Array.getElem?_eq_some_iff.1 HA0.out).1 (by omega)).trans HA0.out
  have hO1' := HO0.out.trans hO1
  have hs1 : (r.num 4).2.s.size ≤ 1099511627776 := Nat.le_trans (R2.num_rest _ _) HS0.out
  have hn0 : (r.num 4).1 ≤ 4 := R2.num_val _ _
  generalize r.num 4 = x at *
  obtain ⟨n0, r1⟩ := x
  dsimp only at *
  have hi0 : (n0 : Int) ≤ 4 := by omega
  go_upto_region 2 with fail
  obtain ⟨V1, hV⟩ : ∃ X, X = w1.alloc (.cells #[.int .i64 (n0 : Int), .int .i64 0, .int .i64 0, .int .u64 0, .int .u64 0, .string ⟨#[]⟩, .string ⟨#[]⟩] 43) := ⟨_, rfl⟩
  have hW1 : W.heap.size < w1.heap.size := (Array.getElem?_eq_some_iff.1 hA1).1
  have HA1 := Lib.hid (show V1.heap[W.heap.size]? = some (.cells #[.int .i64 0, .int .i64 0, .int .i64 0, .int .u64 0, .int .u64 0, .string ⟨#[]⟩, .string ⟨#[]⟩] 43 (0, 0)) by rw [hV, Below.heap_alloc _ _ _ hW1]; exact hA1)
  have HB1 := Lib.hid (show V1.heap[w1.heap.size]? = some (.cells #[.int .i64 (n0 : Int), .int .i64 0, .int .i64 0, .int .u64 0, .int .u64 0, .string ⟨#[]⟩, .string ⟨#[]⟩] 43 (0, 0)) by rw [hV]; exact heap_alloc_new _ _)
  have HR1 := Lib.hid (show Lies V1 R r1 by rw [hV]; unfold Lies; rw [Below.heap_alloc _ _ _ (by omega)]; exact hR1)
  have HO1 := Lib.hid (show Only R W V1 by rw [hV]; exact hO1'.alloc _)
  rw [← hV]
  clear hV hR1 hA1 hO1 hO1' HA0 HO0 HR0 HS0
  obtain ⟨G, hG⟩ : ∃ G, G = w1.heap.size := ⟨_, rfl⟩
  rw [← hG] at HB1 hW1 ⊢
  clear hG
  go_wp2_with fail
  refine (take_any R r1 hs1 _ HR1.out).mono ?_
  rintro _ w2 ⟨rfl, hR2, hO2⟩
  have hA2 := (hO2.block _ (Array.getElem?_eq_some_iff.1 HA1.out).1 (by omega)).trans HA1.out
  have hB2 := (hO2.block _ (Array.getElem?_eq_some_iff.1 HB1.out).1 (by omega)).trans HB1.out
  have hO2' := HO1.out.trans hO2
  have hs2 : r1.packet.2.s.size ≤ 1099511627776 := Nat.le_trans (R2.packet_rest _) hs1
  generalize r1.packet = x at *
  obtain ⟨⟨c, f, s, t, d⟩, r2⟩ := x
  unfold P5.cells
  dsimp only at *
  obtain ⟨b0, b1, b2, b3, b4, b5, b6⟩ : _ ∧ _ ∧ _ ∧ _ ∧ _ ∧ _ ∧ _ := ⟨cell_at hB2 0, cell_at hB2 1, cell_at hB2 2, cell_at hB2 3, cell_at hB2 4, cell_at hB2 5, cell_at hB2 6⟩
  have fb := fun i => free_at hB2 i
  have f1 := fb 1
  have f2 := fb 2
  have f3 := fb 3
  have f4 := fb 4
  have f5 := fb 5
  clear fb
  go_upto_region 3 with fail
  obtain ⟨V3, hV⟩ : ∃ X, X = ((((w2.setCell ⟨G, 1, none⟩ (.int .i64 c)).setCell ⟨G, 2, none⟩ (.int .i64 f)).setCell ⟨G, 3, none⟩ (.int .u64 s)).setCell ⟨G, 4, none⟩ (.int .u64 t)).setCell ⟨G, 5, none⟩ (.string d) := ⟨_, rfl⟩
  have hB3 : V3.heap[G]? = some (.cells #[.int .i64 (n0 : Int), .int .i64 c, .int .i64 f, .int .u64 s, .int .u64 t, .string d, .string ⟨#[]⟩] 43 (0, 0)) := by rw [hV]; exact set_at (set_at (set_at (set_at (set_at hB2 1 _) 2 _) 3 _) 4 _) 5 _
  have hA3 : V3.heap[W.heap.size]? = some (.cells #[.int .i64 0, .int .i64 0, .int .i64 0, .int .u64 0, .int .u64 0, .string ⟨#[]⟩, .string ⟨#[]⟩] 43 (0, 0)) := by rw [hV]; exact set_off (set_off (set_off (set_off (set_off hA2 (by omega) _) (by omega) _) (by omega) _) (by omega) _) (by omega) _
  have hR3 : Lies V3 R r2 := by rw [hV]; exact set_off (set_off (set_off (set_off (set_off hR2 (by omega) _) (by omega) _) (by omega) _) (by omega) _) (by omega) _
  have hO3 : Only R W V3 := by rw [hV]; exact ((((hO2'.setNew (by omega) _ _).setNew (by omega) _ _).setNew (by omega) _ _).setNew (by omega) _ _).setNew (by omega) _ _
  rw [← hV]
  clear hV hO2 hA2 hB2 hO2' hR2 b0 b1 b2 b3 b4 b5 b6 f1 f2 f3 f4 f5 HA1 HB1 HR1 HO1 hs1
  have b0 : V3.cell? ⟨G, 0, none⟩ = some (.int .i64 (n0 : Int)) := cell_at hB3 0
  by_cases h3 : n0 = 3
  · subst h3
    have HB3 := Lib.hid hB3
    have HA3 := Lib.hid hA3
    have HR3 := Lib.hid hR3
    have HO3 := Lib.hid hO3
    clear hB3 hA3 hR3 hO3
    go_wp2_with fail
    refine (rtext_any R r2 64 (by decide) hs2 _ HR3.out).mono ?_
    rintro _ w4 ⟨rfl, hR4, hO4⟩
    have hA4 := (hO4.block _ (Array.getElem?_eq_some_iff.1 HA3.out).1 (by omega)).trans HA3.out
    have hB4 := (hO4.block _ (Array.getElem?_eq_some_iff.1 HB3.out).1 (by omega)).trans HB3.out
    have hO4' := HO3.out.trans hO4
    have HP2 : Hid (r.msg = (if (r2.text 64).2.failed then zeroM else ⟨3, c, f, s, t, d, (r2.text 64).1⟩, (r2.text 64).2)) := Lib.hid (by rw [HP.out]; rfl)
    generalize r2.text 64 = x at *
    obtain ⟨a, r3⟩ := x
    dsimp only at *
    have c6 : w4.cell? ⟨G, 6, none⟩ = some (.string ⟨#[]⟩) := cell_at hB4 6
    have f6 := free_at hB4 6
    clear b0
    go_upto_region 5 with fail
    obtain ⟨V5, hV⟩ : ∃ X, X = w4.setCell ⟨G, 6, none⟩ (.string a) := ⟨_, rfl⟩
    have hB5 : V5.heap[G]? = some (.cells #[.int .i64 3, .int .i64 c, .int .i64 f, .int .u64 s, .int .u64 t, .string d, .string a] 43 (0, 0)) := by rw [hV]; exact set_at hB4 6 _
    have hA5 : V5.heap[W.heap.size]? = some (.cells #[.int .i64 0, .int .i64 0, .int .i64 0, .int .u64 0, .int .u64 0, .string ⟨#[]⟩, .string ⟨#[]⟩] 43 (0, 0)) := by rw [hV]; exact set_off hA4 (by omega) _
    have hR5 : Lies V5 R r3 := by rw [hV]; exact set_off hR4 (by omega) _
    have hO5 : Only R W V5 := by rw [hV]; exact hO4'.setNew (by omega) _ _
    rw [← hV]
    clear hV hB4 hA4 hR4 hO4 hO4' c6 f6 HB3 HA3 HR3 HO3
    obtain ⟨C, hC⟩ : ∃ C : Array Value, C = #[.int .i64 3, .int .i64 c, .int .i64 f, .int .u64 s, .int .u64 t, .string d, .string a] := ⟨_, rfl⟩
    have hCm : C = (⟨3, c, f, s, t, d, a⟩ : M7).cells := hC
    rw [← hC] at hB5
    have hz : C.size = 7 := by rw [hC]; rfl
    have ho : C.all (·.oneCell') = true := by rw [hCm]; exact cells7_one _
    have HC := Lib.hid hCm
    have HB5 := Lib.hid hB5
    have HA5 := Lib.hid hA5
    have HR5 := Lib.hid hR5
    have HO5 := Lib.hid hO5
    clear hC hCm hB5 hA5 hR5 hO5
    go_wp2_with fail
    refine (failed_any R r3 _ HR5.out).mono ?_
    rintro _ w6 ⟨rfl, hw⟩
    obtain rfl := hw.symm
    clear hw
    cases hf : r3.failed with
    | true =>
      have HP3 : Hid (r.msg = (zeroM, r3)) := Lib.hid (by rw [HP2.out, hf, if_pos rfl])
      clear hf HB5 HP2
      go_upto_region 6 with fail
      refine wp_region_lit ?_
      refine wpList_step (fun K hK => ?_)
      go_simp
      refine hK _ _ ?_
      clear hK K
      refine wpList_store_rowTo rfl 43 _ _ rfl rfl W.heap.size zeroM.cells rfl rfl 43 _ HA5.out (i7 _ rfl) rfl (cells7_one _) ?_
      refine wpList_nil ?_
      have HR' := setRow_heap V5 W.heap.size _ zeroM.cells 43 (0, 0) HA5.out
      have HRr := (setRow_other V5 W.heap.size R zeroM.cells (by omega)).trans HR5.out
      have HOr := HO5.out.setRow (Nat.le_refl _) zeroM.cells
      obtain ⟨W9, hW9⟩ : ∃ W9, W9 = V5.setRow W.heap.size zeroM.cells := ⟨_, rfl⟩
      rw [← hW9] at HR' HRr HOr ⊢
      clear hW9 HA5 HR5 HO5
      go_wp2_with fail
      exact bodyPost_ret (results_cell_row Try.results44 _ _ W.heap.size 43 zeroM.cells (0, 0) _ rfl HR' Try.underlying43 rfl (i7 _ rfl)) rfl ⟨by rw [HP3.out], by rw [HP3.out]; exact HRr, HOr⟩
    | false =>
      have HP3 : Hid (r.msg.1.cells = C ∧ r.msg.2 = r3) := Lib.hid (by rw [HP2.out, hf, if_neg (by simp), HC.out]; exact ⟨rfl, rfl⟩)
      clear hf HP2
      go_upto_region 7 with fail
      refine wp_region_lit ?_
      refine wpList_load_row rfl 43 _ rfl G rfl 43 C (0, 0) _ HB5.out Try.underlying43 rfl (i7 _ hz) ?_
      refine wpList_store_rowTo rfl 43 _ _ rfl rfl W.heap.size C rfl rfl 43 _ HA5.out (i7 _ hz) (by rw [hz]; rfl) ho ?_
      refine wpList_nil ?_
      have HR' := setRow_heap V5 W.heap.size _ C 43 (0, 0) HA5.out
      have HRr := (setRow_other V5 W.heap.size R C (by omega)).trans HR5.out
      have HOr := HO5.out.setRow (Nat.le_refl _) C
      obtain ⟨W9, hW9⟩ : ∃ W9, W9 = V5.setRow W.heap.size C := ⟨_, rfl⟩
      rw [← hW9] at HR' HRr HOr ⊢
      clear hW9 HA5 HR5 HO5
      go_wp2_with fail
      exact bodyPost_ret (results_cell_row Try.results44 _ _ W.heap.size 43 C (0, 0) _ rfl HR' Try.underlying43 rfl (i7 _ hz)) rfl ⟨by rw [HP3.out.1], by rw [HP3.out.2]; exact HRr, HOr⟩
  · have h3i : ((n0 : Int) == 3) = false := by simp; omega
    have HP2 : Hid (r.msg = (if r2.failed then zeroM else ⟨(n0 : Int), c, f, s, t, d, ⟨#[]⟩⟩, r2)) := Lib.hid (by rw [HP.out, if_neg h3])
    obtain ⟨V5, hV⟩ : ∃ X, X = V3 := ⟨_, rfl⟩
    have hB5 : V5.heap[G]? = some (.cells #[.int .i64 (n0 : Int), .int .i64 c, .int .i64 f, .int .u64 s, .int .u64 t, .string d, .string ⟨#[]⟩] 43 (0, 0)) := by rw [hV]; exact hB3
    have hA5 : V5.heap[W.heap.size]? = some (.cells #[.int .i64 0, .int .i64 0, .int .i64 0, .int .u64 0, .int .u64 0, .string ⟨#[]⟩, .string ⟨#[]⟩] 43 (0, 0)) := by rw [hV]; exact hA3
    have hR5 : Lies V5 R r2 := by rw [hV]; exact hR3
    have hO5 : Only R W V5 := by rw [hV]; exact hO3
    go_upto_region 5 with fail
    rw [← hV]
    clear hV hB3 hA3 hR3 hO3 b0 h3i
    obtain ⟨r3, hr3⟩ : ∃ x, x = r2 := ⟨_, rfl⟩
    rw [← hr3] at HP2 hR5
    clear hr3
    obtain ⟨C, hC⟩ : ∃ C : Array Value, C = #[.int .i64 (n0 : Int), .int .i64 c, .int .i64 f, .int .u64 s, .int .u64 t, .string d, .string ⟨#[]⟩] := ⟨_, rfl⟩
    have hCm : C = (⟨(n0 : Int), c, f, s, t, d, ⟨#[]⟩⟩ : M7).cells := hC
    rw [← hC] at hB5
    have hz : C.size = 7 := by rw [hC]; rfl
    have ho : C.all (·.oneCell') = true := by rw [hCm]; exact cells7_one _
    have HC := Lib.hid hCm
    have HB5 := Lib.hid hB5
    have HA5 := Lib.hid hA5
    have HR5 := Lib.hid hR5
    have HO5 := Lib.hid hO5
    clear hC hCm hB5 hA5 hR5 hO5
    go_wp2_with fail
    refine (failed_any R r3 _ HR5.out).mono ?_
    rintro _ w6 ⟨rfl, hw⟩
    obtain rfl := hw.symm
    clear hw
    cases hf : r3.failed with
    | true =>
      have HP3 : Hid (r.msg = (zeroM, r3)) := Lib.hid (by rw [HP2.out, hf, if_pos rfl])
      clear hf HB5 HP2
      go_upto_region 6 with fail
      refine wp_region_lit ?_
      refine wpList_step (fun K hK => ?_)
      go_simp
      refine hK _ _ ?_
      clear hK K
      refine wpList_store_rowTo rfl 43 _ _ rfl rfl W.heap.size zeroM.cells rfl rfl 43 _ HA5.out (i7 _ rfl) rfl (cells7_one _) ?_
      refine wpList_nil ?_
      have HR' := setRow_heap V5 W.heap.size _ zeroM.cells 43 (0, 0) HA5.out
      have HRr := (setRow_other V5 W.heap.size R zeroM.cells (by omega)).trans HR5.out
      have HOr := HO5.out.setRow (Nat.le_refl _) zeroM.cells
      obtain ⟨W9, hW9⟩ : ∃ W9, W9 = V5.setRow W.heap.size zeroM.cells := ⟨_, rfl⟩
      rw [← hW9] at HR' HRr HOr ⊢
      clear hW9 HA5 HR5 HO5
      go_wp2_with fail
      exact bodyPost_ret (results_cell_row Try.results44 _ _ W.heap.size 43 zeroM.cells (0, 0) _ rfl HR' Try.underlying43 rfl (i7 _ rfl)) rfl ⟨by rw [HP3.out], by rw [HP3.out]; exact HRr, HOr⟩
    | false =>
      have HP3 : Hid (r.msg.1.cells = C ∧ r.msg.2 = r3) := Lib.hid (by rw [HP2.out, hf, if_neg (by simp), HC.out]; exact ⟨rfl, rfl⟩)
      clear hf HP2
      go_upto_region 7 with fail
      refine wp_region_lit ?_
      refine wpList_load_row rfl 43 _ rfl G rfl 43 C (0, 0) _ HB5.out Try.underlying43 rfl (i7 _ hz) ?_
      refine wpList_store_rowTo rfl 43 _ _ rfl rfl W.heap.size C rfl rfl 43 _ HA5.out (i7 _ hz) (by rw [hz]; rfl) ho ?_
      refine wpList_nil ?_
      have HR' := setRow_heap V5 W.heap.size _ C 43 (0, 0) HA5.out
      have HRr := (setRow_other V5 W.heap.size R C (by omega)).trans HR5.out
      have HOr := HO5.out.setRow (Nat.le_refl _) C
      obtain ⟨W9, hW9⟩ : ∃ W9, W9 = V5.setRow W.heap.size C := ⟨_, rfl⟩
      rw [← hW9] at HR' HRr HOr ⊢
      clear hW9 HA5 HR5 HO5
      go_wp2_with fail
      exact bodyPost_ret (results_cell_row Try.results44 _ _ W.heap.size 43 C (0, 0) _ rfl HR' Try.underlying43 rfl (i7 _ hz)) rfl ⟨by rw [HP3.out.1], by rw [HP3.out.2]; exact HRr, HOr⟩
end Go.Proofs.Ytfalmebgjghjeaa.Rd
/- What was put of a message is read as it was. -/
namespace Go.Proofs.Ytfalmebgjghjeaa.Rd
open Go Go.RowKit Num Texts Packet
open Msg (M7 mright mright_any)

theorem msg_back (m : M7) (h : mright m = true) (hw : m.wf) (s rest : ByteArray) (hs : s.data.toList = m.bytes.data.toList ++ rest.data.toList) : (R2.mk s 0).msg = (m, ⟨rest, 0⟩) := by
  obtain ⟨hp, ha, hk⟩ := Msg.mright_parts h
  have hkS : kS m.k = numS (m.k.toNat % 18446744073709551616) := rfl
  have hkb : m.k.toNat % 18446744073709551616 = m.k.toNat := by omega
  rw [hkb] at hkS
  by_cases h3 : m.k = 3
  · have hb : m.bytes = kS m.k ++ m.p.bytes ++ textB m.a := by unfold Msg.M7.bytes; rw [if_pos h3]
    have l1 := num_back 4 m.k.toNat s (m.p.bytes ++ (textB m.a ++ rest)) (by omega) (by omega) (by rw [hs, hb, hkS]; simp)
    have l2 := packet_back m.p hp hw (m.p.bytes ++ (textB m.a ++ rest)) (textB m.a ++ rest) (by simp)
    have l3 := text_back 64 (textB m.a ++ rest) m.a rest ha (by omega) (by simp [textB, textL])
    unfold R2.msg
    simp only [R2.num_ok l1, l2]
    rw [if_pos (show m.k.toNat = 3 by omega)]
    simp only [R2.text_ok l3, R2.failed_ok]
    rw [if_neg (by simp)]
    clear l1 l2 l3 hb hs hkS hkb
    obtain ⟨k, c, f, s', t, d, a⟩ := m
    dsimp only [Msg.M7.p] at *
    congr 2
    omega
  · have hb : m.bytes = kS m.k ++ m.p.bytes := by unfold Msg.M7.bytes; rw [if_neg h3]
    have l1 := num_back 4 m.k.toNat s (m.p.bytes ++ rest) (by omega) (by omega) (by rw [hs, hb, hkS]; simp)
    have l2 := packet_back m.p hp hw (m.p.bytes ++ rest) rest (by simp)
    have hae : m.a = ⟨#[]⟩ := by
      rcases hk with h | h
      · exact absurd h h3
      · exact Msg.empty_of h.1
    unfold R2.msg
    simp only [R2.num_ok l1, l2]
    rw [if_neg (show ¬ m.k.toNat = 3 by omega)]
    simp only [R2.failed_ok]
    rw [if_neg (by simp)]
    clear l1 l2 hb hs hkS hkb
    obtain ⟨k, c, f, s', t, d, a⟩ := m
    dsimp only [Msg.M7.p] at *
    subst hae
    congr 2
    omega
theorem hst7 (w1 : World) (C : Array Value) (hz : C.size = 7) (ho : C.all (·.oneCell') = true) : (storeCells ⟨w1.heap.size, 0, none⟩ C.toList).run Try.prog (w1.alloc (.cells #[.int .i64 0, .int .i64 0, .int .i64 0, .int .u64 0, .int .u64 0, .string ⟨#[]⟩, .string ⟨#[]⟩] 43)) = .ok () ((w1.alloc (.cells #[.int .i64 0, .int .i64 0, .int .i64 0, .int .u64 0, .int .u64 0, .string ⟨#[]⟩, .string ⟨#[]⟩] 43)).setRow w1.heap.size C) := by
  obtain ⟨Y, hY⟩ : ∃ Y : Array Value, Y = #[.int .i64 0, .int .i64 0, .int .i64 0, .int .u64 0, .int .u64 0, .string ⟨#[]⟩, .string ⟨#[]⟩] := ⟨_, rfl⟩
  rw [← hY]
  have hzz : Y.size = 7 := by rw [hY]; rfl
  clear hY
  have h := run_storeCells_at (P := Try.prog) w1.heap.size 0 43 C.toList 0 Y (w1.alloc (.cells Y 43)) (heap_alloc_new w1 _) (by rw [Array.length_toList, hz, hzz]; decide) (fun u hu => (Array.all_eq_true'.1 ho) u (by simpa using hu))
  simp only [Nat.add_zero, List.take_zero, List.nil_append, Nat.zero_add] at h
  rw [h, List.drop_of_length_le (by rw [Array.length_toList, hzz, Array.length_toList, hz]; exact Nat.le_refl _), List.append_nil]

end Go.Proofs.Ytfalmebgjghjeaa.Rd
/- txn.take: a transaction that is read. -/
namespace Go.Proofs.Ytfalmebgjghjeaa.Rd
open Go Go.RowKit Num Texts Packet
open Msg (M7 mevs mevs_snoc mevs_len own_formN cells7_new)

/-- n messages that are read, up to the first one that isn't there -/
def msgsR : Nat → R2 → List M7 × R2
  | 0, r => ([], r)
  | n + 1, r => if r.msg.2.failed then ([], r.msg.2) else (r.msg.1 :: (msgsR n r.msg.2).1, (msgsR n r.msg.2).2)
theorem msgsR_len : ∀ (n : Nat) (r : R2), (msgsR n r).1.length ≤ n
  | 0, _ => Nat.le_refl _
  | n + 1, r => by
    unfold msgsR
    split
    · exact Nat.zero_le _
    · have := msgsR_len n r.msg.2; simp only [List.length_cons]; omega
/-- the transaction that is read, and the reader behind it -/
def R2.txn (r : R2) : (Nat × Nat × Nat × List M7) × R2 :=
  let a := r.num 1
  let b := a.2.num 4
  let c := b.2.num 18446744073709551615
  let d := c.2.num 8
  let q := msgsR d.1 d.2
  ((a.1, b.1, c.1, q.1), q.2)

theorem i4 (C : Array Value) (h : C.size = 4) : (Try.prog.info? 29).map (·.size) = some C.size := by rw [h]; kernel_rfl

set_option maxRecDepth 20000 in
set_option maxHeartbeats 4000000 in
theorem txtake_any (R : Nat) (r : R2) (hs : r.s.size ≤ 1099511627776) (W : World) (hR : Lies W R r) :
    Calls Try.prog 32 #[.pointer (some ⟨R, 0, none⟩)] W
      fun e w' => (∃ v, e = .returned (.agg #[.int .i64 (r.txn.1.1 : Int), .int .i64 (r.txn.1.2.1 : Int), .int .u64 (r.txn.1.2.2.1 : Int), v]) ∧ w'.ownsRow W.heap.size 43 7 v r.txn.1.2.2.2.length (mevs r.txn.1.2.2.2)) ∧ Lies w' R r.txn.2 ∧ Only R W w' := by
  obtain ⟨i1, hinf, hy0, hy1, hy2⟩ := info_parts Msg.infoM
  have hlt := (Array.getElem?_eq_some_iff.1 hR).1
  obtain ⟨W0, hW0⟩ : ∃ X, X = (W.alloc (.cells #[.int .i64 0, .int .i64 0, .int .u64 0, .slice none 0 0] 29)).alloc (.cells #[.int .i64 0, .int .i64 0, .int .u64 0, .slice none 0 0] 29) := ⟨_, rfl⟩
  have hA : W0.heap[W.heap.size]? = some (.cells #[.int .i64 0, .int .i64 0, .int .u64 0, .slice none 0 0] 29 (0, 0)) := by
    rw [hW0, Below.heap_alloc _ _ _ (by simp)]; exact heap_alloc_new _ _
  have hB : W0.heap[W.heap.size + 1]? = some (.cells #[.int .i64 0, .int .i64 0, .int .u64 0, .slice none 0 0] 29 (0, 0)) := by
    have := heap_alloc_new (W.alloc (.cells #[.int .i64 0, .int .i64 0, .int .u64 0, .slice none 0 0] 29)) (.cells #[.int .i64 0, .int .i64 0, .int .u64 0, .slice none 0 0] 29)
    rw [hW0]; simpa using this
  have hO : Only R W W0 := by rw [hW0]; exact ((Only.refl R W).alloc _).alloc _
  have hR0 : Lies W0 R r := by
    rw [hW0]; unfold Lies
    rw [Below.heap_alloc _ _ _ (by simp; omega), Below.heap_alloc _ _ _ hlt]; exact hR
  have H0 := Lib.hid hA
  have HB0 := Lib.hid hB
  have HO0 := Lib.hid hO
  have HR0 := Lib.hid hR0
  clear hA hB hO hR0 hR
  have hpk : r.txn = (let a := r.num 1
    let b := a.2.num 4
    let c := b.2.num 18446744073709551615
    let d := c.2.num 8
    let q := msgsR d.1 d.2
    ((a.1, b.1, c.1, q.1), q.2)) := rfl
  generalize r.txn = X at hpk ⊢
  have HP := Lib.hid hpk
  clear hpk
  have HS0 := Lib.hid hs
  clear hs
  go_enter Try.func32, Try.ntmps32
  go_wp2_with fail
  go_step3
  go_wp2_with fail
  rw [← hW0]
  clear hW0
  refine (rnum_any R r 1 (by decide) HS0.out _ HR0.out).mono ?_
  rintro _ w1 ⟨rfl, hR, hO⟩
  have hA := (hO.block _ (Array.getElem?_eq_some_iff.1 H0.out).1 (by omega)).trans H0.out
  have hB := (hO.block _ (Array.getElem?_eq_some_iff.1 HB0.out).1 (by omega)).trans HB0.out
  have hOO := HO0.out.trans hO
  have hs1 : (r.num 1).2.s.size ≤ 1099511627776 := Nat.le_trans (R2.num_rest _ _) HS0.out
  have hn0 : (r.num 1).1 ≤ 1 := R2.num_val _ _
  generalize r.num 1 = x at *
  obtain ⟨n0, r1⟩ := x
  dsimp only at *
  have hi0 : (n0 : Int) ≤ 1 := by omega
  have cB : w1.cell? ⟨W.heap.size + 1, 0, none⟩ = some (.int .i64 0) := cell_at hB 0
  have fB := free_at hB 0
  have hRn := set_off (i := 0) hR (show R ≠ W.heap.size + 1 by omega) (.int .i64 (n0 : Int))
  have hAn := set_off (i := 0) hA (show W.heap.size ≠ W.heap.size + 1 by omega) (.int .i64 (n0 : Int))
  have hBn := set_at hB 0 (.int .i64 (n0 : Int))
  have hOn := hOO.setNew (show W.heap.size ≤ W.heap.size + 1 by omega) 0 (.int .i64 (n0 : Int))
  obtain ⟨V1, hV⟩ : ∃ X, X = w1.setCell ⟨W.heap.size + 1, 0, none⟩ (.int .i64 (n0 : Int)) := ⟨_, rfl⟩
  rw [← hV] at hRn hAn hBn hOn
  have HS1 := Lib.hid hs1
  have HR1 := Lib.hid (show Lies V1 R r1 from hRn)
  have H1 := Lib.hid hAn
  have HB1 := Lib.hid (show V1.heap[W.heap.size + 1]? = some (.cells #[.int .i64 (n0 : Int), .int .i64 0, .int .u64 0, .slice none 0 0] 29 (0, 0)) from hBn)
  have HO1 := Lib.hid hOn
  have HV := Lib.hid hV
  clear hR hA hB hOO hO hs1 hRn hAn hBn hOn hV HR0 H0 HB0 HO0 HS0
  go_wp2_with fail
  rw [← HV.out]
  clear HV cB fB
  refine (rnum_any R r1 4 (by decide) HS1.out _ HR1.out).mono ?_
  rintro _ w2 ⟨rfl, hR, hO⟩
  have hA := (hO.block _ (Array.getElem?_eq_some_iff.1 H1.out).1 (by omega)).trans H1.out
  have hB := (hO.block _ (Array.getElem?_eq_some_iff.1 HB1.out).1 (by omega)).trans HB1.out
  have hOO := HO1.out.trans hO
  have hs2 : (r1.num 4).2.s.size ≤ 1099511627776 := Nat.le_trans (R2.num_rest _ _) HS1.out
  have hn1 : (r1.num 4).1 ≤ 4 := R2.num_val _ _
  generalize r1.num 4 = x at *
  obtain ⟨n1, r2⟩ := x
  dsimp only at *
  have hi1 : (n1 : Int) ≤ 4 := by omega
  have cB : w2.cell? ⟨W.heap.size + 1, 1, none⟩ = some (.int .i64 0) := cell_at hB 1
  have fB := free_at hB 1
  have hRn := set_off (i := 1) hR (show R ≠ W.heap.size + 1 by omega) (.int .i64 (n1 : Int))
  have hAn := set_off (i := 1) hA (show W.heap.size ≠ W.heap.size + 1 by omega) (.int .i64 (n1 : Int))
  have hBn := set_at hB 1 (.int .i64 (n1 : Int))
  have hOn := hOO.setNew (show W.heap.size ≤ W.heap.size + 1 by omega) 1 (.int .i64 (n1 : Int))
  obtain ⟨V2, hV⟩ : ∃ X, X = w2.setCell ⟨W.heap.size + 1, 1, none⟩ (.int .i64 (n1 : Int)) := ⟨_, rfl⟩
  rw [← hV] at hRn hAn hBn hOn
  have HS2 := Lib.hid hs2
  have HR2 := Lib.hid (show Lies V2 R r2 from hRn)
  have H2 := Lib.hid hAn
  have HB2 := Lib.hid (show V2.heap[W.heap.size + 1]? = some (.cells #[.int .i64 (n0 : Int), .int .i64 (n1 : Int), .int .u64 0, .slice none 0 0] 29 (0, 0)) from hBn)
  have HO2 := Lib.hid hOn
  have HV := Lib.hid hV
  clear hR hA hB hOO hO hs2 hRn hAn hBn hOn hV HR1 H1 HB1 HO1 HS1
  go_wp2_with fail
  rw [← HV.out]
  clear HV cB fB
  refine (rnum_any R r2 18446744073709551615 (by decide) HS2.out _ HR2.out).mono ?_
  rintro _ w3 ⟨rfl, hR, hO⟩
  have hA := (hO.block _ (Array.getElem?_eq_some_iff.1 H2.out).1 (by omega)).trans H2.out
  have hB := (hO.block _ (Array.getElem?_eq_some_iff.1 HB2.out).1 (by omega)).trans HB2.out
  have hOO := HO2.out.trans hO
  have hs3 : (r2.num 18446744073709551615).2.s.size ≤ 1099511627776 := Nat.le_trans (R2.num_rest _ _) HS2.out
  have hn2 : (r2.num 18446744073709551615).1 ≤ 18446744073709551615 := R2.num_val _ _
  generalize r2.num 18446744073709551615 = x at *
  obtain ⟨n2, r3⟩ := x
  dsimp only at *
  have hi2 : (n2 : Int) ≤ 18446744073709551615 := by omega
  have cB : w3.cell? ⟨W.heap.size + 1, 2, none⟩ = some (.int .u64 0) := cell_at hB 2
  have fB := free_at hB 2
  have hRn := set_off (i := 2) hR (show R ≠ W.heap.size + 1 by omega) (.int .u64 (n2 : Int))
  have hAn := set_off (i := 2) hA (show W.heap.size ≠ W.heap.size + 1 by omega) (.int .u64 (n2 : Int))
  have hBn := set_at hB 2 (.int .u64 (n2 : Int))
  have hOn := hOO.setNew (show W.heap.size ≤ W.heap.size + 1 by omega) 2 (.int .u64 (n2 : Int))
  obtain ⟨V3, hV⟩ : ∃ X, X = w3.setCell ⟨W.heap.size + 1, 2, none⟩ (.int .u64 (n2 : Int)) := ⟨_, rfl⟩
  rw [← hV] at hRn hAn hBn hOn
  have HS3 := Lib.hid hs3
  have HR3 := Lib.hid (show Lies V3 R r3 from hRn)
  have H3 := Lib.hid hAn
  have HB3 := Lib.hid (show V3.heap[W.heap.size + 1]? = some (.cells #[.int .i64 (n0 : Int), .int .i64 (n1 : Int), .int .u64 (n2 : Int), .slice none 0 0] 29 (0, 0)) from hBn)
  have HO3 := Lib.hid hOn
  have HV := Lib.hid hV
  clear hR hA hB hOO hO hs3 hRn hAn hBn hOn hV HR2 H2 HB2 HO2 HS2
  go_wp2_with fail
  rw [← HV.out]
  clear HV cB fB
  refine (rnum_any R r3 8 (by decide) HS3.out _ HR3.out).mono ?_
  rintro _ w4 ⟨rfl, hR, hO⟩
  have hA := (hO.block _ (Array.getElem?_eq_some_iff.1 H3.out).1 (by omega)).trans H3.out
  have hB := (hO.block _ (Array.getElem?_eq_some_iff.1 HB3.out).1 (by omega)).trans HB3.out
  have hOO := HO3.out.trans hO
  have hs4 : (r3.num 8).2.s.size ≤ 1099511627776 := Nat.le_trans (R2.num_rest _ _) HS3.out
  have hn3 : (r3.num 8).1 ≤ 8 := R2.num_val _ _
  generalize r3.num 8 = x at *
  obtain ⟨n, r4⟩ := x
  dsimp only at *
  have hni : (n : Int) ≤ 8 := by omega
  clear hO H3 HB3 HO3 HR3 HS3
  go_wp2_with fail
  go_step3
  go_wp2_with fail
  go_loopw [20] (fun i wr => ∃ (k : Nat) (ms : List M7) (rk : R2) (v : Value), i = .int .u64 (k : Int) ∧ k ≤ n ∧ ms.length = k ∧ msgsR n r4 = (ms ++ (msgsR (n - k) rk).1, (msgsR (n - k) rk).2) ∧ rk.s.size ≤ 1099511627776 ∧ Lies wr R rk ∧ wr.heap[W.heap.size]? = some (.cells #[.int .i64 0, .int .i64 0, .int .u64 0, .slice none 0 0] 29 (0, 0)) ∧ wr.heap[W.heap.size + 1]? = some (.cells #[.int .i64 (n0 : Int), .int .i64 (n1 : Int), .int .u64 (n2 : Int), v] 29 (0, 0)) ∧ wr.ownsRow W.heap.size 43 7 v k (mevs ms) ∧ Only R W wr) (fun i _ => n - (intOf i).toNat)
  case atStart => exact ⟨0, [], r4, .slice none 0 0, rfl, Nat.zero_le _, rfl, rfl, hs4, hR, hA, hB, World.ownsRow_nil _ _ _ _, hOO⟩
  case round =>
    obtain ⟨k, ms, rk, v, rfl, hk, hml, hmr, hsk, hRk, hAk, hBk, hown, hOk⟩ := hrel
    clear hR hA hB hOO hs4
    have HR := Lib.hid hRk
    have HA := Lib.hid hAk
    have HB := Lib.hid hBk
    have HW := Lib.hid hown
    have HO := Lib.hid hOk
    have HM := Lib.hid hmr
    clear hRk hAk hBk hown hOk hmr
    rcases Nat.lt_or_ge k n with hlt2 | hge
    · have hki : (k : Int) < (n : Int) := by omega
      have hnk : n - k = (n - (k + 1)) + 1 := by omega
      go_wp2_with fail
      refine (mtake_any R rk hsk _ HR.out).mono ?_
      rintro _ w5 ⟨rfl, hR5, hO5⟩
      have hA5 := (hO5.block _ (Array.getElem?_eq_some_iff.1 HA.out).1 (by omega)).trans HA.out
      have hB5 := (hO5.block _ (Array.getElem?_eq_some_iff.1 HB.out).1 (by omega)).trans HB.out
      have hW5 := own_only HW.out hO5 hlt
      have hOO5 := HO.out.trans hO5
      have hs5 : rk.msg.2.s.size ≤ 1099511627776 := Nat.le_trans (R2.msg_rest _) hsk
      have hstep : msgsR (n - k) rk = if rk.msg.2.failed then ([], rk.msg.2) else (rk.msg.1 :: (msgsR (n - (k + 1)) rk.msg.2).1, (msgsR (n - (k + 1)) rk.msg.2).2) := by rw [hnk]; rfl
      generalize rk.msg = x at *
      obtain ⟨m, r5⟩ := x
      dsimp only at *
      have HStep := Lib.hid hstep
      have hst := hst7 w5 m.cells rfl (cells7_one m)
      clear hstep hO5 HR HA HB HW HO
      go_upto_region 10 with fail
      obtain ⟨W6, hW6⟩ : ∃ X, X = (w5.alloc (.cells #[.int .i64 0, .int .i64 0, .int .i64 0, .int .u64 0, .int .u64 0, .string ⟨#[]⟩, .string ⟨#[]⟩] 43)).setRow w5.heap.size m.cells := ⟨_, rfl⟩
      have hb6 : Below w5.heap.size w5 W6 := by
        rw [hW6]
        have h1 := (Below.refl w5.heap.size w5).alloc (Nat.le_refl _) (.cells #[.int .i64 0, .int .i64 0, .int .i64 0, .int .u64 0, .int .u64 0, .string ⟨#[]⟩, .string ⟨#[]⟩] 43)
        exact ⟨h1.os, h1.tape, h1.output, by simp, fun i hi => (setRow_other _ _ _ _ (by omega)).trans (h1.block i hi)⟩
      have HQ := Lib.hid (show W6.heap[w5.heap.size]? = some (.cells m.cells 43 (0, 0)) by rw [hW6]; exact setRow_heap _ _ _ _ _ _ (heap_alloc_new w5 _))
      rw [← hW6]
      have HR := Lib.hid (show Lies W6 R r5 from (hb6.block _ (Array.getElem?_eq_some_iff.1 hR5).1).trans hR5)
      have HA := Lib.hid ((hb6.block _ (Array.getElem?_eq_some_iff.1 hA5).1).trans hA5)
      have HB := Lib.hid ((hb6.block _ (Array.getElem?_eq_some_iff.1 hB5).1).trans hB5)
      have HW := Lib.hid (own_below hW5 hb6)
      have HO := Lib.hid (hOO5.trans (Only.of_below hb6))
      obtain ⟨Q, hQ⟩ : ∃ Q, Q = w5.heap.size := ⟨_, rfl⟩
      rw [← hQ] at HQ ⊢
      clear hW6 hb6 hst hQ hR5 hA5 hB5 hW5 hOO5
      go_wp2_with fail
      refine (failed_any R r5 _ HR.out).mono ?_
      rintro _ w7 ⟨rfl, hw⟩
      obtain rfl := hw.symm
      clear hw
      cases hf : r5.failed with
      | true =>
        have HX : Hid (X = ((n0, n1, n2, ms), r5)) := Lib.hid (by
          rw [HP.out, HM.out, HStep.out, hf, if_pos rfl, List.append_nil])
        clear hf HM HStep HP HQ
        obtain ⟨A1, c1, rfl⟩ := own_formN HW.out
        obtain ⟨C, hC⟩ : ∃ C : Array Value, C = #[.int .i64 (n0 : Int), .int .i64 (n1 : Int), .int .u64 (n2 : Int), .slice A1 k c1] := ⟨_, rfl⟩
        have hz : C.size = 4 := by rw [hC]; rfl
        have ho : C.all (·.oneCell') = true := by
          rw [hC, Array.all_eq_true']
          intro x hx
          simp only [List.mem_toArray, List.mem_cons, List.not_mem_nil, or_false] at hx
          rcases hx with rfl | rfl | rfl | rfl <;> rfl
        have HC := Lib.hid hC
        have HB := Lib.hid (show W6.heap[W.heap.size + 1]? = some (.cells C 29 (0, 0)) by rw [hC]; exact HB.out)
        clear hC
        go_upto_region 12 with fail
        refine wp_region_lit ?_
        refine wpList_load_row rfl 29 _ rfl (W.heap.size + 1) rfl 29 C (0, 0) _ HB.out Try.underlying29 rfl (i4 _ hz) ?_
        refine wpList_store_rowTo rfl 29 _ _ rfl rfl W.heap.size C rfl rfl 29 _ HA.out (i4 _ hz) (by rw [hz]; rfl) ho ?_
        refine wpList_nil ?_
        have HR' := setRow_heap W6 W.heap.size _ C 29 (0, 0) HA.out
        have HRr := (setRow_other W6 W.heap.size R C (by omega)).trans HR.out
        have HOr := HO.out.setRow (Nat.le_refl _) C
        have HWr : (W6.setRow W.heap.size C).ownsRow W.heap.size 43 7 (.slice A1 k c1) k (mevs ms) := Msg.own_apart HW.out (row := some W.heap.size) (.inr (fun hv => by
          obtain ⟨_, _, ho⟩ := Msg.own_blk_type HW.out hv HA.out
          injection ho with _ h2 _
          exact absurd h2 (by decide))) ⟨rfl, rfl, rfl, by simp, fun j _ hne => setRow_other _ _ _ _ (fun e => hne (by rw [e]))⟩
        obtain ⟨W9, hW9⟩ : ∃ W9, W9 = W6.setRow W.heap.size C := ⟨_, rfl⟩
        rw [← hW9] at HR' HRr HOr HWr ⊢
        clear hW9 HA HR HO HB HW
        go_wp2_with fail
        rw [Exit.noGoto_ret]
        exact bodyPost_ret (results_cell_row Try.results32 _ _ W.heap.size 29 C (0, 0) _ rfl HR' Try.underlying29 rfl (i4 _ hz)) rfl ⟨⟨.slice A1 k c1, by rw [HX.out, HC.out], by rw [HX.out]; dsimp only; rw [hml]; exact HWr⟩, by rw [HX.out]; exact HRr, HOr⟩
      | false =>
        have HM2 : Hid (msgsR n r4 = (ms ++ [m] ++ (msgsR (n - (k + 1)) r5).1, (msgsR (n - (k + 1)) r5).2)) := Lib.hid (by
          rw [HM.out, HStep.out, hf, if_neg (by simp), List.append_assoc]; rfl)
        clear hf HM HStep
        obtain ⟨A1, c1, rfl⟩ := own_formN HW.out
        have hB3 : W6.cell? ⟨W.heap.size + 1, 3, none⟩ = some (.slice A1 k c1) := cell_at HB.out 3
        obtain ⟨x0, x1, x2, x3, x4, x5, x6⟩ : _ ∧ _ ∧ _ ∧ _ ∧ _ ∧ _ ∧ _ := ⟨cell_at HQ.out 0, cell_at HQ.out 1, cell_at HQ.out 2, cell_at HQ.out 3, cell_at HQ.out 4, cell_at HQ.out 5, cell_at HQ.out 6⟩
        unfold M7.cells at x0 x1 x2 x3 x4 x5 x6
        have hw6 : W.heap.size ≤ W6.heap.size := HO.out.size
        go_wp2_with (at_builtin; refine wpList_append_own_at _ rfl _ _ 27 rfl W.heap.size 43 i1 _ 7 72 Try.underlying27 hinf hy0 hy1 hy2 rfl (by decide) _ _ _ rfl (HW.out.alloc _) ⟨W6.heap.size, 0, none⟩ 1 1 m.cells.toList rfl rfl (cells7_new W6 m _) (Msg.cells7_one m) (by unfold maxLen; omega) (by omega) (by simp; omega) ?_)
        intro v1 w1 hown1 hg1 _ _
        have hwa := HW.out.alloc (.cells m.cells 43)
        have hA1 := grown_off ((Below.heap_alloc _ _ _ (Array.getElem?_eq_some_iff.1 HA.out).1).trans HA.out) hg1 hwa (by decide)
        have hB1 := grown_off ((Below.heap_alloc _ _ _ (Array.getElem?_eq_some_iff.1 HB.out).1).trans HB.out) hg1 hwa (by decide)
        have hR1 := grown_off ((Below.heap_alloc _ _ _ (Array.getElem?_eq_some_iff.1 HR.out).1).trans HR.out) hg1 hwa (by decide)
        have hO1 := (HO.out.alloc _).push hwa (Nat.le_refl _) hg1
        clear x0 x1 x2 x3 x4 x5 x6 hB3 hg1 hwa
        obtain ⟨A2, c2, rfl⟩ := own_formN hown1
        have hB3 : w1.cell? ⟨W.heap.size + 1, 3, none⟩ = some (.slice A1 k c1) := cell_at hB1 3
        have fB3 := free_at hB1 3
        have hwn := Msg.own_setblk (i := 3) (u := .slice A2 (k + 1) c2) hown1 hB1 (by decide)
        have HN := Lib.hid (And.intro hwn (And.intro (set_off (i := 3) hA1 (show W.heap.size ≠ W.heap.size + 1 by omega) (.slice A2 (k + 1) c2)) (And.intro (set_at hB1 3 (.slice A2 (k + 1) c2)) (And.intro (set_off (i := 3) hR1 (show R ≠ W.heap.size + 1 by omega) (.slice A2 (k + 1) c2)) (hO1.setNew (show W.heap.size ≤ W.heap.size + 1 by omega) 3 (.slice A2 (k + 1) c2))))))
        clear hA1 hB1 hR1 hO1 hown1 hwn
        go_wp2
        refine ⟨⟨k + 1, ms ++ [m], r5, .slice A2 (k + 1) c2, by go_num, by omega, by rw [List.length_append, hml]; rfl, HM2.out, hs5, HN.out.2.2.2.1, HN.out.2.1, HN.out.2.2.1, by rw [mevs_snoc]; exact HN.out.1, HN.out.2.2.2.2⟩, by simp [intOf]; omega⟩
    · have hkn : k = n := by omega
      subst hkn
      have HX : Hid (X = ((n0, n1, n2, ms), rk)) := Lib.hid (by
        rw [HP.out, HM.out, Nat.sub_self]
        show ((n0, n1, n2, ms ++ []), rk) = _
        rw [List.append_nil])
      clear HM HP
      obtain ⟨A1, c1, rfl⟩ := own_formN HW.out
      obtain ⟨WE, hWE⟩ : ∃ X, X = wr := ⟨_, rfl⟩
      rw [← hWE] at HA HB HR HO HW ⊢
      clear hWE
      obtain ⟨C, hC⟩ : ∃ C : Array Value, C = #[.int .i64 (n0 : Int), .int .i64 (n1 : Int), .int .u64 (n2 : Int), .slice A1 k c1] := ⟨_, rfl⟩
      have hz : C.size = 4 := by rw [hC]; rfl
      have ho : C.all (·.oneCell') = true := by
        rw [hC, Array.all_eq_true']
        intro x hx
        simp only [List.mem_toArray, List.mem_cons, List.not_mem_nil, or_false] at hx
        rcases hx with rfl | rfl | rfl | rfl <;> rfl
      have HC := Lib.hid hC
      have HB := Lib.hid (show WE.heap[W.heap.size + 1]? = some (.cells C 29 (0, 0)) by rw [hC]; exact HB.out)
      clear hC
      go_upto_region 12 with fail
      refine wp_region_lit ?_
      refine wpList_load_row rfl 29 _ rfl (W.heap.size + 1) rfl 29 C (0, 0) _ HB.out Try.underlying29 rfl (i4 _ hz) ?_
      refine wpList_store_rowTo rfl 29 _ _ rfl rfl W.heap.size C rfl rfl 29 _ HA.out (i4 _ hz) (by rw [hz]; rfl) ho ?_
      refine wpList_nil ?_
      have HR' := setRow_heap WE W.heap.size _ C 29 (0, 0) HA.out
      have HRr := (setRow_other WE W.heap.size R C (by omega)).trans HR.out
      have HOr := HO.out.setRow (Nat.le_refl _) C
      have HWr : (WE.setRow W.heap.size C).ownsRow W.heap.size 43 7 (.slice A1 k c1) k (mevs ms) := Msg.own_apart HW.out (row := some W.heap.size) (.inr (fun hv => by
        obtain ⟨_, _, ho⟩ := Msg.own_blk_type HW.out hv HA.out
        injection ho with _ h2 _
        exact absurd h2 (by decide))) ⟨rfl, rfl, rfl, by simp, fun j _ hne => setRow_other _ _ _ _ (fun e => hne (by rw [e]))⟩
      obtain ⟨W9, hW9⟩ : ∃ W9, W9 = WE.setRow W.heap.size C := ⟨_, rfl⟩
      rw [← hW9] at HR' HRr HOr HWr ⊢
      clear hW9 HA HR HO HB HW
      go_wp2_with fail
      rw [Exit.noGoto_ret]
      exact bodyPost_ret (results_cell_row Try.results32 _ _ W.heap.size 29 C (0, 0) _ rfl HR' Try.underlying29 rfl (i4 _ hz)) rfl ⟨⟨.slice A1 k c1, by rw [HX.out, HC.out], by rw [HX.out]; dsimp only; rw [hml]; exact HWr⟩, by rw [HX.out]; exact HRr, HOr⟩
end Go.Proofs.Ytfalmebgjghjeaa.Rd
/- txn.Get: the transaction of bytes; what was put is read as it was. -/
namespace Go.Proofs.Ytfalmebgjghjeaa.Rd
open Go Go.RowKit Num Texts Packet
open Msg (M7 mevs own_formN txright txright_any tB mL mB mright)

abbrev Q4 := Nat × Nat × Nat × List M7
/-- the transaction of bytes, or why they are none -/
def getT (s : ByteArray) : Q4 × Int := if (R2.mk s 0).txn.2.end' ≠ 0 then ((0, 0, 0, []), (R2.mk s 0).txn.2.end') else if txright ((R2.mk s 0).txn.1.1 : Int) ((R2.mk s 0).txn.1.2.1 : Int) (R2.mk s 0).txn.1.2.2.2 then ((R2.mk s 0).txn.1, 0) else ((0, 0, 0, []), 3)
theorem res_tget (tmps : Array Value) (w : World) (g : Nat) (C : Array Value) (n : Int) (hz : C.size = 4) (hp : tmps.getD 2 undef = .pointer (some ⟨g, 0, none⟩)) (h3 : tmps.getD 3 undef = .int .i64 n)
    (hg : w.heap[g]? = some (.cells C 29 (0, 0))) : (results Try.f19 tmps).run Try.prog w = .ok (.tuple #[.agg C, .int .i64 n]) w := by
  have hp' : tmps[2]?.getD undef = .pointer (some ⟨g, 0, none⟩) := by simpa using hp
  have h3' : tmps[3]?.getD undef = .int .i64 n := by simpa using h3
  simp [results, Try.results19, hp', h3', asAddr, run_loadVar_row w g 29 29 C (0, 0) _ hg Try.underlying29 rfl (i4 C hz)]
theorem four_one (a b c : Int) (A : Option Addr) (n k : Nat) : (#[.int .i64 a, .int .i64 b, .int .u64 c, .slice A n k] : Array Value).all (·.oneCell') = true := by
  rw [Array.all_eq_true']
  intro x hx
  simp only [List.mem_toArray, List.mem_cons, List.not_mem_nil, or_false] at hx
  rcases hx with rfl | rfl | rfl | rfl <;> rfl

set_option maxRecDepth 20000 in
set_option maxHeartbeats 4000000 in
theorem tget_any (s : ByteArray) (hs : s.size ≤ 1099511627776) (W : World) :
    Calls Try.prog 19 #[.string s] W fun e w' => (∃ v, e = .returned (.tuple #[.agg #[.int .i64 ((getT s).1.1 : Int), .int .i64 ((getT s).1.2.1 : Int), .int .u64 ((getT s).1.2.2.1 : Int), v], .int .i64 (getT s).2]) ∧ w'.ownsRow W.heap.size 43 7 v (getT s).1.2.2.2.length (mevs (getT s).1.2.2.2)) ∧ Below W.heap.size W w' := by
  have HT := Lib.hid (fun (R : Nat) (V : World) (h : Lies V R ⟨s, 0⟩) => txtake_any R ⟨s, 0⟩ hs V h)
  have hg : getT s = if (R2.mk s 0).txn.2.end' ≠ 0 then ((0, 0, 0, []), (R2.mk s 0).txn.2.end') else if txright ((R2.mk s 0).txn.1.1 : Int) ((R2.mk s 0).txn.1.2.1 : Int) (R2.mk s 0).txn.1.2.2.2 then ((R2.mk s 0).txn.1, 0) else ((0, 0, 0, []), 3) := rfl
  have hlen : (R2.mk s 0).txn.1.2.2.2.length ≤ 8 := Nat.le_trans (msgsR_len _ _) (R2.num_val _ _)
  generalize getT s = X at hg ⊢
  generalize (R2.mk s 0).txn = x at *
  obtain ⟨q, r⟩ := x
  dsimp only at hg HT hlen
  have HG := Lib.hid hg
  clear hg hs
  go_enter Try.func19, Try.ntmps19
  go_wp2_with fail
  refine (new_any s _).mono ?_
  rintro _ w1 ⟨rfl, hw⟩
  have hz1 : (W.alloc (.cells #[.int .i64 0, .int .i64 0, .int .u64 0, .slice none 0 0] 29)).heap.size = W.heap.size + 1 := by simp
  have hA : w1.heap[W.heap.size]? = some (.cells #[.int .i64 0, .int .i64 0, .int .u64 0, .slice none 0 0] 29 (0, 0)) := by rw [hw, Below.heap_alloc _ _ _ (by simp)]; exact heap_alloc_new _ _
  have hR : Lies w1 (W.heap.size + 1) ⟨s, 0⟩ := by
    rw [hw]
    have := heap_alloc_new (W.alloc (.cells #[.int .i64 0, .int .i64 0, .int .u64 0, .slice none 0 0] 29)) (.cells #[.string s, .int .i64 0] 67)
    rw [hz1] at this
    exact this
  have hB : Below W.heap.size W w1 := by rw [hw]; exact ((Below.refl _ _).alloc (Nat.le_refl _) _).alloc (by simp) _
  rw [hz1]
  clear hw hz1
  have HA := Lib.hid hA
  have HB := Lib.hid hB
  clear hA hB
  go_wp2_with fail
  refine (HT.out _ _ hR).mono ?_
  rintro _ w2 ⟨⟨v, rfl, hW2⟩, hR2, hO⟩
  have hA2 := (hO.block _ (Array.getElem?_eq_some_iff.1 HA.out).1 (by omega)).trans HA.out
  have hW2 := Msg.own_base hW2 HB.out.size
  have hB2 := Only.below HB.out hO (by omega) HB.out.size
  clear hR HA HB hO HT
  obtain ⟨A1, c1, rfl⟩ := own_formN hW2
  have HA := Lib.hid hA2
  have HB := Lib.hid hB2
  have HR2 := Lib.hid hR2
  have HW2 := Lib.hid hW2
  clear hA2 hB2 hR2 hW2
  go_upto_region 3 with fail
  obtain ⟨C, hC⟩ : ∃ C : Array Value, C = #[.int .i64 (q.1 : Int), .int .i64 (q.2.1 : Int), .int .u64 (q.2.2.1 : Int), .slice A1 q.2.2.2.length c1] := ⟨_, rfl⟩
  have hz2 := (Array.getElem?_eq_some_iff.1 HR2.out).1
  obtain ⟨W3, hW3⟩ : ∃ X, X = w2.alloc (.cells #[.int .i64 (q.1 : Int), .int .i64 (q.2.1 : Int), .int .u64 (q.2.2.1 : Int), .slice A1 q.2.2.2.length c1] 29) := ⟨_, rfl⟩
  rw [← hW3]
  have HA := Lib.hid (show W3.heap[W.heap.size]? = some (.cells #[.int .i64 0, .int .i64 0, .int .u64 0, .slice none 0 0] 29 (0, 0)) by rw [hW3]; exact (Below.heap_alloc _ _ _ (by omega)).trans HA.out)
  have HR := Lib.hid (show Lies W3 (W.heap.size + 1) r by rw [hW3]; exact (Below.heap_alloc _ _ _ (by omega)).trans HR2.out)
  have HC := Lib.hid (show W3.heap[w2.heap.size]? = some (.cells C 29 (0, 0)) by rw [hW3, hC]; exact heap_alloc_new w2 _)
  have HW := Lib.hid (show W3.ownsRow W.heap.size 43 7 (.slice A1 q.2.2.2.length c1) q.2.2.2.length (mevs q.2.2.2) by rw [hW3]; exact HW2.out.alloc _)
  have HB := Lib.hid (show Below W.heap.size W W3 by rw [hW3]; exact HB.out.alloc HB.out.size _)
  have hQ : W.heap.size + 1 < w2.heap.size := hz2
  clear hW3 HR2 HW2 hz2
  obtain ⟨Q, hQe⟩ : ∃ Q, Q = w2.heap.size := ⟨_, rfl⟩
  rw [← hQe] at HC hQ ⊢
  clear hQe
  have hz : C.size = 4 := by rw [hC]; rfl
  have ho : C.all (·.oneCell') = true := by rw [hC]; exact four_one _ _ _ _ _ _
  have HTR := Lib.hid (fun V (h : Msg.Rd V A1 q.2.2.2.length q.2.2.2) => txright_any (q.1 : Int) (q.2.1 : Int) (q.2.2.1 : Int) A1 q.2.2.2.length c1 q.2.2.2 V h (by omega))
  rw [← hC] at HTR
  have HCe := Lib.hid hC
  clear hC
  have HE := Lib.hid (end_any (W.heap.size + 1) r W3 HR.out)
  clear HR
  go_wp2_with fail
  refine HE.out.mono ?_
  rintro _ w4 ⟨rfl, hw⟩
  obtain rfl := hw.symm
  clear hw HE
  obtain ⟨e, hee⟩ : ∃ e, e = r.end' := ⟨_, rfl⟩
  rw [← hee]
  have HEe : Hid (r.end' = e) := Lib.hid hee.symm
  clear hee
  by_cases he : e = 0
  · subst he
    go_upto_region 6 with fail
    refine wp_region_lit ?_
    refine wpList_load_row rfl 29 _ rfl Q rfl 29 C (0, 0) _ HC.out Try.underlying29 rfl (i4 _ hz) ?_
    refine wpList_step (fun K hK => ?_)
    go_simp
    refine (HTR.out _ (Msg.row_at HW.out rfl)).mono ?_
    rintro _ w5 ⟨rfl, b5⟩
    have HA := Lib.hid ((b5.block _ (Array.getElem?_eq_some_iff.1 HA.out).1).trans HA.out)
    have HC := Lib.hid ((b5.block _ (Array.getElem?_eq_some_iff.1 HC.out).1).trans HC.out)
    have HW := Lib.hid (own_below HW.out b5)
    have HB := Lib.hid (HB.out.trans (b5.mono HB.out.size))
    clear b5
    refine hK _ _ ?_
    clear hK K
    cases hmr : txright (q.1 : Int) (q.2.1 : Int) q.2.2.2 with
    | true =>
      have HG2 : Hid (X = (q, 0)) := Lib.hid (by rw [HG.out, HEe.out, if_neg (by simp), if_pos hmr])
      clear HG hmr
      go_upto_region 8 with fail
      refine wp_region_lit ?_
      refine wpList_load_row rfl 29 _ rfl Q rfl 29 C (0, 0) _ HC.out Try.underlying29 rfl (i4 _ hz) ?_
      refine wpList_store_rowTo rfl 29 _ _ rfl rfl W.heap.size C rfl rfl 29 _ HA.out (i4 _ hz) (by rw [hz]; rfl) ho ?_
      have HR' := setRow_heap w5 W.heap.size _ C 29 (0, 0) HA.out
      have hB9 : Below W.heap.size W (w5.setRow W.heap.size C) := ⟨HB.out.os, HB.out.tape, HB.out.output, by simpa using HB.out.size, fun i hi => (setRow_other _ _ _ _ (by omega)).trans (HB.out.block i hi)⟩
      have HWr : (w5.setRow W.heap.size C).ownsRow W.heap.size 43 7 (.slice A1 q.2.2.2.length c1) q.2.2.2.length (mevs q.2.2.2) := Msg.own_apart HW.out (row := some W.heap.size) (.inr (fun hv => by
        obtain ⟨_, _, ho⟩ := Msg.own_blk_type HW.out hv HA.out
        injection ho with _ h2 _
        exact absurd h2 (by decide))) ⟨rfl, rfl, rfl, by simp, fun j _ hne => setRow_other _ _ _ _ (fun e => hne (by rw [e]))⟩
      obtain ⟨W9, hW9⟩ : ∃ W9, W9 = w5.setRow W.heap.size C := ⟨_, rfl⟩
      rw [← hW9] at HR' hB9 HWr ⊢
      clear hW9 HA HB HC
      go_wp2_with fail
      exact bodyPost_ret (res_tget _ _ W.heap.size C 0 hz rfl rfl HR') rfl ⟨⟨_, by rw [HG2.out, HCe.out], by rw [HG2.out]; exact HWr⟩, hB9⟩
    | false =>
      have HG2 : Hid (X = ((0, 0, 0, []), 3)) := Lib.hid (by rw [HG.out, HEe.out, if_neg (by simp), hmr, if_neg (by simp)])
      clear HG hmr
      go_upto_region 7 with fail
      refine wp_region_lit ?_
      refine wpList_step (fun K hK => ?_)
      go_simp
      refine hK _ _ ?_
      clear hK K
      refine wpList_store_rowTo rfl 29 _ _ rfl rfl W.heap.size #[.int .i64 0, .int .i64 0, .int .u64 0, .slice none 0 0] rfl rfl 29 _ HA.out (i4 _ rfl) rfl (four_one _ _ _ _ _ _) ?_
      have HR' := setRow_heap w5 W.heap.size _ #[.int .i64 0, .int .i64 0, .int .u64 0, .slice none 0 0] 29 (0, 0) HA.out
      have hB9 : Below W.heap.size W (w5.setRow W.heap.size #[.int .i64 0, .int .i64 0, .int .u64 0, .slice none 0 0]) := ⟨HB.out.os, HB.out.tape, HB.out.output, by simpa using HB.out.size, fun i hi => (setRow_other _ _ _ _ (by omega)).trans (HB.out.block i hi)⟩
      obtain ⟨W9, hW9⟩ : ∃ W9, W9 = w5.setRow W.heap.size #[.int .i64 0, .int .i64 0, .int .u64 0, .slice none 0 0] := ⟨_, rfl⟩
      rw [← hW9] at HR' hB9 ⊢
      clear hW9 HA HB HC
      go_wp2_with fail
      exact bodyPost_ret (res_tget _ _ W.heap.size #[.int .i64 0, .int .i64 0, .int .u64 0, .slice none 0 0] 3 rfl rfl rfl HR') rfl ⟨⟨.slice none 0 0, by rw [HG2.out]; rfl, by rw [HG2.out]; exact World.ownsRow_nil _ _ _ _⟩, hB9⟩
  · have he2 : (e == 0) = false := by simpa using he
    have HG2 : Hid (X = ((0, 0, 0, []), e)) := Lib.hid (by rw [HG.out, HEe.out, if_pos he])
    clear HG HTR
    go_upto_region 5 with fail
    refine wp_region_lit ?_
    refine wpList_step (fun K hK => ?_)
    go_simp
    refine hK _ _ ?_
    clear hK K
    refine wpList_step (fun K hK => ?_)
    go_simp
    refine hK _ _ ?_
    clear hK K
    refine wpList_store_rowTo rfl 29 _ _ rfl rfl W.heap.size #[.int .i64 0, .int .i64 0, .int .u64 0, .slice none 0 0] rfl rfl 29 _ HA.out (i4 _ rfl) rfl (four_one _ _ _ _ _ _) ?_
    have HR' := setRow_heap W3 W.heap.size _ #[.int .i64 0, .int .i64 0, .int .u64 0, .slice none 0 0] 29 (0, 0) HA.out
    have hB9 : Below W.heap.size W (W3.setRow W.heap.size #[.int .i64 0, .int .i64 0, .int .u64 0, .slice none 0 0]) := ⟨HB.out.os, HB.out.tape, HB.out.output, by simpa using HB.out.size, fun i hi => (setRow_other _ _ _ _ (by omega)).trans (HB.out.block i hi)⟩
    obtain ⟨W9, hW9⟩ : ∃ W9, W9 = W3.setRow W.heap.size #[.int .i64 0, .int .i64 0, .int .u64 0, .slice none 0 0] := ⟨_, rfl⟩
    rw [← hW9] at HR' hB9 ⊢
    clear hW9 HA HB HC
    go_wp2_with fail
    exact bodyPost_ret (res_tget _ _ W.heap.size #[.int .i64 0, .int .i64 0, .int .u64 0, .slice none 0 0] e rfl rfl rfl HR') rfl ⟨⟨.slice none 0 0, by rw [HG2.out]; rfl, by rw [HG2.out]; exact World.ownsRow_nil _ _ _ _⟩, hB9⟩

theorem msgs_back : ∀ (ms : List M7) (s rest : ByteArray), (∀ m ∈ ms, mright m = true ∧ m.wf) → s.data.toList = mL ms ++ rest.data.toList → msgsR ms.length ⟨s, 0⟩ = (ms, ⟨rest, 0⟩)
  | [], s, rest, _, hs => by
    have : s = rest := ext_list (by rw [hs]; rfl)
    rw [this]; rfl
  | m :: ms, s, rest, h, hs => by
    have h1 := h m (by simp)
    have hb := msg_back m h1.1 h1.2 s (mB ms ++ rest) (by rw [hs]; simp [mL, mB])
    have h2 := msgs_back ms (mB ms ++ rest) rest (fun x hx => h x (by simp [hx])) (by simp [mB])
    show (if (R2.mk s 0).msg.2.failed then ([], (R2.mk s 0).msg.2) else ((R2.mk s 0).msg.1 :: (msgsR ms.length (R2.mk s 0).msg.2).1, (msgsR ms.length (R2.mk s 0).msg.2).2)) = _
    rw [hb]
    dsimp only
    rw [R2.failed_ok, if_neg (by simp), h2]
theorem getT_back (side acc n : Int) (ms : List M7) (h : txright side acc ms = true) (hn : 0 ≤ n ∧ n < 18446744073709551616) (hw : ∀ m ∈ ms, m.wf) : getT (tB side acc n ms) = ((side.toNat, acc.toNat, n.toNat, ms), 0) := by
  obtain ⟨p1, p2, p3, p4, p5⟩ := Msg.txright_parts h
  have hk : ∀ x : Int, 0 ≤ x → x < 18446744073709551616 → kS x = numS x.toNat := fun x a b => by
    have e : kS x = numS (x.toNat % 18446744073709551616) := rfl
    rw [e, Nat.mod_eq_of_lt (by omega)]
  have e1 := hk side (by omega) (by omega)
  have e2 := hk acc (by omega) (by omega)
  have e3 := hk n hn.1 hn.2
  have e4 := hk (ms.length : Int) (by omega) (by omega)
  have l1 := num_back 1 side.toNat (tB side acc n ms) (kS acc ++ (kS n ++ (kS (ms.length : Int) ++ mB ms))) (by omega) (by omega) (by unfold tB; rw [e1]; simp)
  have l2 := num_back 4 acc.toNat (kS acc ++ (kS n ++ (kS (ms.length : Int) ++ mB ms))) (kS n ++ (kS (ms.length : Int) ++ mB ms)) (by omega) (by omega) (by rw [e2]; simp)
  have l3 := num_back 18446744073709551615 n.toNat (kS n ++ (kS (ms.length : Int) ++ mB ms)) (kS (ms.length : Int) ++ mB ms) (by omega) (by omega) (by rw [e3]; simp)
  have l4 := num_back 8 ms.length (kS (ms.length : Int) ++ mB ms) (mB ms) (by omega) (by omega) (by rw [e4]; simp)
  have l5 := msgs_back ms (mB ms) ⟨#[]⟩ (fun m hm => ⟨p5 m hm, hw m hm⟩) (by simp [mB])
  have hx : (R2.mk (tB side acc n ms) 0).txn = ((side.toNat, acc.toNat, n.toNat, ms), ⟨⟨#[]⟩, 0⟩) := by
    unfold R2.txn
    simp only [R2.num_ok l1, R2.num_ok l2, R2.num_ok l3, R2.num_ok l4, l5]
  unfold getT
  rw [hx]
  dsimp only
  rw [if_neg (fun h => h rfl), show ((side.toNat : Nat) : Int) = side by omega, show ((acc.toNat : Nat) : Int) = acc by omega, if_pos h]
end Go.Proofs.Ytfalmebgjghjeaa.Rd
