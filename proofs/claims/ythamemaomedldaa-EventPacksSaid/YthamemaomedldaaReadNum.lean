/- A reader's number: (*digit.Reader).number. -/
import Derived.Test.YthamemaomedldaaReadMath
import Derived.LoopTactic
import Derived.Laws.Rows
namespace Go.Proofs.Ythamemaomedldaa.Rd
open Go Go.RowKit Num Texts

/-- All that stood stands as it was, but block R. -/
structure Only (R : Nat) (w w' : World) : Prop where
  os : w'.os = w.os
  tape : w'.tape = w.tape
  output : w'.output = w.output
  size : w.heap.size ≤ w'.heap.size
  block : ∀ k, k < w.heap.size → k ≠ R → w'.heap[k]? = w.heap[k]?
theorem Only.refl (R : Nat) (w : World) : Only R w w := ⟨rfl, rfl, rfl, Nat.le_refl _, fun _ _ _ => rfl⟩
theorem Only.of_below {R : Nat} {w w' : World} (h : Below w.heap.size w w') : Only R w w' := ⟨h.os, h.tape, h.output, h.size, fun k hk _ => h.block k hk⟩
theorem Only.trans {R : Nat} {a b c : World} (h : Only R a b) (g : Only R b c) : Only R a c :=
  ⟨g.os.trans h.os, g.tape.trans h.tape, g.output.trans h.output, Nat.le_trans h.size g.size, fun k hk hne => (g.block k (Nat.lt_of_lt_of_le hk h.size) hne).trans (h.block k hk hne)⟩
theorem Only.set {R : Nat} {a b : World} (h : Only R a b) (i : Nat) (v : Value) : Only R a (b.setCell ⟨R, i, none⟩ v) :=
  ⟨h.os, h.tape, h.output, by simpa using h.size, fun k hk hne => (Below.heap_setCell _ _ _ _ (fun e => hne e)).trans (h.block k hk hne)⟩
theorem Only.setNew {R n : Nat} {a b : World} (h : Only R a b) (hn : a.heap.size ≤ n) (i : Nat) (v : Value) : Only R a (b.setCell ⟨n, i, none⟩ v) :=
  ⟨h.os, h.tape, h.output, by simpa using h.size, fun k hk hne => (Below.heap_setCell _ _ _ _ (fun e => by have : k = n := e; omega)).trans (h.block k hk hne)⟩
theorem Only.alloc {R : Nat} {a b : World} (h : Only R a b) (o : Obj) : Only R a (b.alloc o) :=
  ⟨h.os, h.tape, h.output, Nat.le_trans h.size (by simp), fun k hk hne => (Below.heap_alloc _ _ _ (Nat.lt_of_lt_of_le hk h.size)).trans (h.block k hk hne)⟩
theorem Only.drew {R : Nat} {a b : World} (h : Only R a b) : Only R a b.drew := ⟨h.os, h.tape, h.output, h.size, h.block⟩
theorem Only.below {B R : Nat} {a b c : World} (h : Below B a b) (g : Only R b c) (hR : B ≤ R) (hB : B ≤ b.heap.size) : Below B a c :=
  ⟨g.os.trans h.os, g.tape.trans h.tape, g.output.trans h.output, Nat.le_trans h.size g.size, fun k hk => (g.block k (Nat.lt_of_lt_of_le hk hB) (by omega)).trans (h.block k hk)⟩

theorem cell_at {w : World} {g : Nat} {cs : Array Value} {t : TypeId} (h : w.heap[g]? = some (.cells cs t (0, 0))) (i : Nat) : w.cell? ⟨g, i, none⟩ = cs[i]? := cell_of_row w g i cs t (0, 0) h
theorem free_at {w : World} {g : Nat} {cs : Array Value} {t : TypeId} (h : w.heap[g]? = some (.cells cs t (0, 0))) (i : Nat) : w.frozen? ⟨g, i, none⟩ = false := by simp [World.frozen?, h]
theorem set_at {w : World} {g : Nat} {cs : Array Value} {t : TypeId} (h : w.heap[g]? = some (.cells cs t (0, 0))) (i : Nat) (u : Value) : (w.setCell ⟨g, i, none⟩ u).heap[g]? = some (.cells (cs.setIfInBounds i u) t (0, 0)) := by
  simp [World.setCell, Array.getElem?_modify, h]
theorem set_off {w : World} {g b i : Nat} {o : Option Obj} (h : w.heap[b]? = o) (hne : b ≠ g) (u : Value) : (w.setCell ⟨g, i, none⟩ u).heap[b]? = o := by
  rw [Below.heap_setCell _ _ _ _ (fun e => hne e)]; exact h

/-- A reader lies in block R. -/
abbrev Lies (W : World) (R : Nat) (r : R2) : Prop := W.heap[R]? = some (.cells #[.string r.s, .int .i64 r.b] 70 (0, 0))

theorem byte0 (s : ByteArray) (h : 0 < s.size) : s.data.toList.getD 0 0 = s[0] := by
  rw [List.getD_eq_getElem?_getD, List.getElem?_eq_getElem (by simpa using h)]; rfl
theorem byteN (s : ByteArray) (j : Nat) (h : j < s.size) : s.data.toList.getD j 0 = s[j] := by
  rw [List.getD_eq_getElem?_getD, List.getElem?_eq_getElem (by simpa using h)]; rfl

set_option maxRecDepth 20000 in
set_option maxHeartbeats 1000000 in
theorem number_any (R : Nat) (r : R2) (m : Nat) (hm : m < 18446744073709551616) (hs : r.s.size ≤ 1099511627776) (W : World) (hR : Lies W R r) :
    Calls Try.prog 53 #[.pointer (some ⟨R, 0, none⟩), .int .u64 (m : Int)] W fun e w' => e = .returned (.tuple #[.int .u64 ((numR m r.s).1 : Int), .int .i64 (numR m r.s).2.1]) ∧ Lies w' R ⟨(numR m r.s).2.2, r.b⟩ ∧ Only R W w' := by
  obtain ⟨s, b⟩ := r
  have c0 : W.cell? ⟨R, 0, none⟩ = some (.string s) := cell_at hR 0
  have f0 := free_at hR 0
  have HR := Lib.hid hR
  clear hR
  have hs1 : (s.size : Int) ≤ 1099511627776 := by simp only at hs; omega
  dsimp only
  by_cases hz : s.size = 0
  · have hl : s.toList = [] := by rw [ByteArray.toList_eq]; exact List.eq_nil_of_length_eq_zero hz
    have hl2 : s.toList.isEmpty = true := by rw [hl]; rfl
    have hn : numR m s = (0, 2, s) := by unfold numR; rw [if_pos hz]
    rw [hn]
    clear hz hn
    go_enter Try.func53, Try.ntmps53
    go_wp2
    go_ret2
    exact ⟨rfl, HR.out, Only.refl _ _⟩
  · have hpos : 0 < s.size := by omega
    have hl : ¬ s.toList = [] := fun h => hz (by have := congrArg List.length h; rw [ByteArray.toList_eq] at this; exact this)
    have hl2 : s.toList.isEmpty = false := by cases hx : s.toList with
      | nil => exact absurd hx hl
      | cons _ _ => rfl
    have x0 : (0 : Int) < (s.size : Int) := by omega
    have x255 : ((s[0]'hpos).toNat : Int) ≤ 255 := by have := (s[0]'hpos).toNat_lt; omega
    by_cases hf : 8 < (s[0]'hpos).toNat ∨ (0 < (s[0]'hpos).toNat ∧ 1 < s.size ∧ (s.data.toList.getD 1 0).toNat = 0)
    · have hn : numR m s = (0, 3, s) := by
        unfold numR
        rw [if_neg hz]
        dsimp only
        rw [byte0 s hpos, if_pos hf]
      rw [hn]
      clear hn
      by_cases h8 : 8 < (s[0]'hpos).toNat
      · have g8 : (8 : Int) < ((s[0]'hpos).toNat : Int) := by omega
        clear hf h8
        go_enter Try.func53, Try.ntmps53
        go_wp2
        go_ret2
        exact ⟨rfl, HR.out, Only.refl _ _⟩
      · obtain ⟨h1, h2, h3⟩ := hf.resolve_left h8
        rw [byteN s 1 h2] at h3
        have g8 : ¬ (8 : Int) < ((s[0]'hpos).toNat : Int) := by omega
        have g1 : (0 : Int) < ((s[0]'hpos).toNat : Int) := by omega
        have g2 : (1 : Int) < (s.size : Int) := by omega
        have g3 : ((s[1]'h2).toNat : Int) = 0 := by omega
        clear hf h8 h1
        go_enter Try.func53, Try.ntmps53
        go_wp2
        go_ret2
        exact ⟨rfl, HR.out, Only.refl _ _⟩
    · have g8 : ¬ (8 : Int) < ((s[0]'hpos).toNat : Int) := by omega
      have hform : (s[0]'hpos).toNat = 0 ∨ s.size = 1 ∨ ∃ h : 1 < s.size, (s[1]'h).toNat ≠ 0 := by
        by_cases h0 : (s[0]'hpos).toNat = 0
        · exact .inl h0
        · by_cases h1 : 1 < s.size
          · refine .inr (.inr ⟨h1, fun h => hf (.inr ⟨by omega, h1, ?_⟩)⟩)
            rw [byteN s 1 h1]; exact h
          · exact .inr (.inl (by omega))
      by_cases hsh : s.size - 1 < (s[0]'hpos).toNat
      · have hn : numR m s = (0, 2, s) := by
          unfold numR
          rw [if_neg hz]
          dsimp only
          rw [byte0 s hpos, if_neg hf, if_pos hsh]
        rw [hn]
        have gsh : (s.size : Int) - 1 < ((s[0]'hpos).toNat : Int) := by omega
        clear hf hn
        rcases hform with h0 | h1 | ⟨h1, h2⟩
        · omega
        · have g2 : ¬ (1 : Int) < (s.size : Int) := by omega
          have g1 : (0 : Int) < ((s[0]'hpos).toNat : Int) := by omega
          clear hsh h1
          go_enter Try.func53, Try.ntmps53
          go_wp2
          go_ret2
          exact ⟨rfl, HR.out, Only.refl _ _⟩
        · have g2 : (1 : Int) < (s.size : Int) := by omega
          have g1 : (0 : Int) < ((s[0]'hpos).toNat : Int) := by omega
          have g3 : (((s[1]'h1).toNat : Int) == 0) = false := by simp; omega
          clear hsh h2
          go_enter Try.func53, Try.ntmps53
          go_wp2
          go_ret2
          exact ⟨rfl, HR.out, Only.refl _ _⟩
      · have hle : (s[0]'hpos).toNat < s.size := by omega
        have hn : numR m s = if m < val ((s.data.toList.drop 1).take (s[0]'hpos).toNat) then ((0, 5, s) : Nat × Int × ByteArray) else (val ((s.data.toList.drop 1).take (s[0]'hpos).toNat), 0, s.extract (1 + (s[0]'hpos).toNat) s.size) := by
          unfold numR
          rw [if_neg hz]
          dsimp only
          rw [byte0 s hpos, if_neg hf, if_neg hsh]
        have gsh : ((s[0]'hpos).toNat : Int) ≤ (s.size : Int) - 1 := by omega
        by_cases h0 : (s[0]'hpos).toNat = 0
        · have hn2 : numR m s = (0, 0, s.extract 1 s.size) := by
            rw [hn, h0, List.take_zero, show val [] = 0 from rfl, if_neg (Nat.not_lt_zero _)]
          have HN := Lib.hid hn2
          have k0 : ((s[0]'hpos).toNat : Int) = 0 := by omega
          have x1 : (1 : Int) ≤ (s.size : Int) := by omega
          have hm0 : ¬ (m : Int) < 0 := by omega
          clear hn hn2 hf hform hsh hle h0 g8 gsh
          go_enter Try.func53, Try.ntmps53
          go_wp2_with fail
          refine wp_loop_rounds 1 ?_
          rw [rounds_succ]
          go_wp2_with fail
          go_ret2
          exact ⟨by rw [HN.out]; rfl, by rw [HN.out]; exact set_at HR.out 0 _, (Only.refl _ _).set 0 _⟩
        · obtain ⟨h1, h2⟩ : ∃ h : 1 < s.size, (s[1]'h).toNat ≠ 0 := by
            rcases hform with h | h | h
            · exact absurd h h0
            · omega
            · exact h
          obtain ⟨k, hk⟩ : ∃ k : Nat, (s[0]'hpos).toNat = k := ⟨_, rfl⟩
          rw [hk] at hn hle
          have hk8 : k ≤ 8 := by omega
          have k0 : ((s[0]'hpos).toNat : Int) = (k : Int) := by omega
          have k1 : (k : Int) ≤ 8 := by omega
          have k2 : (0 : Int) < (k : Int) := by omega
          have k3 : (k : Int) ≤ (s.size : Int) - 1 := by omega
          have g2 : (1 : Int) < (s.size : Int) := by omega
          have g3 : (((s[1]'h1).toNat : Int) == 0) = false := by simp; omega
          have HN := Lib.hid hn
          have HK := Lib.hid (And.intro hle hk8)
          clear hn hf hform hsh hle h0 g8 gsh x255 hk hk8 h2
          go_enter Try.func53, Try.ntmps53
          go_wp2_with fail
          go_loopw [7, 8] (fun n i wr => ∃ j : Nat, 1 ≤ j ∧ j ≤ k + 1 ∧ i = .int .i64 j ∧ n = .int .u64 ((val ((s.data.toList.drop 1).take (j - 1)) : Nat) : Int) ∧ wr = W) (fun _ i _ => 10 - (intOf i).toNat)
          case atStart => exact ⟨1, by omega, by omega, rfl, rfl, rfl⟩
          case round =>
            obtain ⟨j, hj1, hj, rfl, rfl, hwr⟩ := hrel
            obtain rfl := hwr.symm
            rcases Nat.lt_or_ge k j with hge | hlt
            · have hjk : j - 1 = k := by omega
              rw [hjk]
              have j1 : ¬ (j : Int) ≤ (k : Int) := by omega
              generalize val ((s.data.toList.drop 1).take k) = n at *
              clear hjk hge hj hj1
              by_cases hmn : m < n
              · have hmi : (m : Int) < (n : Int) := by omega
                have HN2 : Hid (numR m s = (0, 5, s)) := Lib.hid (by rw [HN.out, if_pos hmn])
                clear hmn
                go_wp2
                go_ret2
                exact ⟨by rw [HN2.out]; rfl, by rw [HN2.out]; exact HR.out, Only.refl _ _⟩
              · have hmi : ¬ (m : Int) < (n : Int) := by omega
                have HN2 : Hid (numR m s = (n, 0, s.extract (1 + k) s.size)) := Lib.hid (by rw [HN.out, if_neg hmn])
                have k4 : 1 + (k : Int) ≤ (s.size : Int) := by omega
                have k5 : 1 + k ≤ s.size := by omega
                clear hmn
                go_wp2_with fail
                go_ret2
                exact ⟨by rw [HN2.out]; rfl, by rw [HN2.out]; exact set_at HR.out 0 _, (Only.refl _ _).set 0 _⟩
            · have j1 : (j : Int) ≤ (k : Int) := by omega
              have j2 : (j : Int) < (s.size : Int) := by have := HK.out.1; omega
              have hjs : j < s.size := by have := HK.out.1; omega
              have hl : j - 1 < (s.data.toList.drop 1).length := by rw [List.length_drop, Array.length_toList]; show j - 1 < s.size - 1; omega
              have hb : (s.data.toList.drop 1)[j - 1] = s[j] := by
                rw [List.getElem_drop]
                have := byteN s j hjs
                rw [List.getD_eq_getElem?_getD, List.getElem?_eq_getElem (by simpa using hjs)] at this
                simp only [Option.getD_some] at this
                rw [← this]
                congr 1
                omega
              have hnx : val ((s.data.toList.drop 1).take (j + 1 - 1)) = val ((s.data.toList.drop 1).take (j - 1)) * 256 + (s[j]'hjs).toNat := by
                rw [show j + 1 - 1 = (j - 1) + 1 by omega, List.take_succ_eq_append_getElem hl, val_snoc, hb]
              have hv : val ((s.data.toList.drop 1).take (j - 1)) < 72057594037927936 := Nat.lt_of_lt_of_le (val_lt _ 7 (by rw [List.length_take]; have := HK.out.2; omega)) (by decide)
              generalize val ((s.data.toList.drop 1).take (j - 1)) = n at *
              have hbx : (s[j]'hjs).toNat < 256 := (s[j]'hjs).toNat_lt
              have hbi : ((s[j]'hjs).toNat : Int) ≤ 255 := by omega
              have hvi : (n : Int) < 72057594037927936 := by omega
              have HNx := Lib.hid hnx
              clear hnx hb hl
              go_wp2_with fail
              have hor : bits .or .u64 ((n : Int) * 256) ((s[j]'hjs).toNat : Int) = ((n * 256 + (s[j]'hjs).toNat : Nat) : Int) := by
                rw [show (n : Int) * 256 = ((n * 256 : Nat) : Int) by omega, u64_or_nat _ _ (by omega) (by omega)]
                have := Nat.two_pow_add_eq_or_of_lt (i := 8) (b := (s[j]'hjs).toNat) (by omega) n
                rw [show 2 ^ 8 * n = n * 256 by omega] at this
                rw [this]
              rw [hor]
              exact ⟨⟨j + 1, by omega, by omega, by go_num, by rw [HNx.out], trivial⟩, by simp [intOf]; omega⟩
end Go.Proofs.Ythamemaomedldaa.Rd
