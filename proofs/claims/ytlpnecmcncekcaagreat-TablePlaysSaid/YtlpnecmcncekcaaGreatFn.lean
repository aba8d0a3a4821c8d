import Derived.Test.YtlpnecmcncekcaaGreatRows
import Derived.WalkKit
import Derived.WalkSpells
import Derived.WalkLawsBesides
import Derived.Deep.QuietTactic
import Derived.BigQuiet
import Derived.Lib.Hide
import Derived.Test.YtlpnecmcncekcaaGreatNumA
import Derived.Deep.RegionHeld3
/- The walks of fnv.More, fnv.Sum and the page's answer: each is a fold over the bytes. -/
namespace Go.Proofs.YtlpnecmcncekcaaGreat.Fnv
open Go.RowKit

def turn (h : Int) (c : UInt8) : Int := IntKind.u64.wrap (bits BinOp.xor IntKind.u64 h (IntKind.u64.wrap (c.toNat : Int)) * 1099511628211)
def fold (h : Int) (l : List UInt8) : Int := l.foldl turn h

theorem take_snoc (s : ByteArray) (k : Nat) (h : k < s.size) : s.data.toList.take (k + 1) = s.data.toList.take k ++ [s[k]] := by
  rw [List.take_succ_eq_append_getElem (by simpa using h)]; rfl

theorem fold_snoc (h : Int) (l : List UInt8) (c : UInt8) : fold h (l ++ [c]) = turn (fold h l) c := by
  unfold fold; rw [List.foldl_append]; rfl

set_option maxHeartbeats 400000 in
theorem more_any (h : Int) (s : ByteArray) (w : World) (hs : s.size ≤ maxLen) :
    Calls Tryz.prog 125 #[.int .u64 h, .string s] w fun e w' => e = .returned (.int .u64 (fold h s.data.toList)) ∧ w' = w := by
  unfold maxLen at hs
  go_enter Tryz.func125, Tryz.ntmps125
  go_wp2
  go_loop [0, 8] (fun x i => ∃ k : Nat, k ≤ s.size ∧ i = .int .i64 k ∧ x = .int .u64 (fold h (s.data.toList.take k))) (fun _ i => s.size - (intOf i).toNat)
  case atStart => exact ⟨0, Nat.zero_le _, rfl, rfl⟩
  case round =>
    obtain ⟨k, hk, rfl, rfl⟩ := hrel
    by_cases hlt : k < s.size
    · have hts := fold_snoc h (s.data.toList.take k) s[k]
      rw [← take_snoc s k hlt] at hts
      have HS := Lib.hid hts; clear hts
      go_wp2
      exact ⟨⟨k + 1, by omega, by go_num, by rw [HS.out]; rfl⟩, by simp [intOf]; omega⟩
    · go_wp2
      go_ret
      rw [List.take_of_length_le (by simp; omega)]
      exact ⟨rfl, rfl⟩
theorem sum_any (s : ByteArray) (w : World) (hs : s.size ≤ maxLen) :
    Calls Tryz.prog 111 #[.string s] w fun e w' => e = .returned (.int .u64 (fold 14695981039346656037 s.data.toList)) ∧ w' = w := by
  go_enter Tryz.func111, Tryz.ntmps111
  go_wp2_with (go_at_call 125; refine (more_any _ _ _ (by assumption)).mono ?_; rintro e w' ⟨rfl, rfl⟩)
  go_ret
  exact ⟨rfl, rfl⟩

end Go.Proofs.YtlpnecmcncekcaaGreat.Fnv
/- fnv.Key, fnv.Shard and the page's Shard. -/
namespace Go.Proofs.YtlpnecmcncekcaaGreat.Fnv
open Go.RowKit Num

/-- A key's bytes. -/
def keyH (c f : Int) (q : Int) : Int := fold 14695981039346656037 ((kS (IntKind.u64.wrap c)).data.toList ++ ((kS (IntKind.u64.wrap f)).data.toList ++ (kS q).data.toList))

/-- What holds from a struct's box on. -/
def Box3 (w : World) (x y z : Value) (W : World) : Prop :=
  w.heap.size < W.heap.size ∧ Below w.heap.size w W ∧ W.cell? ⟨w.heap.size, 0, none⟩ = some x ∧ W.cell? ⟨w.heap.size, 1, none⟩ = some y ∧ W.cell? ⟨w.heap.size, 2, none⟩ = some z
section
variable {w W w1 : World} {x y z : Value}
theorem Box3.new (w : World) (x y z : Value) (t : TypeId) : Box3 w x y z (w.alloc (.cells #[x, y, z] t)) :=
  ⟨by simp, (Below.refl _ _).alloc (Nat.le_refl _) _, by simp, by simp, by simp⟩
theorem Box3.drew (h : Box3 w x y z W) : Box3 w x y z W.drew := ⟨h.1, h.2.1.drew, h.2.2.1, h.2.2.2.1, h.2.2.2.2⟩
theorem Box3.call (h : Box3 w x y z W) (hb : Below W.heap.size W w1) : Box3 w x y z w1 :=
  ⟨Nat.lt_of_lt_of_le h.1 hb.size, h.2.1.trans (hb.mono (Nat.le_of_lt h.1)), (hb.cell h.1).trans h.2.2.1, (hb.cell h.1).trans h.2.2.2.1, (hb.cell h.1).trans h.2.2.2.2⟩
end

set_option maxRecDepth 20000 in
set_option maxHeartbeats 1000000 in
theorem key_any (c f q : Int) (h0 : 0 ≤ q) (h1 : q < 18446744073709551616) (w : World) :
    Calls Tryz.prog 80 #[.agg #[.int .i64 c, .int .i64 f, .int .u64 q]] w fun e w' => e = .returned (.int .u64 (keyH c f q)) ∧ Below w.heap.size w w' := by
  have k2 := add_run Tryz.prog
  have k3 := add_run3 Tryz.prog
  have H1 := Lib.hid h1; clear h1
  go_enter Tryz.func80, Tryz.ntmps80
  go_wp2_with fail
  go_region_held3 (fun w' => w.heap.size < w'.heap.size ∧ Below w.heap.size w w' ∧ w'.cell? ⟨w.heap.size, 0, none⟩ = some (.int .i64 c) ∧ w'.cell? ⟨w.heap.size, 1, none⟩ = some (.int .i64 f) ∧ w'.cell? ⟨w.heap.size, 2, none⟩ = some (.int .u64 q))
    (first | assumption | exact Box3.new _ _ _ _ _ | exact Box3.drew (by assumption) | exact Box3.drew (Box3.new _ _ _ _ _) | exact Box3.call (by assumption) hb1 | exact Box3.call (Box3.drew (Box3.new _ _ _ _ _)) hb1)
    (first
      | (go_at_call 112; ((with_reducible refine (num_int _ (by first | exact u64_lo _ | exact h0) (by first | exact u64_hi _ | exact H1.out) _).mono ?_); rintro e w1 ⟨rfl, hb1⟩))
      | (go_at_call 111; ((with_reducible refine (sum_any _ _ (kS_all _ _ _)).mono ?_); rintro e w1 ⟨rfl, rfl⟩)))
  go_wp2
  go_ret
  obtain ⟨_, hB, _⟩ : _ ∧ Below w.heap.size w w1 ∧ _ := by assumption
  exact ⟨rfl, hB⟩

theorem fold_lo (h : Int) (l : List UInt8) (h0 : 0 ≤ h) : 0 ≤ fold h l := by
  unfold fold
  induction l generalizing h with
  | nil => exact h0
  | cons c l ih => exact ih _ (u64_lo _)
theorem fold_hi (h : Int) (l : List UInt8) (h0 : h < 18446744073709551616) : fold h l < 18446744073709551616 := by
  unfold fold
  induction l generalizing h with
  | nil => exact h0
  | cons c l ih => exact ih _ (u64_hi _)

theorem shard_eq (c f q n : Int) (hn0 : 1 ≤ n) (hn1 : n ≤ 9223372036854775807) : wrap64 ((keyH c f q).tmod n) = keyH c f q % n := by
  have h := fold_lo 14695981039346656037 ((kS (IntKind.u64.wrap c)).data.toList ++ ((kS (IntKind.u64.wrap f)).data.toList ++ (kS q).data.toList)) (by omega)
  have e : (keyH c f q).tmod n = keyH c f q % n := Int.tmod_eq_emod_of_nonneg h
  rw [e]
  have h1 := Int.emod_nonneg (keyH c f q) (show n ≠ 0 by omega)
  have h2 := Int.emod_lt_of_pos (keyH c f q) (show 0 < n by omega)
  exact IntWalk.wrap64_in _ ⟨by omega, by omega⟩

set_option maxRecDepth 20000 in
set_option maxHeartbeats 1000000 in
theorem shard_any (c f q n : Int) (h0 : 0 ≤ q) (h1 : q < 18446744073709551616) (hn0 : 1 ≤ n) (hn1 : n ≤ 9223372036854775807) (w : World) :
    Calls Tryz.prog 49 #[.agg #[.int .i64 c, .int .i64 f, .int .u64 q], .int .i64 n] w fun e w' => e = .returned (.int .i64 (keyH c f q % n)) ∧ Below w.heap.size w w' := by
  have H1 := Lib.hid h1; clear h1
  go_enter Tryz.func49, Tryz.ntmps49
  go_wp2_with (go_at_call 80; ((with_reducible refine (key_any _ _ _ h0 H1.out _).mono ?_); rintro e w1 ⟨rfl, hb1⟩))
  go_ret
  rw [← shard_eq c f q n hn0 hn1]
  exact ⟨rfl, below_box hb1⟩

set_option maxHeartbeats 1000000 in
theorem shard_none (c f q n : Int) (hn0 : n < 1) (w : World) :
    Calls Tryz.prog 49 #[.agg #[.int .i64 c, .int .i64 f, .int .u64 q], .int .i64 n] w fun e w' => e = .returned (.int .i64 (-1)) ∧ Below w.heap.size w w' := by
  go_enter Tryz.func49, Tryz.ntmps49
  go_wp2
  go_ret
  exact ⟨rfl, (Below.refl _ _).alloc (Nat.le_refl _) _⟩

end Go.Proofs.YtlpnecmcncekcaaGreat.Fnv
