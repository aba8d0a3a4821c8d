import Derived.Test.YtlpnecmcncekcaaGreatFnvK0
import Derived.Test.YtlpnecmcncekcaaGreatNumR
/- The page's Shard. -/
namespace Go.Proofs.YtlpnecmcncekcaaGreat.Fnv
open Go.RowKit Num

set_option maxHeartbeats 400000 in
theorem ref_more_any (h : Int) (s : ByteArray) (w : World) (hs : s.size ≤ maxLen) :
    Calls Tryz.prog 36 #[.int .u64 h, .string s] w fun e w' => e = .returned (.int .u64 (fold h s.data.toList)) ∧ w' = w := by
  unfold maxLen at hs
  go_enter Tryz.func36, Tryz.ntmps36
  go_wp2
  go_loop [0, 5] (fun x i => ∃ k : Nat, k ≤ s.size ∧ i = .int .i64 k ∧ x = .int .u64 (fold h (s.data.toList.take k))) (fun _ i => s.size - (intOf i).toNat)
  case atStart => exact ⟨0, Nat.zero_le _, rfl, rfl⟩
  case round =>
    obtain ⟨k, hk, rfl, rfl⟩ := hrel
    by_cases hlt : k < s.size
    · have hts := fold_snoc h (s.data.toList.take k) s[k]
      rw [← take_snoc s k hlt] at hts
      have HS := Lib.hid hts; clear hts
      go_wp2
      exact ⟨⟨k + 1, by omega, by go_num, by rw [HS.out]; rfl⟩, by simp [intOf]; omega⟩
    · go_wp2
      go_ret
      rw [List.take_of_length_le (by simp; omega)]
      exact ⟨rfl, rfl⟩

set_option maxRecDepth 20000 in
set_option maxHeartbeats 1000000 in
theorem ref_shard_any (c f q n : Int) (h0 : 0 ≤ q) (h1 : q < 18446744073709551616) (hn0 : 1 ≤ n) (hn1 : n ≤ 9223372036854775807) (w : World) :
    Calls Tryz.prog 12 #[.agg #[.int .i64 c, .int .i64 f, .int .u64 q], .int .i64 n] w fun e w' => e = .returned (.int .i64 (keyH c f q % n)) ∧ Below w.heap.size w w' := by
  have k2 := add_run Tryz.prog
  have k3 := add_run3 Tryz.prog
  have H1 := Lib.hid h1; clear h1
  go_enter Tryz.func12, Tryz.ntmps12
  go_wp2_with fail
  go_region_held3 (fun w' => w.heap.size < w'.heap.size ∧ Below w.heap.size w w' ∧ w'.cell? ⟨w.heap.size, 0, none⟩ = some (.int .i64 c) ∧ w'.cell? ⟨w.heap.size, 1, none⟩ = some (.int .i64 f) ∧ w'.cell? ⟨w.heap.size, 2, none⟩ = some (.int .u64 q))
    (first | assumption | exact Box3.new _ _ _ _ _ | exact Box3.drew (by assumption) | exact Box3.drew (Box3.new _ _ _ _ _) | exact Box3.call (by assumption) hb1 | exact Box3.call (Box3.drew (Box3.new _ _ _ _ _)) hb1)
    (first
      | (go_at_call 35; ((with_reducible refine (ref_num_int _ (by first | exact u64_lo _ | exact h0) (by first | exact u64_hi _ | exact H1.out) _).mono ?_); rintro e w1 ⟨rfl, hb1⟩)))
  go_wp2_with (go_at_call 36; ((with_reducible refine (ref_more_any _ _ _ (kS_all _ _ _)).mono ?_); rintro e w2 ⟨rfl, rfl⟩))
  go_ret
  obtain ⟨_, hB, _⟩ : _ ∧ Below w.heap.size w w2 ∧ _ := by assumption
  rw [← shard_eq c f q n hn0 hn1]
  exact ⟨rfl, hB⟩
end Go.Proofs.YtlpnecmcncekcaaGreat.Fnv
