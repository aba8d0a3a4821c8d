import Derived.Test.YtlpnecmcncekcaaGreatNumA
import Derived.Test.YtlpnecmcncekcaaGreatFn
/- The page's Num: the bytes of a number. -/
namespace Go.Proofs.YtlpnecmcncekcaaGreat.Num
open Go.RowKit

theorem u8_one (l : List Int) : ∀ u ∈ vals l, u.oneCell' = true := by
  intro u hu; simp only [vals, List.mem_map] at hu; obtain ⟨x, _, rfl⟩ := hu; rfl

set_option maxRecDepth 20000 in
set_option maxHeartbeats 400000 in
theorem ref_num_any (n : Nat) (hn : n < 18446744073709551616) (w : World) :
    Calls Tryz.prog 35 #[.int .u64 (n : Int)] w fun e w' => e = .returned (.string (numS n)) ∧ Below w.heap.size w w' := by
  obtain ⟨i0, hi, hz0, hz1, hz2⟩ := info_parts info5
  have HL : Hid ((dig n).length ≤ 8) := Lib.hid (dig_len (by simpa using hn))
  have HN := Lib.hid hn
  clear hn
  go_enter Tryz.func35, Tryz.ntmps35
  go_wp2
  go_loopw [0, 3] (fun x v wr => ∃ (m : Nat) (B : List Int), x = .int .u64 (m : Int) ∧ Hid (dig n = dig m ++ B ∧ m ≤ n) ∧ wr.ownsRow w.heap.size 5 1 v B.length (vals B) ∧ Below w.heap.size w wr)
    (fun x _ _ => (intOf x).toNat)
  case atStart => exact ⟨n, [], rfl, Lib.hid ⟨by simp, Nat.le_refl _⟩, World.ownsRow_nil _ _ _ _, Below.refl _ _⟩
  case round =>
    obtain ⟨m, B, rfl, HD, hown, hb⟩ := hrel
    obtain ⟨A, c, rfl⟩ := own_form hown
    have hsz := hb.size
    have hlen : B.length ≤ 8 := by have h1 := congrArg List.length HD.out.1; have h2 := HL.out; simp at h1; omega
    by_cases hz : 0 < m
    · have hm : (0 : Int) < (m : Int) := by omega
      have hnew : (wr.alloc (.cells #[.int .u8 ((m : Int) % 256)] 5)).ownsRow w.heap.size 5 1 (.slice (some ⟨wr.heap.size, 0, none⟩) 1 1) 1 (vals [(m : Int) % 256]) := World.ownsRow_lit _ _ 1 hsz (by decide) rfl
      go_wp2_with (at_builtin; refine wpList_append_rows rfl _ _ 105 rfl w.heap.size w.heap.size 5 i0 (.int .u8 0) 1 1 Tryz.underlying105 hi hz0 hz1 hz2 rfl (by decide) (.slice (some ⟨wr.heap.size, 0, none⟩) 1 1) 1 (vals [(m : Int) % 256]) rfl hnew _ _ _ rfl (hown.alloc _) (u8_one _) (by unfold maxLen; omega) (by omega) (by simp; omega) ?_; intro v1 w1 hown1 hg1)
      have hw : IntKind.u64.wrap ((m : Int) / 256) = ((m / 256 : Nat) : Int) := by
        have h1 := HD.out.2; have h2 := HN.out
        rw [IntWalk.u64_in _ ⟨by omega, by omega⟩]; rfl
      rw [hw]
      refine ⟨⟨m / 256, ((m : Int) % 256) :: B, rfl, Lib.hid ⟨?_, by have := HD.out.2; omega⟩, ?_, (hb.alloc hsz _).grown hg1 (by simp; omega) (own_ge hnew)⟩, by simp [intOf]; omega⟩
      · have h1 := HD.out.1; rw [dig_pos (m := m) (by omega)] at h1; rw [h1]; simp
      · rw [List.length_cons, Nat.add_comm]; exact hown1
    · have hm : m = 0 := by omega
      subst hm
      have hD := HD.out.1
      rw [dig_zero, List.nil_append] at hD
      subst hD
      have h1 := one_text wr ((dig n).length : Int)
      have h2 := own_text (hown.alloc (.cells #[.int .u8 ((dig n).length : Int)] 5))
      have h3 : (strOfNums [((dig n).length : Int)]).size + (strOfNums (dig n)).size ≤ 9223372036854775807 := by
        rw [strOfNums_size, strOfNums_size, List.length_singleton]; omega
      go_wp2
      go_ret
      exact ⟨rfl, hb.alloc hb.size _⟩
end Go.Proofs.YtlpnecmcncekcaaGreat.Num
/- The page's Num, of whole numbers as the walk has them. -/
namespace Go.Proofs.YtlpnecmcncekcaaGreat.Num
open Go.RowKit

theorem ref_num_int (x : Int) (h0 : 0 ≤ x) (h1 : x < 18446744073709551616) (w : World) :
    Calls Tryz.prog 35 #[.int .u64 x] w fun e w' => e = .returned (.string (kS x)) ∧ Below w.heap.size w w' := by
  obtain ⟨n, rfl⟩ := Int.eq_ofNat_of_zero_le h0
  unfold kS
  rw [Int.toNat_natCast, Nat.mod_eq_of_lt (by omega)]
  exact ref_num_any n (by omega) w

end Go.Proofs.YtlpnecmcncekcaaGreat.Num
/- The page's Shard. -/
namespace Go.Proofs.YtlpnecmcncekcaaGreat.Fnv
open Go.RowKit Num

set_option maxHeartbeats 400000 in
theorem ref_more_any (h : Int) (s : ByteArray) (w : World) (hs : s.size ≤ maxLen) :
    Calls Tryz.prog 36 #[.int .u64 h, .string s] w fun e w' => e = .returned (.int .u64 (fold h s.data.toList)) ∧ w' = w := by
  unfold maxLen at hs
  go_enter Tryz.func36, Tryz.ntmps36
  go_wp2
  go_loop [0, 5] (fun x i => ∃ k : Nat, k ≤ s.size ∧ i = .int .i64 k ∧ x = .int .u64 (fold h (s.data.toList.take k))) (fun _ i => s.size - (intOf i).toNat)
  case atStart => exact ⟨0, Nat.zero_le _, rfl, rfl⟩
  case round =>
    obtain ⟨k, hk, rfl, rfl⟩ := hrel
    by_cases hlt : k < s.size
    · have hts := fold_snoc h (s.data.toList.take k) s[k]
      rw [← take_snoc s k hlt] at hts
      have HS := Lib.hid hts; clear hts
      go_wp2
      exact ⟨⟨k + 1, by omega, by go_num, by rw [HS.out]; rfl⟩, by simp [intOf]; omega⟩
    · go_wp2
      go_ret
      rw [List.take_of_length_le (by simp; omega)]
      exact ⟨rfl, rfl⟩

set_option maxRecDepth 20000 in
set_option maxHeartbeats 1000000 in
theorem ref_shard_any (c f q n : Int) (h0 : 0 ≤ q) (h1 : q < 18446744073709551616) (hn0 : 1 ≤ n) (hn1 : n ≤ 9223372036854775807) (w : World) :
    Calls Tryz.prog 12 #[.agg #[.int .i64 c, .int .i64 f, .int .u64 q], .int .i64 n] w fun e w' => e = .returned (.int .i64 (keyH c f q % n)) ∧ Below w.heap.size w w' := by
  have k2 := add_run Tryz.prog
  have k3 := add_run3 Tryz.prog
  have H1 := Lib.hid h1; clear h1
  go_enter Tryz.func12, Tryz.ntmps12
  go_wp2_with fail
  go_region_held3 (fun w' => w.heap.size < w'.heap.size ∧ Below w.heap.size w w' ∧ w'.cell? ⟨w.heap.size, 0, none⟩ = some (.int .i64 c) ∧ w'.cell? ⟨w.heap.size, 1, none⟩ = some (.int .i64 f) ∧ w'.cell? ⟨w.heap.size, 2, none⟩ = some (.int .u64 q))
    (first | assumption | exact Box3.new _ _ _ _ _ | exact Box3.drew (by assumption) | exact Box3.drew (Box3.new _ _ _ _ _) | exact Box3.call (by assumption) hb1 | exact Box3.call (Box3.drew (Box3.new _ _ _ _ _)) hb1)
    (first
      | (go_at_call 35; ((with_reducible refine (ref_num_int _ (by first | exact u64_lo _ | exact h0) (by first | exact u64_hi _ | exact H1.out) _).mono ?_); rintro e w1 ⟨rfl, hb1⟩)))
  go_wp2_with (go_at_call 36; ((with_reducible refine (ref_more_any _ _ _ (kS_all _ _ _)).mono ?_); rintro e w2 ⟨rfl, rfl⟩))
  go_ret
  obtain ⟨_, hB, _⟩ : _ ∧ Below w.heap.size w w2 ∧ _ := by assumption
  rw [← shard_eq c f q n hn0 hn1]
  exact ⟨rfl, hB⟩
end Go.Proofs.YtlpnecmcncekcaaGreat.Fnv
