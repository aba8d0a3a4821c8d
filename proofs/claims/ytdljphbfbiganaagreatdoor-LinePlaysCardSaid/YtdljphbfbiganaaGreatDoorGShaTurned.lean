import Derived.Test.YtdljphbfbiganaaGreatDoorGShaMath
import Derived.LoopTactic
import Derived.Deep.QuietTactic
import Derived.Deep.AppendLies
import Derived.Below
import Derived.Test.YtdljphbfbiganaaGreatDoorTk
import Derived.Test.YtdljphbfbiganaaGreatDoorShaTurn
import Derived.Test.YtdljphbfbiganaaGreatDoorGCommon
import Derived.Great.Walk
import Derived.Deep.RegionHeld3
/- A word turned, by the page: muleteerref02.power, turned at each number that it is handed. -/
namespace Go.Proofs.YtdljphbfbiganaaGreatDoor.Sha
open Go.RowKit

set_option maxHeartbeats 400000 in
theorem power_nat (n : Nat) (hn : n ≤ 31) (w : World) : Calls Tryz.prog 78 #[.int .i64 n] w fun e w' => e = .returned (.int .u32 ((2 ^ n : Nat) : Int)) ∧ w' = w := by
  go_enter Tryz.func78, Tryz.ntmps78
  go_wp2
  go_loop [3, 4] (fun x i => ∃ k : Nat, k ≤ n ∧ i = .int .i64 k ∧ x = .int .u32 ((2 ^ k : Nat) : Int)) (fun _ i => n - (intOf i).toNat)
  case atStart => exact ⟨0, Nat.zero_le _, rfl, rfl⟩
  case round =>
    obtain ⟨k, hk, rfl, rfl⟩ := hrel
    by_cases hlt : k < n
    · have hb : 2 ^ k ≤ 1073741824 := Nat.pow_le_pow_right (n := 2) (by decide) (show k ≤ 30 by omega)
      have hs : 2 ^ (k + 1) = 2 ^ k * 2 := Nat.pow_succ 2 k
      have HS := Lib.hid hs; clear hs
      obtain ⟨q, hq⟩ : ∃ q : Nat, q = 2 ^ k := ⟨_, rfl⟩
      rw [← hq] at hb ⊢
      have HQ := Lib.hid hq; clear hq
      go_wp2
      exact ⟨⟨k + 1, by omega, by go_num, by rw [HS.out, ← HQ.out]; go_num⟩, by simp [intOf]; omega⟩
    · have hkn : k = n := by omega
      subst hkn
      go_wp2
      go_ret
      exact ⟨rfl, rfl⟩
theorem power_any (n : Nat) (hn : n ≤ 31) (m : Int) (hm : m = n) (p : Int) (hp : p = ((2 ^ n : Nat) : Int)) (w : World) : Calls Tryz.prog 78 #[.int .i64 m] w fun e w' => e = .returned (.int .u32 p) ∧ w' = w := by
  subst hm hp
  exact power_nat n hn w

theorem rot_page (x : W) (n : Nat) (hn : n ≤ 32) (p q : Int) (hp : p = ((2 ^ n : Nat) : Int)) (hq : q = ((2 ^ (32 - n) : Nat) : Int)) :
    (x.toNat : Int) / p + (x.toNat : Int) % p * q = ((rot x n).toNat : Int) := by
  subst hp hq
  rw [rot_nat x n hn]
  rfl
theorem power_2 (w : World) : Calls Tryz.prog 78 #[.int .i64 2] w fun e w_ => e = .returned (.int .u32 4) ∧ w_ = w := power_any 2 (by decide) _ rfl 4 rfl w
theorem power_6 (w : World) : Calls Tryz.prog 78 #[.int .i64 6] w fun e w_ => e = .returned (.int .u32 64) ∧ w_ = w := power_any 6 (by decide) _ rfl 64 rfl w
theorem power_7 (w : World) : Calls Tryz.prog 78 #[.int .i64 7] w fun e w_ => e = .returned (.int .u32 128) ∧ w_ = w := power_any 7 (by decide) _ rfl 128 rfl w
theorem power_10 (w : World) : Calls Tryz.prog 78 #[.int .i64 10] w fun e w_ => e = .returned (.int .u32 1024) ∧ w_ = w := power_any 10 (by decide) _ rfl 1024 rfl w
theorem power_11 (w : World) : Calls Tryz.prog 78 #[.int .i64 11] w fun e w_ => e = .returned (.int .u32 2048) ∧ w_ = w := power_any 11 (by decide) _ rfl 2048 rfl w
theorem power_13 (w : World) : Calls Tryz.prog 78 #[.int .i64 13] w fun e w_ => e = .returned (.int .u32 8192) ∧ w_ = w := power_any 13 (by decide) _ rfl 8192 rfl w
theorem power_14 (w : World) : Calls Tryz.prog 78 #[.int .i64 14] w fun e w_ => e = .returned (.int .u32 16384) ∧ w_ = w := power_any 14 (by decide) _ rfl 16384 rfl w
theorem power_15 (w : World) : Calls Tryz.prog 78 #[.int .i64 15] w fun e w_ => e = .returned (.int .u32 32768) ∧ w_ = w := power_any 15 (by decide) _ rfl 32768 rfl w
theorem power_17 (w : World) : Calls Tryz.prog 78 #[.int .i64 17] w fun e w_ => e = .returned (.int .u32 131072) ∧ w_ = w := power_any 17 (by decide) _ rfl 131072 rfl w
theorem power_18 (w : World) : Calls Tryz.prog 78 #[.int .i64 18] w fun e w_ => e = .returned (.int .u32 262144) ∧ w_ = w := power_any 18 (by decide) _ rfl 262144 rfl w
theorem power_19 (w : World) : Calls Tryz.prog 78 #[.int .i64 19] w fun e w_ => e = .returned (.int .u32 524288) ∧ w_ = w := power_any 19 (by decide) _ rfl 524288 rfl w
theorem power_21 (w : World) : Calls Tryz.prog 78 #[.int .i64 21] w fun e w_ => e = .returned (.int .u32 2097152) ∧ w_ = w := power_any 21 (by decide) _ rfl 2097152 rfl w
theorem power_22 (w : World) : Calls Tryz.prog 78 #[.int .i64 22] w fun e w_ => e = .returned (.int .u32 4194304) ∧ w_ = w := power_any 22 (by decide) _ rfl 4194304 rfl w
theorem power_25 (w : World) : Calls Tryz.prog 78 #[.int .i64 25] w fun e w_ => e = .returned (.int .u32 33554432) ∧ w_ = w := power_any 25 (by decide) _ rfl 33554432 rfl w
theorem power_26 (w : World) : Calls Tryz.prog 78 #[.int .i64 26] w fun e w_ => e = .returned (.int .u32 67108864) ∧ w_ = w := power_any 26 (by decide) _ rfl 67108864 rfl w
theorem power_30 (w : World) : Calls Tryz.prog 78 #[.int .i64 30] w fun e w_ => e = .returned (.int .u32 1073741824) ∧ w_ = w := power_any 30 (by decide) _ rfl 1073741824 rfl w

set_option maxHeartbeats 400000 in
theorem turned_2 (x : W) (w : World) : Calls Tryz.prog 66 #[.int .u32 (x.toNat : Int), .int .i64 2] w fun e w' => e = .returned (.int .u32 ((rot x 2).toNat : Int)) ∧ ∃ k, w' = w.drewN k := by
  have hx := lt32 x
  have h := rot_page x 2 (by decide) 4 1073741824 rfl rfl
  have H := Lib.hid h; clear h
  have hs : IntKind.i64.wrap (32 - 2) = 30 := by decide
  go_enter Tryz.func66, Tryz.ntmps66
  go_wp2_with fail
  go_quiet ((go_at_call 78; first | with_reducible exact Calls.quiet_of_same (power_2 _) | with_reducible exact Calls.quiet_of_same (power_30 _)))
  go_wp2_with fail
  go_ret
  exact ⟨congrArg (fun n => Ending.returned (.int .u32 n)) H.out, _, rfl⟩

set_option maxHeartbeats 400000 in
theorem turned_6 (x : W) (w : World) : Calls Tryz.prog 66 #[.int .u32 (x.toNat : Int), .int .i64 6] w fun e w' => e = .returned (.int .u32 ((rot x 6).toNat : Int)) ∧ ∃ k, w' = w.drewN k := by
  have hx := lt32 x
  have h := rot_page x 6 (by decide) 64 67108864 rfl rfl
  have H := Lib.hid h; clear h
  have hs : IntKind.i64.wrap (32 - 6) = 26 := by decide
  go_enter Tryz.func66, Tryz.ntmps66
  go_wp2_with fail
  go_quiet ((go_at_call 78; first | with_reducible exact Calls.quiet_of_same (power_6 _) | with_reducible exact Calls.quiet_of_same (power_26 _)))
  go_wp2_with fail
  go_ret
  exact ⟨congrArg (fun n => Ending.returned (.int .u32 n)) H.out, _, rfl⟩

set_option maxHeartbeats 400000 in
theorem turned_7 (x : W) (w : World) : Calls Tryz.prog 66 #[.int .u32 (x.toNat : Int), .int .i64 7] w fun e w' => e = .returned (.int .u32 ((rot x 7).toNat : Int)) ∧ ∃ k, w' = w.drewN k := by
  have hx := lt32 x
  have h := rot_page x 7 (by decide) 128 33554432 rfl rfl
  have H := Lib.hid h; clear h
  have hs : IntKind.i64.wrap (32 - 7) = 25 := by decide
  go_enter Tryz.func66, Tryz.ntmps66
  go_wp2_with fail
  go_quiet ((go_at_call 78; first | with_reducible exact Calls.quiet_of_same (power_7 _) | with_reducible exact Calls.quiet_of_same (power_25 _)))
  go_wp2_with fail
  go_ret
  exact ⟨congrArg (fun n => Ending.returned (.int .u32 n)) H.out, _, rfl⟩

set_option maxHeartbeats 400000 in
theorem turned_11 (x : W) (w : World) : Calls Tryz.prog 66 #[.int .u32 (x.toNat : Int), .int .i64 11] w fun e w' => e = .returned (.int .u32 ((rot x 11).toNat : Int)) ∧ ∃ k, w' = w.drewN k := by
  have hx := lt32 x
  have h := rot_page x 11 (by decide) 2048 2097152 rfl rfl
  have H := Lib.hid h; clear h
  have hs : IntKind.i64.wrap (32 - 11) = 21 := by decide
  go_enter Tryz.func66, Tryz.ntmps66
  go_wp2_with fail
  go_quiet ((go_at_call 78; first | with_reducible exact Calls.quiet_of_same (power_11 _) | with_reducible exact Calls.quiet_of_same (power_21 _)))
  go_wp2_with fail
  go_ret
  exact ⟨congrArg (fun n => Ending.returned (.int .u32 n)) H.out, _, rfl⟩

set_option maxHeartbeats 400000 in
theorem turned_13 (x : W) (w : World) : Calls Tryz.prog 66 #[.int .u32 (x.toNat : Int), .int .i64 13] w fun e w' => e = .returned (.int .u32 ((rot x 13).toNat : Int)) ∧ ∃ k, w' = w.drewN k := by
  have hx := lt32 x
  have h := rot_page x 13 (by decide) 8192 524288 rfl rfl
  have H := Lib.hid h; clear h
  have hs : IntKind.i64.wrap (32 - 13) = 19 := by decide
  go_enter Tryz.func66, Tryz.ntmps66
  go_wp2_with fail
  go_quiet ((go_at_call 78; first | with_reducible exact Calls.quiet_of_same (power_13 _) | with_reducible exact Calls.quiet_of_same (power_19 _)))
  go_wp2_with fail
  go_ret
  exact ⟨congrArg (fun n => Ending.returned (.int .u32 n)) H.out, _, rfl⟩

set_option maxHeartbeats 400000 in
theorem turned_17 (x : W) (w : World) : Calls Tryz.prog 66 #[.int .u32 (x.toNat : Int), .int .i64 17] w fun e w' => e = .returned (.int .u32 ((rot x 17).toNat : Int)) ∧ ∃ k, w' = w.drewN k := by
  have hx := lt32 x
  have h := rot_page x 17 (by decide) 131072 32768 rfl rfl
  have H := Lib.hid h; clear h
  have hs : IntKind.i64.wrap (32 - 17) = 15 := by decide
  go_enter Tryz.func66, Tryz.ntmps66
  go_wp2_with fail
  go_quiet ((go_at_call 78; first | with_reducible exact Calls.quiet_of_same (power_17 _) | with_reducible exact Calls.quiet_of_same (power_15 _)))
  go_wp2_with fail
  go_ret
  exact ⟨congrArg (fun n => Ending.returned (.int .u32 n)) H.out, _, rfl⟩

set_option maxHeartbeats 400000 in
theorem turned_18 (x : W) (w : World) : Calls Tryz.prog 66 #[.int .u32 (x.toNat : Int), .int .i64 18] w fun e w' => e = .returned (.int .u32 ((rot x 18).toNat : Int)) ∧ ∃ k, w' = w.drewN k := by
  have hx := lt32 x
  have h := rot_page x 18 (by decide) 262144 16384 rfl rfl
  have H := Lib.hid h; clear h
  have hs : IntKind.i64.wrap (32 - 18) = 14 := by decide
  go_enter Tryz.func66, Tryz.ntmps66
  go_wp2_with fail
  go_quiet ((go_at_call 78; first | with_reducible exact Calls.quiet_of_same (power_18 _) | with_reducible exact Calls.quiet_of_same (power_14 _)))
  go_wp2_with fail
  go_ret
  exact ⟨congrArg (fun n => Ending.returned (.int .u32 n)) H.out, _, rfl⟩

set_option maxHeartbeats 400000 in
theorem turned_19 (x : W) (w : World) : Calls Tryz.prog 66 #[.int .u32 (x.toNat : Int), .int .i64 19] w fun e w' => e = .returned (.int .u32 ((rot x 19).toNat : Int)) ∧ ∃ k, w' = w.drewN k := by
  have hx := lt32 x
  have h := rot_page x 19 (by decide) 524288 8192 rfl rfl
  have H := Lib.hid h; clear h
  have hs : IntKind.i64.wrap (32 - 19) = 13 := by decide
  go_enter Tryz.func66, Tryz.ntmps66
  go_wp2_with fail
  go_quiet ((go_at_call 78; first | with_reducible exact Calls.quiet_of_same (power_19 _) | with_reducible exact Calls.quiet_of_same (power_13 _)))
  go_wp2_with fail
  go_ret
  exact ⟨congrArg (fun n => Ending.returned (.int .u32 n)) H.out, _, rfl⟩

set_option maxHeartbeats 400000 in
theorem turned_22 (x : W) (w : World) : Calls Tryz.prog 66 #[.int .u32 (x.toNat : Int), .int .i64 22] w fun e w' => e = .returned (.int .u32 ((rot x 22).toNat : Int)) ∧ ∃ k, w' = w.drewN k := by
  have hx := lt32 x
  have h := rot_page x 22 (by decide) 4194304 1024 rfl rfl
  have H := Lib.hid h; clear h
  have hs : IntKind.i64.wrap (32 - 22) = 10 := by decide
  go_enter Tryz.func66, Tryz.ntmps66
  go_wp2_with fail
  go_quiet ((go_at_call 78; first | with_reducible exact Calls.quiet_of_same (power_22 _) | with_reducible exact Calls.quiet_of_same (power_10 _)))
  go_wp2_with fail
  go_ret
  exact ⟨congrArg (fun n => Ending.returned (.int .u32 n)) H.out, _, rfl⟩

set_option maxHeartbeats 400000 in
theorem turned_25 (x : W) (w : World) : Calls Tryz.prog 66 #[.int .u32 (x.toNat : Int), .int .i64 25] w fun e w' => e = .returned (.int .u32 ((rot x 25).toNat : Int)) ∧ ∃ k, w' = w.drewN k := by
  have hx := lt32 x
  have h := rot_page x 25 (by decide) 33554432 128 rfl rfl
  have H := Lib.hid h; clear h
  have hs : IntKind.i64.wrap (32 - 25) = 7 := by decide
  go_enter Tryz.func66, Tryz.ntmps66
  go_wp2_with fail
  go_quiet ((go_at_call 78; first | with_reducible exact Calls.quiet_of_same (power_25 _) | with_reducible exact Calls.quiet_of_same (power_7 _)))
  go_wp2_with fail
  go_ret
  exact ⟨congrArg (fun n => Ending.returned (.int .u32 n)) H.out, _, rfl⟩

theorem turned_any (x : W) (n : Int) (w : World) (h : n = 2 ∨ n = 6 ∨ n = 7 ∨ n = 11 ∨ n = 13 ∨ n = 17 ∨ n = 18 ∨ n = 19 ∨ n = 22 ∨ n = 25) : Calls Tryz.prog 66 #[.int .u32 (x.toNat : Int), .int .i64 n] w fun e w' => e = .returned (.int .u32 ((rot x n.toNat).toNat : Int)) ∧ ∃ k, w' = w.drewN k := by
  rcases h with rfl | rfl | rfl | rfl | rfl | rfl | rfl | rfl | rfl | rfl
  · exact turned_2 x w
  · exact turned_6 x w
  · exact turned_7 x w
  · exact turned_11 x w
  · exact turned_13 x w
  · exact turned_17 x w
  · exact turned_18 x w
  · exact turned_19 x w
  · exact turned_22 x w
  · exact turned_25 x w
end Go.Proofs.YtdljphbfbiganaaGreatDoor.Sha
/- append onto a row of the call's own: what it owned ahead it still owns behind (the new slice may lie elsewhere); the form for a step of a region that draws its order. -/
namespace Go.Proofs.YtdljphbfbiganaaGreatDoor
open Go Go.RowKit
section
variable {P : Program} (w : World)

theorem run_append_keep (t ty : TypeId) (base : Nat) (e : TypeId) (i : TypeInfo) (z : Value) (size bytes : Nat) (ht : P.underlying t = some (.slice e)) (hi : P.info? e = some i) (hz : i.zero = some z)
    (hsize : i.size = size) (hby : i.bytes = bytes) (hzs : z.cells.size = size) (hsz : 0 < size)
    (v : Value) (n : Nat) (xs : List Value) (hown : w.ownsRow base e size v n xs)
    (ad : Addr) (m c : Nat) (news : List Value) (hl : news.length = m * size) (hnews : ∀ j u, news[j]? = some u → w.cell? (ad.add j) = some u) (h1 : ∀ u ∈ news, u.oneCell' = true)
    (hm : 0 < m) (h63 : n + m ≤ maxLen) (hbytes : (n + m) * bytes ≤ 140737488355328) (hbase : base ≤ w.heap.size) (H : Nat) (hH : w.heap.size = H) :
    ∃ g cap w', (Builtin.append_ #[t, t] ty #[v, .slice (some ad) m c]).run P w = .ok (.slice (some ⟨g, 0, none⟩) (n + m) cap) w' ∧
      w'.ownsRow base e size (.slice (some ⟨g, 0, none⟩) (n + m) cap) (n + m) (xs ++ news) ∧ w.grownBy w' v.ownBlock ∧ (v.ownBlock = some g ∨ g = H) ∧ w'.ownsRow base e size v n xs := by
  obtain ⟨g, cap, w', hr, h2, h3, h4, _⟩ := run_append_lies (P := P) w t ty base e i z size bytes ht hi hz hsize hby hzs hsz v n xs hown ad m c news hl hnews h1 hm h63 hbytes hbase H hH
  refine ⟨g, cap, w', hr, h2, h3, h4, ?_⟩
  rcases hown.2 with ⟨rfl, rfl⟩ | ⟨g0, cap0, cur, rfl, hbg, hg, hnc, hcm, hcs, htake⟩
  · exact ⟨hown.1, .inl ⟨rfl, rfl⟩⟩
  · have hx : xs.length = n * size := hown.1
    by_cases hroom : n + m ≤ cap0
    · have hfit : n * i.size + news.length ≤ cur.size := by rw [hl, hcs, hsize, ← Nat.add_mul]; exact Nat.mul_le_mul_right _ hroom
      have hr2 := run_append_room (P := P) w t ty e i ht hi g0 n cap0 cur hg ad m c news (by rw [hsize]; exact hl) hnews h1 hroom hfit
      rw [hr] at hr2
      injection hr2 with _ hw
      subst hw
      refine ⟨hx, .inr ⟨g0, cap0, _, rfl, hbg, setRow_heap w g0 cur _ e _ hg, hnc, hcm, ?_, ?_⟩⟩
      · rw [hsize] at hfit
        simp only [List.size_toArray, List.length_append, List.length_take, List.length_drop, Array.length_toList, hsize]
        omega
      · simp only [hsize]
        rw [List.append_assoc, List.take_append_of_le_length (by rw [List.length_take, Array.length_toList, hcs]; rw [Nat.min_eq_left (Nat.mul_le_mul_right _ hnc)]; exact Nat.le_refl _), List.take_take, Nat.min_self]
        exact htake
    · have holds : ∀ j u, xs[j]? = some u → w.cell? ((⟨g0, 0, none⟩ : Addr).add j) = some u := hown.cells (g := g0) rfl
      have h63' : ((n + m : Nat) : Int) ≤ 9223372036854775807 := by simp only [maxLen] at h63; omega
      have hr2 := run_append_grow (P := P) w t ty e i z ht hi hz ⟨g0, 0, none⟩ n cap0 xs (by rw [hsize]; exact hx) holds ad m c news (by rw [hsize]; exact hl) hnews (by omega) h63' (by rw [hby]; exact growslice_fits (by omega) hbytes)
      rw [hr] at hr2
      injection hr2 with _ hw
      subst hw
      exact (World.ownsRow.alloc (w := w.drew) hown _)

/-- At a step of a region that draws its order. -/
theorem step_append_keep {ops : Array Oper} {o : Oper} {a : Act} {K : Act → World → Prop} {Q : Exit → Act → World → Prop} {E : Prop} (hgd : o.guard = none) (s x : Operand) (t : TypeId)
    (ho : o.op = .call { callee := .builtin .append, args := #[s, x], argTypes := #[t, t] })
    (base : Nat) (e : TypeId) (i : TypeInfo) (z : Value) (size bytes : Nat) (ht : P.underlying t = some (.slice e)) (hi : P.info? e = some i) (hz : i.zero = some z)
    (hsize : i.size = size) (hby : i.bytes = bytes) (hzs : z.cells.size = size) (hsz : 0 < size)
    (v : Value) (n : Nat) (xs : List Value) (hs : a.eval s = v) (hown : w.ownsRow base e size v n xs)
    (ad : Addr) (m c : Nat) (news : List Value) (hx : a.eval x = .slice (some ad) m c) (hl : news.length = m * size) (hnews : ∀ j u, news[j]? = some u → w.cell? (ad.add j) = some u) (h1 : ∀ u ∈ news, u.oneCell' = true)
    (hm : 0 < m) (h63 : n + m ≤ maxLen) (hbytes : (n + m) * bytes ≤ 140737488355328) (hbase : base ≤ w.heap.size) (H : Nat) (hH : w.heap.size = H)
    (h : ∀ g cap w', w'.ownsRow base e size (.slice (some ⟨g, 0, none⟩) (n + m) cap) (n + m) (xs ++ news) → w.grownBy w' v.ownBlock → (v.ownBlock = some g ∨ g = H) → w'.ownsRow base e size v n xs → K (a.put o.dst (.slice (some ⟨g, 0, none⟩) (n + m) cap)) w') :
    if Region.wanted o (yielded ops a.tmps) = true then Oper.wp P o a w K Q else E := by
  have hw : Region.wanted o (yielded ops a.tmps) = true := by simp [Region.wanted, hgd]
  rw [if_pos hw]
  obtain ⟨g, cap, w', hr, h2, h3, h4, h5⟩ := run_append_keep (P := P) w t o.type base e i z size bytes ht hi hz hsize hby hzs hsz v n xs hown ad m c news hl hnews h1 hm h63 hbytes hbase H hH
  unfold Oper.wp execOp
  simp only [ho, resolve, invoke, builtin, Sem.run_bind, Sem.run_pure, Result.andThen_ok, List.map_toArray, List.map_cons, List.map_nil, hs, hx, hr]
  exact h g cap w' h2 h3 h4 h5
/-- At the operation. -/
theorem wp_append_keep {o : Oper} {a : Act} {K : Act → World → Prop} {Q : Exit → Act → World → Prop} (s x : Operand) (t : TypeId)
    (ho : o.op = .call { callee := .builtin .append, args := #[s, x], argTypes := #[t, t] })
    (base : Nat) (e : TypeId) (i : TypeInfo) (z : Value) (size bytes : Nat) (ht : P.underlying t = some (.slice e)) (hi : P.info? e = some i) (hz : i.zero = some z)
    (hsize : i.size = size) (hby : i.bytes = bytes) (hzs : z.cells.size = size) (hsz : 0 < size)
    (v : Value) (n : Nat) (xs : List Value) (hs : a.eval s = v) (hown : w.ownsRow base e size v n xs)
    (ad : Addr) (m c : Nat) (news : List Value) (hx : a.eval x = .slice (some ad) m c) (hl : news.length = m * size) (hnews : ∀ j u, news[j]? = some u → w.cell? (ad.add j) = some u) (h1 : ∀ u ∈ news, u.oneCell' = true)
    (hm : 0 < m) (h63 : n + m ≤ maxLen) (hbytes : (n + m) * bytes ≤ 140737488355328) (hbase : base ≤ w.heap.size) (H : Nat) (hH : w.heap.size = H)
    (h : ∀ g cap w', w'.ownsRow base e size (.slice (some ⟨g, 0, none⟩) (n + m) cap) (n + m) (xs ++ news) → w.grownBy w' v.ownBlock → (v.ownBlock = some g ∨ g = H) → w'.ownsRow base e size v n xs → K (a.put o.dst (.slice (some ⟨g, 0, none⟩) (n + m) cap)) w') : o.wp P a w K Q := by
  obtain ⟨g, cap, w', hr, h2, h3, h4, h5⟩ := run_append_keep (P := P) w t o.type base e i z size bytes ht hi hz hsize hby hzs hsz v n xs hown ad m c news hl hnews h1 hm h63 hbytes hbase H hH
  unfold Oper.wp execOp
  simp only [ho, resolve, invoke, builtin, Sem.run_bind, Sem.run_pure, Result.andThen_ok, List.map_toArray, List.map_cons, List.map_nil, hs, hx, hr]
  exact h g cap w' h2 h3 h4 h5
end
end Go.Proofs.YtdljphbfbiganaaGreatDoor
/- What a block makes of a state, by the page. -/
namespace Go.Proofs.YtdljphbfbiganaaGreatDoor.Sha
open Go.RowKit

theorem below_pushD {B e size n : Nat} {a wr w1 : World} {o : Obj} {v : Value} {xs : List Value} (hb : Below B a wr) (hB : B ≤ wr.heap.size) (hown : wr.ownsRow B e size v n xs)
    (hg : (wr.alloc o).drew.grownBy w1 v.ownBlock) : Below B a w1 := below_push (o := o) hb hB hown ⟨hg.os, hg.tape, hg.output, hg.size, hg.block⟩
theorem add4 (a b c d : UInt8) : IntKind.u32.wrap (IntKind.u32.wrap (IntKind.u32.wrap (IntKind.u32.wrap (IntKind.u32.wrap (a.toNat : Int) * 16777216) + IntKind.u32.wrap (IntKind.u32.wrap (b.toNat : Int) * 65536)) + IntKind.u32.wrap (IntKind.u32.wrap (c.toNat : Int) * 256)) + IntKind.u32.wrap (d.toNat : Int))
    = ((BitVec.ofNat 32 (a.toNat * 16777216 + b.toNat * 65536 + c.toNat * 256 + d.toNat)).toNat : Int) := by
  have ha := a.toNat_lt; have hb := b.toNat_lt; have hc := c.toNat_lt; have hd := d.toNat_lt
  simp only [IntKind.wrap_u32', BitVec.toNat_ofNat]
  omega
theorem wrap_w (x : W) : IntKind.u32.wrap (x.toNat : Int) = (x.toNat : Int) := by have := lt32 x; rw [IntKind.wrap_u32']; omega
theorem sum5q (a b c d e : W) : ((a.toNat : Int) + b.toNat + c.toNat + d.toNat + e.toNat) % 4294967296 = ((a + b + c + d + e).toNat : Int) := by
  simp only [BitVec.toNat_add]; omega
theorem infoW : (Tryz.prog.info? 85).map (fun i => (i.zero, i.size, i.bytes)) = some (some (.int .u32 0), 1, 4) := by kernel_rfl
def constC : Array Value := (constI.map (Value.int .u32)).toArray

set_option maxRecDepth 100000 in
theorem constants_any (w : World) : Calls Tryz.prog 67 #[] w fun e w' => e = .returned (.slice (some ⟨w.heap.size, 0, none⟩) 64 64) ∧ w' = w.alloc (.cells constC 85) := by
  obtain ⟨A, hA⟩ : ∃ A, A = constC := ⟨_, rfl⟩
  rw [← hA]
  go_enter Tryz.func67, Tryz.ntmps67
  go_upto_region 1 with fail
  refine wp_region_lit ?_
  refine Great.wpList_buildSliceTo rfl 90 85 64 _ rfl w.heap.size rfl (some 1) rfl Tryz.underlying90 A (by rw [hA]; kernel_rfl) ?_
  clear hA
  simp only [Act.put, sA, sZ, sS]
  go_wp2
  go_ret
  exact ⟨rfl, rfl⟩
theorem const_cell {w : World} {g : Nat} {t : TypeId} (h : w.heap[g]? = some (.cells constC t (0, 0))) (k : Nat) (hk : k < 64) : w.cell? ⟨g, k, none⟩ = some (.int .u32 ((const k).toNat : Int)) := by
  rw [cell_blk h k]
  unfold constC
  rw [List.getElem?_toArray, List.getElem?_map, ← const_at k hk, List.getD_eq_getElem?_getD, List.getElem?_eq_getElem (by rw [constI_len]; exact hk)]
  rfl

set_option maxRecDepth 100000 in
theorem rstart_any (w : World) : Calls Tryz.prog 51 #[] w fun e w' => e = .returned (.slice (some ⟨w.heap.size, 0, none⟩) 8 8) ∧ w' = w.alloc (.cells #[.int .u32 (start.a.toNat : Int), .int .u32 (start.b.toNat : Int), .int .u32 (start.c.toNat : Int), .int .u32 (start.d.toNat : Int), .int .u32 (start.e.toNat : Int), .int .u32 (start.f.toNat : Int), .int .u32 (start.g.toNat : Int), .int .u32 (start.h.toNat : Int)] 85) := by
  go_enter Tryz.func51, Tryz.ntmps51
  go_wp2
  go_ret
  exact ⟨rfl, rfl⟩
set_option maxRecDepth 100000 in
theorem start_any (w : World) : Calls Tryz.prog 48 #[] w fun e w' => e = .returned (.agg #[.int .u32 (start.a.toNat : Int), .int .u32 (start.b.toNat : Int), .int .u32 (start.c.toNat : Int), .int .u32 (start.d.toNat : Int), .int .u32 (start.e.toNat : Int), .int .u32 (start.f.toNat : Int), .int .u32 (start.g.toNat : Int), .int .u32 (start.h.toNat : Int)]) ∧ Below w.heap.size w w' := by
  go_enter Tryz.func48, Tryz.ntmps48
  go_wp2
  refine bodyPost_ret (v := .agg #[.int .u32 (start.a.toNat : Int), .int .u32 (start.b.toNat : Int), .int .u32 (start.c.toNat : Int), .int .u32 (start.d.toNat : Int), .int .u32 (start.e.toNat : Int), .int .u32 (start.f.toNat : Int), .int .u32 (start.g.toNat : Int), .int .u32 (start.h.toNat : Int)]) ?_ rfl ⟨rfl, ?_⟩
  · simp [results, Tryz.results48, go_sem]
    decide +kernel
  · exact (Below.refl _ _).alloc (Nat.le_refl _) _

/-- the first eight cells of a block are a state's words -/
def First8 (cs : Array Value) (S : St) : Prop := cs[0]? = some (.int .u32 (S.a.toNat : Int)) ∧ cs[1]? = some (.int .u32 (S.b.toNat : Int)) ∧ cs[2]? = some (.int .u32 (S.c.toNat : Int)) ∧ cs[3]? = some (.int .u32 (S.d.toNat : Int)) ∧ cs[4]? = some (.int .u32 (S.e.toNat : Int)) ∧ cs[5]? = some (.int .u32 (S.f.toNat : Int)) ∧ cs[6]? = some (.int .u32 (S.g.toNat : Int)) ∧ cs[7]? = some (.int .u32 (S.h.toNat : Int))
theorem First8.arr (S : St) : First8 #[.int .u32 (S.a.toNat : Int), .int .u32 (S.b.toNat : Int), .int .u32 (S.c.toNat : Int), .int .u32 (S.d.toNat : Int), .int .u32 (S.e.toNat : Int), .int .u32 (S.f.toNat : Int), .int .u32 (S.g.toNat : Int), .int .u32 (S.h.toNat : Int)] S := ⟨rfl, rfl, rfl, rfl, rfl, rfl, rfl, rfl⟩
theorem cellsX {w : World} {g : Nat} {t : TypeId} {cs : Array Value} {S : St} (h : w.heap[g]? = some (.cells cs t (0, 0))) (hf : First8 cs S) :
    w.cell? ⟨g, 0, none⟩ = some (.int .u32 (S.a.toNat : Int)) ∧ w.cell? ⟨g, 1, none⟩ = some (.int .u32 (S.b.toNat : Int)) ∧ w.cell? ⟨g, 2, none⟩ = some (.int .u32 (S.c.toNat : Int)) ∧ w.cell? ⟨g, 3, none⟩ = some (.int .u32 (S.d.toNat : Int)) ∧ w.cell? ⟨g, 4, none⟩ = some (.int .u32 (S.e.toNat : Int)) ∧ w.cell? ⟨g, 5, none⟩ = some (.int .u32 (S.f.toNat : Int)) ∧ w.cell? ⟨g, 6, none⟩ = some (.int .u32 (S.g.toNat : Int)) ∧ w.cell? ⟨g, 7, none⟩ = some (.int .u32 (S.h.toNat : Int)) :=
  ⟨(cell_blk h 0).trans hf.1, (cell_blk h 1).trans hf.2.1, (cell_blk h 2).trans hf.2.2.1, (cell_blk h 3).trans hf.2.2.2.1, (cell_blk h 4).trans hf.2.2.2.2.1, (cell_blk h 5).trans hf.2.2.2.2.2.1, (cell_blk h 6).trans hf.2.2.2.2.2.2.1, (cell_blk h 7).trans hf.2.2.2.2.2.2.2⟩

def wl (l : List UInt8) (k : Nat) : List Value := (words l k).map wv
theorem wl_len (l : List UInt8) (k : Nat) : (wl l k).length = k := by rw [wl, List.length_map, words_len]
theorem wl_next (l : List UInt8) (k : Nat) (x : W) (hx : x = if k < 16 then word l k else next (words l k)) : wl l (k + 1) = wl l k ++ [.int .u32 (x.toNat : Int)] := by
  subst hx
  show ((words l k ++ [if k < 16 then word l k else next (words l k)]).map wv) = _
  rw [List.map_append]; rfl
theorem own_word {w : World} {B n : Nat} {v : Value} {l : List UInt8} {k : Nat} (h : w.ownsRow B 85 1 v n (wl l k)) (j : Nat) (hj : j < k) : ∃ g c, v = .slice (some ⟨g, 0, none⟩) n c ∧ B ≤ g ∧ w.cell? ⟨g, j, none⟩ = some (.int .u32 (((words l k).getD j 0).toNat : Int)) := by
  have hn : n = k := by have := h.1; rw [wl_len] at this; omega
  obtain ⟨g, c, hv, hg, hlt⟩ := World.ownsRow.form h (by omega)
  refine ⟨g, c, hv, hg, ?_⟩
  have hcc := World.ownsRow.cells (g := g) h (by rw [hv]; rfl) j (.int .u32 (((words l k).getD j 0).toNat : Int)) ?_
  · have hadd : (⟨g, 0, none⟩ : Addr).add j = ⟨g, j, none⟩ := by unfold Addr.add; split <;> simp_all
    rw [← hadd]; exact hcc
  unfold wl
  rw [List.getElem?_map, List.getD_eq_getElem?_getD, List.getElem?_eq_getElem (by rw [words_len]; exact hj)]
  rfl
end Go.Proofs.YtdljphbfbiganaaGreatDoor.Sha
