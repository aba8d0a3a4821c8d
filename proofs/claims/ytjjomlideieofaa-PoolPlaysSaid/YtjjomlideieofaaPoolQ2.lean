/- Pools of transactions: Waiting, the code's and the page's; New that refuses. -/
import Derived.Test.YtjjomlideieofaaPoolQ
namespace Go.Proofs.Ytjjomlideieofaa.Msg
open Go Go.RowKit

/-- A transaction's words. -/
def W5 (t : T4) : Int × Int × Int × Nat × List M7 := (t.side, t.acc, t.n, t.len, t.ms)
/-- How many are of an account. -/
def cnt (a : Int) (l : List (Int × Int × Int × Nat × List M7)) : Nat := l.countP fun x => x.2.1 == a
theorem cnt_snoc (a : Int) (ts : List T4) (k : Nat) (h : k < ts.length) : cnt a ((ts.take (k + 1)).map W5) = cnt a ((ts.take k).map W5) + if (ts[k].acc == a) = true then 1 else 0 := by
  rw [List.take_succ_eq_append_getElem h, List.map_append, cnt, List.countP_append]
  simp [cnt, W5, List.countP_cons]
theorem cnt_le (a : Int) (ts : List T4) (k : Nat) : cnt a ((ts.take k).map W5) ≤ k := by
  refine Nat.le_trans List.countP_le_length ?_
  simp
  omega

set_option maxHeartbeats 1000000 in
theorem pnew_bad (most : Int) (w : World) (h : most < 1 ∨ 32 < most) :
    Calls Try.prog 10 #[.int .i64 most] w fun e w' => e = .returned (.tuple #[.pointer none, .int .i64 1]) ∧ w' = w := by
  by_cases h1 : most < 1
  · go_enter Try.func10, Try.ntmps10
    go_wp2
    go_ret2
    exact ⟨rfl, rfl⟩
  · have h2 : (32 : Int) < most := by omega
    go_enter Try.func10, Try.ntmps10
    go_wp2
    go_ret2
    exact ⟨rfl, rfl⟩

set_option maxRecDepth 100000 in
set_option maxHeartbeats 4000000 in
theorem pwaiting_any {w : World} {base g first : Nat} {most : Int} {ts : List T4} (h : Pl w base g first most ts) (a : Int) :
    Calls Try.prog 18 #[.pointer (some ⟨g, 0, none⟩), .int .i64 a] w fun e w' => e = .returned (.int .i64 (cnt a (ts.map W5) : Int)) ∧ Below w.heap.size w w' := by
  have hle := h.le
  have HP := Lib.hid h
  obtain ⟨n, hn⟩ : ∃ n, n = ts.length := ⟨_, rfl⟩
  have HL := Lib.hid (plen_any h)
  rw [← hn] at HL hle
  have HN := Lib.hid hn
  clear h hn
  go_enter Try.func18, Try.ntmps18
  go_wp2_with fail
  refine HL.out.mono ?_
  rintro e w' ⟨rfl, hw'⟩
  obtain rfl := hw'.symm
  go_wp2
  go_loopw [5, 9] (fun s i wr => ∃ k m : Nat, i = .int .i64 (k : Int) ∧ s = .int .i64 (m : Int) ∧ k ≤ n ∧ Hid (m = cnt a ((ts.take k).map W5)) ∧ m ≤ k ∧ ∃ q, wr = w.drewN q) (fun _ i _ => n - (intOf i).toNat)
  case atStart => exact ⟨0, 0, rfl, rfl, Nat.zero_le _, Lib.hid rfl, Nat.le_refl _, 0, rfl⟩
  case round =>
    obtain ⟨k, m, rfl, rfl, hk, hm, hmk, q, rfl⟩ := hrel
    by_cases hlt : k < n
    · have hkt : k < ts.length := by have := HN.out; omega
      have hi0 : (0 : Int) ≤ (k : Int) := by omega
      have hkn : (k : Int) < (n : Int) := by omega
      have hPw := Lib.hid (show Pl (w.drewN q) base g first most ts from ⟨HP.out.hg, HP.out.lt, HP.out.le, HP.out.blk, HP.out.rows⟩)
      have HC := Lib.hid (cnt_snoc a ts k hkt)
      go_wp2_with fail
      refine (place_any hPw.out k (by omega)).mono ?_
      rintro e wp ⟨rfl, q2, rfl⟩
      have hPq : Pl ((w.drewN q).drewN q2) base g first most ts := ⟨HP.out.hg, HP.out.lt, HP.out.le, HP.out.blk, HP.out.rows⟩
      obtain ⟨K, hK⟩ : ∃ K, K = (first + k) % 32 * 4 := ⟨_, rfl⟩
      have a1 := hPq.at k hkt 1 (by omega)
      rw [← hK] at a1 ⊢
      simp [T4.cells] at a1
      obtain ⟨ac, hac⟩ : ∃ ac, ac = ts[k].acc := ⟨_, rfl⟩
      rw [← hac] at a1
      have HA := Lib.hid hac
      clear hac hK hPq hPw
      by_cases hs : ac = a
      · have hcnt : cnt a ((ts.take (k + 1)).map W5) = m + 1 := by rw [HC.out, ← HA.out, ← hm.out, if_pos (by simpa using hs)]
        have HC2 := Lib.hid hcnt
        clear hcnt
        go_wp2
        exact ⟨⟨k + 1, m + 1, by go_num, by go_num, by omega, Lib.hid HC2.out.symm, by omega, _, rfl⟩, by simp [intOf]; omega⟩
      · have hcnt : cnt a ((ts.take (k + 1)).map W5) = m := by rw [HC.out, ← HA.out, ← hm.out, if_neg (by simpa using hs)]; rfl
        have HC2 := Lib.hid hcnt
        clear hcnt
        go_wp2
        exact ⟨⟨k + 1, m, by go_num, rfl, by omega, Lib.hid HC2.out.symm, by omega, _, rfl⟩, by simp [intOf]; omega⟩
    · obtain rfl : k = n := by omega
      go_wp2
      go_ret
      refine ⟨?_, below_drewN (Below.refl _ _) _⟩
      rw [hm.out, HN.out, List.take_length]
      rfl

set_option maxRecDepth 100000 in
set_option maxHeartbeats 4000000 in
theorem rwaiting_any {w : World} {base g c : Nat} {most : Int} {A : Option Addr} {qs : List T4} (h : Rp w base g most A c qs) (hl : qs.length ≤ 32) (a : Int) :
    Calls Try.prog 19 #[.pointer (some ⟨g, 0, none⟩), .int .i64 a] w fun e w' => e = .returned (.int .i64 (cnt a (qs.map W5) : Int)) ∧ Below w.heap.size w w' := by
  have HP := Lib.hid h
  have HX := Lib.hid h.rdx
  obtain ⟨c0, c1⟩ := h.cells
  obtain ⟨n, hn⟩ : ∃ n, n = qs.length := ⟨_, rfl⟩
  rw [← hn] at c0 hl
  have HN := Lib.hid hn
  clear h hn
  go_enter Try.func19, Try.ntmps19
  go_wp2
  go_loopw [5, 6] (fun s i wr => ∃ k m : Nat, i = .int .i64 (k : Int) ∧ s = .int .i64 (m : Int) ∧ k ≤ n ∧ Hid (m = cnt a ((qs.take k).map W5)) ∧ m ≤ k ∧ ∃ q, wr = w.drewN q) (fun _ i _ => n - (intOf i).toNat)
  case atStart => exact ⟨0, 0, rfl, rfl, Nat.zero_le _, Lib.hid rfl, Nat.le_refl _, 0, rfl⟩
  case round =>
    obtain ⟨k, m, rfl, rfl, hk, hm, hmk, q, rfl⟩ := hrel
    by_cases hlt : k < n
    · have hkt : k < qs.length := by have := HN.out; omega
      have hi0 : (0 : Int) ≤ (k : Int) := by omega
      have hkn : (k : Int) < (n : Int) := by omega
      have HC := Lib.hid (cnt_snoc a qs k hkt)
      obtain ⟨b, off, rfl, _, _, a1, _, _⟩ := HX.out.at hkt
      obtain ⟨ac, hac⟩ : ∃ ac, ac = qs[k].acc := ⟨_, rfl⟩
      rw [← hac] at a1
      have HA := Lib.hid hac
      clear hac
      by_cases hs : ac = a
      · have hcnt : cnt a ((qs.take (k + 1)).map W5) = m + 1 := by rw [HC.out, ← HA.out, ← hm.out, if_pos (by simpa using hs)]
        have HC2 := Lib.hid hcnt
        clear hcnt
        go_wp2
        exact ⟨⟨k + 1, m + 1, by go_num, by go_num, by omega, Lib.hid HC2.out.symm, by omega, _, rfl⟩, by simp [intOf]; omega⟩
      · have hcnt : cnt a ((qs.take (k + 1)).map W5) = m := by rw [HC.out, ← HA.out, ← hm.out, if_neg (by simpa using hs)]; rfl
        have HC2 := Lib.hid hcnt
        clear hcnt
        go_wp2
        exact ⟨⟨k + 1, m, by go_num, rfl, by omega, Lib.hid HC2.out.symm, by omega, _, rfl⟩, by simp [intOf]; omega⟩
    · obtain rfl : k = n := by omega
      go_wp2
      go_ret
      refine ⟨?_, below_drewN (Below.refl _ _) _⟩
      rw [hm.out, HN.out, List.take_length]
      rfl
end Go.Proofs.Ytjjomlideieofaa.Msg
