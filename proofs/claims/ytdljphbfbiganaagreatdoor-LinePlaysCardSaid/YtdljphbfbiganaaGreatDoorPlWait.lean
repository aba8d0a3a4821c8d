import Derived.Test.YtdljphbfbiganaaGreatDoorPlSent
import Derived.Test.YtdljphbfbiganaaGreatDoorGLnSort
/- The page's line: Waiting. -/
namespace Go.Proofs.YtdljphbfbiganaaGreatDoor.Pl
open Go Go.RowKit Packet Mg Lg Ln
set_option linter.unusedVariables false

/-- above the first n of them -/
def cand (Z : List Int) (n : Nat) (k : Int) : Prop := ∀ q (h : q < Z.length), q < n → Z[q] < k
/-- the least of those that were looked at -/
def WI (K Z : List Int) (n i : Nat) (least : Int) (found : Bool) : Prop := (∀ k ∈ K.take i, cand Z n k → found = true) ∧ (found = true → cand Z n least ∧ least ∈ K ∧ ∀ k ∈ K.take i, cand Z n k → least ≤ k)
section
variable {K Z : List Int} {n i : Nat} {least : Int} {found : Bool}
theorem WI.start (least : Int) : WI K Z n 0 least false := ⟨fun k hk => by simp at hk, fun h => by cases h⟩
theorem take_mem {k : Int} (hi : i < K.length) (hk : k ∈ K.take (i + 1)) : k ∈ K.take i ∨ k = K[i] := by
  rw [List.take_succ_eq_append_getElem hi, List.mem_append, List.mem_singleton] at hk
  exact hk
theorem WI.skip (h : WI K Z n i least found) (hi : i < K.length) (hc : ¬ cand Z n K[i]) : WI K Z n (i + 1) least found := by
  refine ⟨fun k hk hck => ?_, fun hf => ⟨(h.2 hf).1, (h.2 hf).2.1, fun k hk hck => ?_⟩⟩
  · rcases take_mem hi hk with hk | rfl
    · exact h.1 k hk hck
    · exact absurd hck hc
  · rcases take_mem hi hk with hk | rfl
    · exact (h.2 hf).2.2 k hk hck
    · exact absurd hck hc
theorem WI.put (h : WI K Z n i least found) (hi : i < K.length) (hc : cand Z n K[i]) (hl : found = true → K[i] < least) : WI K Z n (i + 1) K[i] true := by
  refine ⟨fun _ _ _ => rfl, fun _ => ⟨hc, List.getElem_mem hi, fun k hk hck => ?_⟩⟩
  rcases take_mem hi hk with hk | rfl
  · have hf := h.1 k hk hck
    have h1 := (h.2 hf).2.2 k hk hck
    have h2 := hl hf
    omega
  · exact Int.le_refl _
theorem WI.keep (h : WI K Z n i least true) (hi : i < K.length) (hl : ¬ K[i] < least) : WI K Z n (i + 1) least true := by
  refine ⟨fun _ _ _ => rfl, fun _ => ⟨(h.2 rfl).1, (h.2 rfl).2.1, fun k hk hck => ?_⟩⟩
  rcases take_mem hi hk with hk | rfl
  · exact (h.2 rfl).2.2 k hk hck
  · omega
theorem sorted_lt (hs : Z.Pairwise (· < ·)) {a b : Nat} (hb : b < Z.length) (hab : a < b) : Z[a]'(by omega) < Z[b] := List.pairwise_iff_getElem.1 hs a b (by omega) hb hab
theorem WI.end (h : WI K Z n K.length least found) (hp : Z.Perm K) (hs : Z.Pairwise (· < ·)) (hn : n < Z.length) : least = Z[n] := by
  have hc : cand Z n Z[n] := fun q hq hqn => sorted_lt hs hn hqn
  have hm : Z[n] ∈ K := hp.mem_iff.1 (List.getElem_mem hn)
  have hf := h.1 Z[n] (by rw [List.take_length]; exact hm) hc
  obtain ⟨h1, h2, h3⟩ := h.2 hf
  have h4 := h3 Z[n] (by rw [List.take_length]; exact hm) hc
  obtain ⟨j, hj, e⟩ := List.mem_iff_getElem.1 (hp.mem_iff.2 h2)
  by_cases hjn : j < n
  · have := h1 j hj hjn; omega
  · by_cases hje : j = n
    · subst hje; exact e.symm
    · have := sorted_lt hs hj (show n < j by omega); omega
theorem cand_zero (k : Int) : cand Z 0 k := fun q _ h => absurd h (by omega)
theorem cand_succ (hs : Z.Pairwise (· < ·)) {q : Nat} (hq : q < Z.length) (k : Int) : cand Z (q + 1) k ↔ Z[q] < k := by
  refine ⟨fun h => h q hq (by omega), fun h j hj hjq => ?_⟩
  by_cases e : j = q
  · subst e; exact h
  · have := sorted_lt hs hq (show j < q by omega); omega
end
set_option maxRecDepth 20000 in
set_option maxHeartbeats 8000000 in
theorem pwait_any {b0 B : Nat} {s : St} {Ac Aa : Option Addr} {mc cc ma ca : Nat} {W : World} (h : PN b0 W B s Ac mc cc Aa ma ca) (hm : s.cm.length ≤ 1000000) (Z : List Int) (hp : Z.Perm (s.cm.map (·.1))) (hs : Z.Pairwise (· < ·)) :
    Calls Tryz.prog 37 #[.pointer (some ⟨B, 0, none⟩)] W fun e w' => ∃ A n c, e = .returned (.slice A n c) ∧ n = Z.length ∧ w'.ownsRow W.heap.size TUu 1 (.slice A n c) n (uuc Z) ∧ Below W.heap.size W w' := by
  obtain ⟨i0, hi', hz0, hz1, hz2⟩ := info_parts infoU
  have HI := Lib.hid (And.intro hi' (And.intro hz0 (And.intro hz1 hz2)))
  have HP := Lib.hid h
  have hZl : Z.length = mc := by rw [hp.length_eq, List.length_map]; exact h.rc.2.symm
  have hZ := Lib.hid (And.intro hp (And.intro hs hZl))
  have hmc : mc ≤ 1000000 := by have := h.rc.2; omega
  obtain ⟨K, hK⟩ : ∃ K, K = s.cm.map (·.1) := ⟨_, rfl⟩
  have hKl : K.length = mc := by rw [hK, List.length_map]; exact h.rc.2.symm
  have HKl := Lib.hid hKl
  have HK := Lib.hid hK
  have HZ : Hid (Z.Perm K ∧ Z.Pairwise (· < ·) ∧ Z.length = mc) := Lib.hid ⟨by rw [hK]; exact hp, hs, hZl⟩
  clear h hp hs hZl hZ hi' hz0 hz1 hz2 hK hKl
  go_enter Tryz.func37, Tryz.ntmps37
  go_wp2
  go_loopw [3, 4] (fun s3 s4 wr => ∃ (n : Nat) (A : Option Addr) (c : Nat), s3 = .slice A n c ∧ s4 = .int .i64 (n : Int) ∧ n ≤ mc ∧ Hid (wr.ownsRow W.heap.size TUu 1 (.slice A n c) n (uuc (Z.take n)) ∧ Below W.heap.size W wr)) (fun _ v _ => mc - (intOf v).toNat)
  case atStart => exact ⟨0, none, 0, rfl, rfl, Nat.zero_le _, Lib.hid ⟨by simpa [uuc] using World.ownsRow_nil W W.heap.size TUu 1, Below.refl _ _⟩⟩
  case round =>
    obtain ⟨n, A, c, rfl, rfl, hn, HA⟩ := hrel
    have HPr := Lib.hid (HP.out.below HA.out.2)
    obtain ⟨_, _, _, _, _, _, _, e7, _, _⟩ := HPr.out.cells
    by_cases hlt : n < mc
    · have hi0 : (0 : Int) ≤ (n : Int) := by omega
      have hi1 : (n : Int) < (mc : Int) := by omega
      obtain ⟨b9, off, hAq, hbl, hcs⟩ := (own_rdT HPr.out.rc HPr.out.cok).cells (by omega)
      subst hAq
      have HCe : Hid (∀ i (hi : i < K.length), wr.cell? ⟨b9, off + i * 33, none⟩ = some (.int .u64 K[i])) := Lib.hid fun i hi => by
        have h1 : i < s.cm.length := by have := HKl.out; have := HPr.out.rc.2; omega
        have h2 : K[i] = (s.cm[i]).1 := by simp only [HK.out, List.getElem_map]
        rw [h2]
        exact (hcs i h1 0 (by decide)).trans (ncl_zero _)
      have hnK : n < K.length := by have := HKl.out; omega
      have q0 := HCe.out n hnK
      obtain ⟨x0, hx0⟩ : ∃ x0, x0 = K[n] := ⟨_, rfl⟩
      rw [← hx0] at q0
      clear hcs hbl hx0
      go_wp2
      clear q0
      go_loopw [5, 6, 7] (fun s5 s6 s7 wx => ∃ (least : Int) (found : Bool) (i : Nat), s5 = .int .u64 least ∧ s6 = .bool found ∧ s7 = .int .i64 (i : Int) ∧ i ≤ mc ∧ Hid (WI K Z n i least found) ∧ Hid (wx = wr)) (fun _ _ v _ => mc - (intOf v).toNat)
      case atStart => exact ⟨x0, false, 0, rfl, rfl, rfl, Nat.zero_le _, Lib.hid (WI.start x0), Lib.hid rfl⟩
      case round =>
        rename World => wx
        obtain ⟨least, found, i, rfl, rfl, rfl, hi, HW, HX⟩ := hrel
        obtain rfl := HX.out.symm
        by_cases hlt2 : i < mc
        · have hj0 : (0 : Int) ≤ (i : Int) := by omega
          have hj1 : (i : Int) < (mc : Int) := by omega
          have hiK : i < K.length := by have := HKl.out; omega
          have q0 := HCe.out i hiK
          obtain ⟨k, hk⟩ : ∃ k, k = K[i] := ⟨_, rfl⟩
          rw [← hk] at q0
          have HKi := Lib.hid hk
          clear hk
          rcases Nat.eq_zero_or_pos n with hn0 | hn0
          · have c0 : ((n : Int) == 0) = true := by simp; omega
            have HCa : Hid (cand Z n K[i]) := Lib.hid (by rw [hn0]; exact cand_zero _)
            clear hn0
            cases found
            · go_wp2
              go_roundw
              case rel => exact ⟨k, true, i + 1, rfl, rfl, by go_num, by omega, Lib.hid (HKi.out ▸ HW.out.put hiK HCa.out (fun e => by cases e)), Lib.hid (by first | rfl | trivial)⟩
              case measure => simp [intOf]; omega
            · by_cases hkl : k < least
              · have d1 : decide (k < least) = true := decide_eq_true hkl
                have HKl2 := Lib.hid hkl
                clear hkl
                go_wp2
                go_roundw
                case rel => exact ⟨k, true, i + 1, rfl, rfl, by go_num, by omega, Lib.hid (HKi.out ▸ HW.out.put hiK HCa.out (fun _ => HKi.out ▸ HKl2.out)), Lib.hid (by first | rfl | trivial)⟩
                case measure => simp [intOf]; omega
              · have d1 : decide (k < least) = false := decide_eq_false hkl
                have d2 : least ≤ k := by omega
                have HKl2 := Lib.hid hkl
                go_wp2
                go_roundw
                case rel => exact ⟨least, true, i + 1, rfl, rfl, by go_num, by omega, Lib.hid (HW.out.keep hiK (HKi.out ▸ HKl2.out)), Lib.hid (by first | rfl | trivial)⟩
                case measure => simp [intOf]; omega
          · obtain ⟨q, hq⟩ : ∃ q, n = q + 1 := ⟨n - 1, by omega⟩
            have c0 : ((n : Int) == 0) = false := by simp; omega
            have c1 : (n : Int) - 1 = (q : Int) := by omega
            have c2 : IntKind.i64.wrap (q : Int) = (q : Int) := by simp [IntKind.wrap, IntKind.bits, IntKind.signed]; omega
            have c3 : (0 : Int) ≤ (q : Int) := by omega
            have c4 : (q : Int) < (n : Int) := by omega
            have hqZ : q < Z.length := by have := HZ.out.2.2; omega
            have hcnd : cand Z n K[i] ↔ Z[q] < K[i] := by rw [hq]; exact cand_succ HZ.out.2.1 hqZ _
            rcases HA.out.1.2 with ⟨_, h0⟩ | ⟨g, cap, cur, hv, hg, hh, hnc, hcm, hcz, ht⟩
            · omega
            injection hv with hv1 hv2 hv3
            have hcl : wr.cell? ⟨g, q, none⟩ = some (.int .u64 Z[q]) := by
              rw [cell_of_row wr g q cur _ (0, 0) hh]
              have := congrArg (fun z : List Value => z[q]?) ht
              simp only [List.getElem?_take, uuc, List.getElem?_map] at this
              rw [if_pos (by omega), if_pos (by omega), List.getElem?_eq_getElem hqZ] at this
              rw [← Array.getElem?_toList]
              exact this
            subst hv1
            obtain ⟨z, hz⟩ : ∃ z, z = Z[q] := ⟨_, rfl⟩
            rw [← hz] at hcl hcnd
            rw [← HKi.out] at hcnd
            have HCn := Lib.hid hcnd
            clear hq hqZ hcnd hg hh hnc hcm hcz ht hz hv2 hv3 hn0
            by_cases hzk : z < k
            · have d0 : decide (z < k) = true := decide_eq_true hzk
              have HCa : Hid (cand Z n K[i]) := Lib.hid (HKi.out ▸ HCn.out.2 hzk)
              cases found
              · go_wp2
                go_roundw
                case rel => exact ⟨k, true, i + 1, rfl, rfl, by go_num, by omega, Lib.hid (HKi.out ▸ HW.out.put hiK HCa.out (fun e => by cases e)), Lib.hid (by first | rfl | trivial)⟩
                case measure => simp [intOf]; omega
              · by_cases hkl : k < least
                · have d1 : decide (k < least) = true := decide_eq_true hkl
                  have HKl2 := Lib.hid hkl
                  clear hkl
                  go_wp2
                  go_roundw
                  case rel => exact ⟨k, true, i + 1, rfl, rfl, by go_num, by omega, Lib.hid (HKi.out ▸ HW.out.put hiK HCa.out (fun _ => HKi.out ▸ HKl2.out)), Lib.hid (by first | rfl | trivial)⟩
                  case measure => simp [intOf]; omega
                · have d1 : decide (k < least) = false := decide_eq_false hkl
                  have d2 : least ≤ k := by omega
                  have HKl2 := Lib.hid hkl
                  go_wp2
                  go_roundw
                  case rel => exact ⟨least, true, i + 1, rfl, rfl, by go_num, by omega, Lib.hid (HW.out.keep hiK (HKi.out ▸ HKl2.out)), Lib.hid (by first | rfl | trivial)⟩
                  case measure => simp [intOf]; omega
            · have d0 : decide (z < k) = false := decide_eq_false hzk
              have d3 : k ≤ z := by omega
              have HCa : Hid (¬ cand Z n K[i]) := Lib.hid (fun e => hzk (HCn.out.1 (HKi.out ▸ e)))
              go_wp2
              go_roundw
              case rel => exact ⟨least, found, i + 1, rfl, rfl, by go_num, by omega, Lib.hid (HW.out.skip hiK HCa.out), Lib.hid (by first | rfl | trivial)⟩
              case measure => simp [intOf]; omega
        · obtain rfl : i = mc := by omega
          have hii : ¬ ((i : Int) < (i : Int)) := by omega
          have hend : least = Z[n]'(by have := HZ.out.2.2; omega) := by
            have h1 := HW.out
            rw [← HKl.out] at h1
            exact h1.end HZ.out.1 HZ.out.2.1 _
          have hsn : uuc (Z.take (n + 1)) = uuc (Z.take n) ++ [.int .u64 least] := by
            rw [List.take_succ_eq_append_getElem (by have := HZ.out.2.2; omega), hend]
            simp only [uuc, List.map_append, List.map_cons, List.map_nil]
          have HSn := Lib.hid hsn
          have hbl := (Below.refl wr.heap.size wr).alloc (Nat.le_refl _) (.cells #[.int .u64 least] TUu)
          have hrow := HA.out.1.alloc (.cells #[.int .u64 least] TUu)
          have hbW := HA.out.2.alloc HA.out.2.size (.cells #[.int .u64 least] TUu)
          have HRo := Lib.hid (And.intro hrow hbW)
          clear hsn hbl hrow hbW hend
          go_wp2_with (at_builtin; refine wpList_append_lies _ rfl _ _ TU8 rfl W.heap.size TUu i0 _ 1 8 Tryz.underlying47 HI.out.1 HI.out.2.1 HI.out.2.2.1 HI.out.2.2.2 rfl (by decide) _ _ _ rfl HRo.out.1 ⟨wr.heap.size, 0, none⟩ 1 1 [.int .u64 least] rfl rfl (cell_one_new _ _ _) (one_one rfl) (by decide) (by unfold maxLen; omega) (by omega) HRo.out.2.size _ rfl ?_)
          intro g cap1 w2 hown hgr hat _
          have hb2 := HRo.out.2.grown hgr HRo.out.2.size fun k hk => own_ge HRo.out.1 k hk
          have H2 := Lib.hid (And.intro hown hb2)
          clear hown hgr hat hb2
          go_wp2
          go_roundw
          case rel => exact ⟨n + 1, _, _, rfl, by go_num, by omega, Lib.hid ⟨by rw [HSn.out]; exact H2.out.1, H2.out.2⟩⟩
          case measure => simp [intOf]; omega
    · obtain rfl : n = mc := by omega
      have hii : ¬ ((n : Int) < (n : Int)) := by omega
      have hall := HA.out
      rw [List.take_of_length_le (by have := HZ.out.2.2; omega)] at hall
      have HF := Lib.hid hall
      clear hall
      go_wp2
      go_ret
      exact ⟨A, _, c, rfl, HZ.out.2.2.symm, HF.out.1, HF.out.2⟩
end Go.Proofs.YtdljphbfbiganaaGreatDoor.Pl
