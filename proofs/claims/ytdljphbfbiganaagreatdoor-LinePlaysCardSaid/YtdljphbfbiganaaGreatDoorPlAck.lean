import Derived.Test.YtdljphbfbiganaaGreatDoorTk
import Derived.Test.YtdljphbfbiganaaGreatDoorGPlNote
import Derived.Test.YtdljphbfbiganaaGreatDoorShaROf
import Derived.Test.YtdljphbfbiganaaGreatDoorPlTmo
/- The page's line: a packet is acknowledged. -/
namespace Go.Proofs.YtdljphbfbiganaaGreatDoor.Pl
open Go Go.RowKit Packet Mg Lg Ln
set_option linter.unusedVariables false

theorem rof_g (a : ByteArray) (ha : a.size ≤ 1000000) (W : World) : Calls Tryz.prog 30 #[.string a] W fun r w' => r = .returned (.agg (ackP a)) ∧ Below W.heap.size W w' := Sha.rof_any a ha W
set_option maxRecDepth 20000 in
set_option maxHeartbeats 4000000 in
theorem pak_err {w : World} {b0 B : Nat} {s : St} {Ac Aa : Option Addr} {mc cc ma ca : Nat} {B2 : Nat} {s2 : St} {Ac2 Aa2 : Option Addr} {mc2 cc2 ma2 ca2 : Nat} (p : P5) (a : ByteArray) (hL : PN b0 w B s Ac mc cc Aa ma ca) (hO : PN b0 w B2 s2 Ac2 mc2 cc2 Aa2 ma2 ca2) (hb0 : b0 ≤ w.heap.size) (c : Int) (hc : (c != 0) = true) (hop : MnIs p b0 B s Ac mc cc Aa ma ca c) :
    Calls Tryz.prog 13 #[.pointer (some ⟨B, 0, none⟩), pkv p, .string a, .pointer (some ⟨B2, 0, none⟩)] w fun e w' => e = .returned (.int .i64 c) ∧ Below w.heap.size w w' := by
  have h0 : QO w p b0 B s Ac mc cc Aa ma ca b0 B2 s2 Ac2 mc2 cc2 Aa2 ma2 ca2 (w.alloc (.cells #[.int .i64 p.c, .int .i64 p.f, .int .u64 p.s, .int .u64 p.t, .string p.d] TPk)) := QO.new hL hO
  obtain ⟨V, hV⟩ : ∃ X, X = w.alloc (.cells #[.int .i64 p.c, .int .i64 p.f, .int .u64 p.s, .int .u64 p.t, .string p.d] TPk) := ⟨_, rfl⟩
  rw [← hV] at h0
  have hop1 := hop V h0.1.2.2
  have H0 := Lib.hid h0
  have HV := Lib.hid hV
  have HOp := Lib.hid hop1
  have HB0 := Lib.hid hb0
  clear h0 hV hop1 hop hL hO hb0
  obtain ⟨h0, h1, h2, h3, h4, hf0⟩ := H0.out.1.2.1.cells
  go_enter Tryz.func13, Tryz.ntmps13
  go_upto_region 1 with fail
  rw [← HV.out]
  go_wp2_with fail
  refine (HOp.out).mono ?_
  rintro _ w1 ⟨rfl, b1⟩
  have H1 := Lib.hid (QO.call H0.out b1)
  clear b1 h0 h1 h2 h3 h4 hf0
  obtain ⟨h0, h1, h2, h3, h4, hf0⟩ := H1.out.1.2.1.cells
  obtain ⟨e0, e1, e2, e3, e4, e5, e6, e7, e8, hf1⟩ := H1.out.1.2.2.cells
  go_wp2
  go_ret
  exact ⟨rfl, H1.out.1.1⟩
set_option maxRecDepth 20000 in
set_option maxHeartbeats 4000000 in
theorem pak_none {w : World} {b0 B : Nat} {s : St} {Ac Aa : Option Addr} {mc cc ma ca : Nat} {B2 : Nat} {s2 : St} {Ac2 Aa2 : Option Addr} {mc2 cc2 ma2 ca2 : Nat} (p : P5) (a : ByteArray) (hL : PN b0 w B s Ac mc cc Aa ma ca) (hO : PN b0 w B2 s2 Ac2 mc2 cc2 Aa2 ma2 ca2) (hb0 : b0 ≤ w.heap.size) (hop : MnIs p b0 B s Ac mc cc Aa ma ca 0) (hm2 : s2.ac.length ≤ 1000000) (hk2 : (Mg.lk p.s s2.ac).isSome = false) :
    Calls Tryz.prog 13 #[.pointer (some ⟨B, 0, none⟩), pkv p, .string a, .pointer (some ⟨B2, 0, none⟩)] w fun e w' => e = .returned (.int .i64 18) ∧ Below w.heap.size w w' := by
  have HM2 := Lib.hid hm2
  have HK2 := Lib.hid hk2
  clear hm2 hk2
  have h0 : QO w p b0 B s Ac mc cc Aa ma ca b0 B2 s2 Ac2 mc2 cc2 Aa2 ma2 ca2 (w.alloc (.cells #[.int .i64 p.c, .int .i64 p.f, .int .u64 p.s, .int .u64 p.t, .string p.d] TPk)) := QO.new hL hO
  obtain ⟨V, hV⟩ : ∃ X, X = w.alloc (.cells #[.int .i64 p.c, .int .i64 p.f, .int .u64 p.s, .int .u64 p.t, .string p.d] TPk) := ⟨_, rfl⟩
  rw [← hV] at h0
  have hop1 := hop V h0.1.2.2
  have H0 := Lib.hid h0
  have HV := Lib.hid hV
  have HOp := Lib.hid hop1
  have HB0 := Lib.hid hb0
  clear h0 hV hop1 hop hL hO hb0
  obtain ⟨h0, h1, h2, h3, h4, hf0⟩ := H0.out.1.2.1.cells
  go_enter Tryz.func13, Tryz.ntmps13
  go_upto_region 1 with fail
  rw [← HV.out]
  go_wp2_with fail
  refine (HOp.out).mono ?_
  rintro _ w1 ⟨rfl, b1⟩
  have H1 := Lib.hid (QO.call H0.out b1)
  clear b1 h0 h1 h2 h3 h4 hf0
  obtain ⟨h0, h1, h2, h3, h4, hf0⟩ := H1.out.1.2.1.cells
  obtain ⟨e0, e1, e2, e3, e4, e5, e6, e7, e8, hf1⟩ := H1.out.1.2.2.cells
  go_upto_region 4 with fail
  clear h0 h1 h2 h3 h4 hf0 e0 e1 e2 e3 e4 e5 e6 e7 e8 hf1
  refine wp_region_held_drew (S := QO w p b0 B s Ac mc cc Aa ma ca b0 B2 s2 Ac2 mc2 cc2 Aa2 ma2 ca2) (by kernel_rfl) (QO.drew H1.out) (fun hHeld => ?_)
  refine tk (i := 0) (v := ?_) rfl (by kernel_rfl) (fun _ _ _ h => h) (by rfl) ?_ (by assumption) ?_
  rotate_left
  · (intro W hSw; have hz := hSw.1.2.1.cells; have hy := hSw.2.cells; go_simp; try with_reducible rfl)
  try simp only [Act.put, gA, gZ, sA, sZ, sS]
  refine tk (i := 1) (v := ?_) rfl (by kernel_rfl) (fun _ _ _ h => h) (by rfl) ?_ (by assumption) ?_
  rotate_left
  · (intro W hSw; have hz := hSw.1.2.1.cells; have hy := hSw.2.cells; go_simp; try with_reducible rfl)
  try simp only [Act.put, gA, gS, gZ, sA, sZ, sS]
  refine tk (i := 2) (v := ?_) rfl (by kernel_rfl) (fun _ _ _ h => h) (by rfl) ?_ (by assumption) ?_
  rotate_left
  · (intro W hSw; have hz := hSw.1.2.1.cells; have hy := hSw.2.cells; go_simp; try with_reducible rfl)
  try simp only [Act.put, gA, gS, gZ, sA, sZ, sS]
  refine tk (i := 3) (v := ?_) rfl (by kernel_rfl) (fun _ _ _ h => h) (by rfl) ?_ (by assumption) ?_
  rotate_left
  · (intro W hSw; have hz := hSw.1.2.1.cells; have hy := hSw.2.cells; go_simp; try with_reducible rfl)
  try simp only [Act.put, gA, gS, gZ, sA, sZ, sS]
  refine tk (i := 4) (v := ?_) rfl (by kernel_rfl) (fun _ _ _ h => h) (by rfl) ?_ (by assumption) ?_
  rotate_left
  · (intro W hSw; have hz := hSw.1.2.1.cells; have hy := hSw.2.cells; go_simp; try with_reducible rfl)
  try simp only [Act.put, gA, gS, gZ, sA, sZ, sS]
  refine tk (i := 5) (v := ?_) rfl (by kernel_rfl) (fun _ _ _ h => h) (by rfl) ?_ (by assumption) ?_
  rotate_left
  · (intro W hSw; have hz := hSw.1.2.1.cells; have hy := hSw.2.cells; go_simp; try with_reducible rfl)
  try simp only [Act.put, gA, gS, gZ, sA, sZ, sS]
  refine wpAnyH_ready (rs := [6]) (by kernel_rfl) (by simp) ?_
  refine AllReadyH.cons rfl (fun K hK => ?_) AllReadyH.nil
  simp only [gA, gS, gZ]
  rw [if_pos (by rfl)]
  go_simp
  refine (find_any Aa2 ma2 ca2 s2.ac p.s _ (own_rdT hHeld.2.ra hHeld.2.aok) (by have := hHeld.2.ra.2; have := HM2.out; omega)).mono ?_
  rintro e w2 ⟨⟨z, rfl, hz⟩, hw⟩
  obtain rfl := hw.symm
  clear hw
  rcases hz with ⟨i, hi, rfl, hk1, hk2, -⟩ | ⟨rfl, hk2⟩
  · exact absurd (HK2.out) (by rw [hk2]; simp)
  clear hk2
  go_wp2_with fail
  refine hK.out _ _ hHeld (fun hHeld => ?_)
  clear hK K
  try simp only [Act.put, gA, gS, gZ, sA, sZ, sS]
  refine tk (i := 7) (v := ?_) rfl (by kernel_rfl) (fun _ _ _ h => h) (by rfl) ?_ (by assumption) ?_
  rotate_left
  · (intro W hSw; have hz := hSw.1.2.1.cells; have hy := hSw.2.cells; go_simp; try with_reducible rfl)
  try simp only [Act.put, gA, gS, gZ, sA, sZ, sS]
  refine wpAnyH_done (by kernel_rfl) ?_ _
  have H3 := Lib.hid hHeld
  clear hHeld
  go_upto_region 5 with fail
  refine wp_region_held_drew (S := QO w p b0 B s Ac mc cc Aa ma ca b0 B2 s2 Ac2 mc2 cc2 Aa2 ma2 ca2) (by kernel_rfl) (QO.drew H3.out) (fun hHeld => ?_)
  refine tk (i := 0) (v := ?_) rfl (by kernel_rfl) (fun _ _ _ h => h) (by rfl) ?_ (by assumption) ?_
  rotate_left
  · (intro W hSw; have hz := hSw.1.2.1.cells; have hy := hSw.2.cells; go_simp; try with_reducible rfl)
  try simp only [Act.put, gA, gZ, sA, sZ, sS]
  refine tk (i := 1) (v := ?_) rfl (by kernel_rfl) (fun _ _ _ h => h) (by rfl) ?_ (by assumption) ?_
  rotate_left
  · (intro W hSw; have hz := hSw.1.2.1.cells; have hy := hSw.2.cells; go_simp; try with_reducible rfl)
  try simp only [Act.put, gA, gS, gZ, sA, sZ, sS]
  refine tk (i := 2) (v := ?_) rfl (by kernel_rfl) (fun _ _ _ h => h) (by rfl) ?_ (by assumption) ?_
  rotate_left
  · (intro W hSw; have hz := hSw.1.2.1.cells; have hy := hSw.2.cells; go_simp; try with_reducible rfl)
  try simp only [Act.put, gA, gS, gZ, sA, sZ, sS]
  refine tn (i := 3) rfl (by kernel_rfl) (fun _ _ _ h => h) (by rfl) rfl (by assumption) ?_
  try simp only [Act.put, gA, gS, gZ, sA, sZ, sS]
  refine tn (i := 4) rfl (by kernel_rfl) (fun _ _ _ h => h) (by rfl) rfl (by assumption) ?_
  try simp only [Act.put, gA, gS, gZ, sA, sZ, sS]
  refine tn (i := 5) rfl (by kernel_rfl) (fun _ _ _ h => h) (by rfl) rfl (by assumption) ?_
  try simp only [Act.put, gA, gS, gZ, sA, sZ, sS]
  refine tn (i := 6) rfl (by kernel_rfl) (fun _ _ _ h => h) (by rfl) rfl (by assumption) ?_
  try simp only [Act.put, gA, gS, gZ, sA, sZ, sS]
  refine tn (i := 7) rfl (by kernel_rfl) (fun _ _ _ h => h) (by rfl) rfl (by assumption) ?_
  try simp only [Act.put, gA, gS, gZ, sA, sZ, sS]
  refine tn (i := 8) rfl (by kernel_rfl) (fun _ _ _ h => h) (by rfl) rfl (by assumption) ?_
  try simp only [Act.put, gA, gS, gZ, sA, sZ, sS]
  refine tn (i := 9) rfl (by kernel_rfl) (fun _ _ _ h => h) (by rfl) rfl (by assumption) ?_
  try simp only [Act.put, gA, gS, gZ, sA, sZ, sS]
  refine tn (i := 10) rfl (by kernel_rfl) (fun _ _ _ h => h) (by rfl) rfl (by assumption) ?_
  try simp only [Act.put, gA, gS, gZ, sA, sZ, sS]
  refine tn (i := 11) rfl (by kernel_rfl) (fun _ _ _ h => h) (by rfl) rfl (by assumption) ?_
  try simp only [Act.put, gA, gS, gZ, sA, sZ, sS]
  refine tn (i := 12) rfl (by kernel_rfl) (fun _ _ _ h => h) (by rfl) rfl (by assumption) ?_
  try simp only [Act.put, gA, gS, gZ, sA, sZ, sS]
  refine tn (i := 13) rfl (by kernel_rfl) (fun _ _ _ h => h) (by rfl) rfl (by assumption) ?_
  try simp only [Act.put, gA, gS, gZ, sA, sZ, sS]
  refine tk (i := 14) (v := ?_) rfl (by kernel_rfl) (fun _ _ _ h => h) (by rfl) ?_ (by assumption) ?_
  rotate_left
  · (intro W hSw; have hz := hSw.1.2.1.cells; have hy := hSw.2.cells; go_simp; try with_reducible rfl)
  try simp only [Act.put, gA, gS, gZ, sA, sZ, sS]
  refine wpAnyH_done (by kernel_rfl) ?_ _
  have H5 := Lib.hid hHeld
  clear hHeld
  go_wp2
  go_ret
  exact ⟨rfl, H5.out.1.1⟩
set_option maxRecDepth 20000 in
set_option maxHeartbeats 4000000 in
theorem pak_other {w : World} {b0 B : Nat} {s : St} {Ac Aa : Option Addr} {mc cc ma ca : Nat} {B2 : Nat} {s2 : St} {Ac2 Aa2 : Option Addr} {mc2 cc2 ma2 ca2 : Nat} (p : P5) (a : ByteArray) (hL : PN b0 w B s Ac mc cc Aa ma ca) (hO : PN b0 w B2 s2 Ac2 mc2 cc2 Aa2 ma2 ca2) (hb0 : b0 ≤ w.heap.size) (hop : MnIs p b0 B s Ac mc cc Aa ma ca 0) (ha : a.size ≤ 1000000) (hm2 : s2.ac.length ≤ 1000000) (hk2 : (Mg.lk p.s s2.ac).isSome = true) (hC2 : sumOf p.s s2.ac ≠ ackP a) :
    Calls Tryz.prog 13 #[.pointer (some ⟨B, 0, none⟩), pkv p, .string a, .pointer (some ⟨B2, 0, none⟩)] w fun e w' => e = .returned (.int .i64 18) ∧ Below w.heap.size w w' := by
  obtain ⟨b, hb, hne⟩ := neq_arr TA3 Tryz.underlying57 (sumOf p.s s2.ac) (ackP a) (sumOf_ok hO.aok) (ackP_ok a)
  have hbv : b = false := by cases b with | false => rfl | true => exact absurd (hb.1 rfl) hC2
  rw [hbv] at hne
  have hCo := sumOf_ok (k := p.s) hO.aok
  have hSu := fun W => rof_g a ha W
  obtain ⟨C, hCd⟩ : ∃ C, C = sumOf p.s s2.ac := ⟨_, rfl⟩
  obtain ⟨D, hDd⟩ : ∃ D, D = ackP a := ⟨_, rfl⟩
  rw [← hCd] at hne hCo
  rw [← hDd] at hne hSu
  have HSu := Lib.hid hSu
  have HC := Lib.hid hCo
  have HNe := Lib.hid hne
  have HCd := Lib.hid hCd
  clear hne hb hbv hC2 hCo hCd hDd hSu
  have HM2 := Lib.hid hm2
  have HK2 := Lib.hid hk2
  clear hm2 hk2
  clear ha
  have h0 : QO w p b0 B s Ac mc cc Aa ma ca b0 B2 s2 Ac2 mc2 cc2 Aa2 ma2 ca2 (w.alloc (.cells #[.int .i64 p.c, .int .i64 p.f, .int .u64 p.s, .int .u64 p.t, .string p.d] TPk)) := QO.new hL hO
  obtain ⟨V, hV⟩ : ∃ X, X = w.alloc (.cells #[.int .i64 p.c, .int .i64 p.f, .int .u64 p.s, .int .u64 p.t, .string p.d] TPk) := ⟨_, rfl⟩
  rw [← hV] at h0
  have hop1 := hop V h0.1.2.2
  have H0 := Lib.hid h0
  have HV := Lib.hid hV
  have HOp := Lib.hid hop1
  have HB0 := Lib.hid hb0
  clear h0 hV hop1 hop hL hO hb0
  obtain ⟨h0, h1, h2, h3, h4, hf0⟩ := H0.out.1.2.1.cells
  go_enter Tryz.func13, Tryz.ntmps13
  go_upto_region 1 with fail
  rw [← HV.out]
  go_wp2_with fail
  refine (HOp.out).mono ?_
  rintro _ w1 ⟨rfl, b1⟩
  have H1 := Lib.hid (QO.call H0.out b1)
  clear b1 h0 h1 h2 h3 h4 hf0
  obtain ⟨h0, h1, h2, h3, h4, hf0⟩ := H1.out.1.2.1.cells
  obtain ⟨e0, e1, e2, e3, e4, e5, e6, e7, e8, hf1⟩ := H1.out.1.2.2.cells
  go_upto_region 4 with fail
  clear h0 h1 h2 h3 h4 hf0 e0 e1 e2 e3 e4 e5 e6 e7 e8 hf1
  refine wp_region_held_drew (S := QO w p b0 B s Ac mc cc Aa ma ca b0 B2 s2 Ac2 mc2 cc2 Aa2 ma2 ca2) (by kernel_rfl) (QO.drew H1.out) (fun hHeld => ?_)
  refine tk (i := 0) (v := ?_) rfl (by kernel_rfl) (fun _ _ _ h => h) (by rfl) ?_ (by assumption) ?_
  rotate_left
  · (intro W hSw; have hz := hSw.1.2.1.cells; have hy := hSw.2.cells; go_simp; try with_reducible rfl)
  try simp only [Act.put, gA, gZ, sA, sZ, sS]
  refine tk (i := 1) (v := ?_) rfl (by kernel_rfl) (fun _ _ _ h => h) (by rfl) ?_ (by assumption) ?_
  rotate_left
  · (intro W hSw; have hz := hSw.1.2.1.cells; have hy := hSw.2.cells; go_simp; try with_reducible rfl)
  try simp only [Act.put, gA, gS, gZ, sA, sZ, sS]
  refine tk (i := 2) (v := ?_) rfl (by kernel_rfl) (fun _ _ _ h => h) (by rfl) ?_ (by assumption) ?_
  rotate_left
  · (intro W hSw; have hz := hSw.1.2.1.cells; have hy := hSw.2.cells; go_simp; try with_reducible rfl)
  try simp only [Act.put, gA, gS, gZ, sA, sZ, sS]
  refine tk (i := 3) (v := ?_) rfl (by kernel_rfl) (fun _ _ _ h => h) (by rfl) ?_ (by assumption) ?_
  rotate_left
  · (intro W hSw; have hz := hSw.1.2.1.cells; have hy := hSw.2.cells; go_simp; try with_reducible rfl)
  try simp only [Act.put, gA, gS, gZ, sA, sZ, sS]
  refine tk (i := 4) (v := ?_) rfl (by kernel_rfl) (fun _ _ _ h => h) (by rfl) ?_ (by assumption) ?_
  rotate_left
  · (intro W hSw; have hz := hSw.1.2.1.cells; have hy := hSw.2.cells; go_simp; try with_reducible rfl)
  try simp only [Act.put, gA, gS, gZ, sA, sZ, sS]
  refine tk (i := 5) (v := ?_) rfl (by kernel_rfl) (fun _ _ _ h => h) (by rfl) ?_ (by assumption) ?_
  rotate_left
  · (intro W hSw; have hz := hSw.1.2.1.cells; have hy := hSw.2.cells; go_simp; try with_reducible rfl)
  try simp only [Act.put, gA, gS, gZ, sA, sZ, sS]
  refine wpAnyH_ready (rs := [6]) (by kernel_rfl) (by simp) ?_
  refine AllReadyH.cons rfl (fun K hK => ?_) AllReadyH.nil
  simp only [gA, gS, gZ]
  rw [if_pos (by rfl)]
  go_simp
  refine (find_any Aa2 ma2 ca2 s2.ac p.s _ (own_rdT hHeld.2.ra hHeld.2.aok) (by have := hHeld.2.ra.2; have := HM2.out; omega)).mono ?_
  rintro e w2 ⟨⟨z, rfl, hz⟩, hw⟩
  obtain rfl := hw.symm
  clear hw
  rcases hz with ⟨i, hi, rfl, hk1, hk2, -⟩ | ⟨rfl, hk2⟩
  rotate_left
  · exact absurd (HK2.out) (by rw [hk2]; simp)
  have HI := Lib.hid (And.intro hi (And.intro hk1 hk2))
  have hi0 : (0 : Int) ≤ (i : Int) := by omega
  clear hk1 hk2
  go_wp2_with fail
  refine hK.out _ _ hHeld (fun hHeld => ?_)
  clear hK K
  try simp only [Act.put, gA, gS, gZ, sA, sZ, sS]
  refine tk (i := 7) (v := ?_) rfl (by kernel_rfl) (fun _ _ _ h => h) (by rfl) ?_ (by assumption) ?_
  rotate_left
  · (intro W hSw; have hz := hSw.1.2.1.cells; have hy := hSw.2.cells; go_simp; try with_reducible rfl)
  try simp only [Act.put, gA, gS, gZ, sA, sZ, sS]
  refine wpAnyH_done (by kernel_rfl) ?_ _
  have H3 := Lib.hid hHeld
  clear hHeld
  obtain ⟨b9, off, hA, hbl, hcs⟩ := (own_rdT H3.out.2.ra H3.out.2.aok).cells (by have := H3.out.2.ra.2; have := HI.out.1; omega)
  subst hA
  have himc : (i : Int) < (ma2 : Int) := by have := H3.out.2.ra.2; have := HI.out.1; omega
  have hilt : ¬ (i : Int) < 0 := by omega
  have hsum : (s2.ac[i]'hi).2 = C := by rw [HCd.out]; unfold sumOf; rw [HI.out.2.2]; rfl
  have HSm := Lib.hid hsum
  have HCs : Hid (∀ V, QO w p b0 B s Ac mc cc Aa ma ca b0 B2 s2 Ac2 mc2 cc2 (some ⟨b9, off, none⟩) ma2 ca2 V → V.rangeAt b9 (off + i * 33 + 1) C.toList) := Lib.hid fun V hV => by
    obtain ⟨b9', off', hA', _, hcs'⟩ := (own_rdT hV.2.ra hV.2.aok).cells (by have := hV.2.ra.2; have := HI.out.1; omega)
    injection hA' with hA'
    injection hA' with h1 h2
    subst h1 h2
    rw [← HSm.out]
    exact ncl_sum (fun j hj => hcs' i hi j hj) (hV.2.aok _ (List.getElem_mem hi))
  clear hbl hcs hsum
  go_upto_region 5 with fail
  refine wp_region_held_drew (S := QO w p b0 B s Ac mc cc Aa ma ca b0 B2 s2 Ac2 mc2 cc2 (some ⟨b9, off, none⟩) ma2 ca2) (by kernel_rfl) (QO.drew H3.out) (fun hHeld => ?_)
  refine tk (i := 0) (v := ?_) rfl (by kernel_rfl) (fun _ _ _ h => h) (by rfl) ?_ (by assumption) ?_
  rotate_left
  · (intro W hSw; have hz := hSw.1.2.1.cells; have hy := hSw.2.cells; skip; go_simp; try with_reducible rfl)
  try simp only [Act.put, gA, gZ, sA, sZ, sS]
  refine tk (i := 1) (v := ?_) rfl (by kernel_rfl) (fun _ _ _ h => h) (by rfl) ?_ (by assumption) ?_
  rotate_left
  · (intro W hSw; have hz := hSw.1.2.1.cells; have hy := hSw.2.cells; skip; go_simp; try with_reducible rfl)
  try simp only [Act.put, gA, gS, gZ, sA, sZ, sS]
  refine tk (i := 2) (v := ?_) rfl (by kernel_rfl) (fun _ _ _ h => h) (by rfl) ?_ (by assumption) ?_
  rotate_left
  · (intro W hSw; have hz := hSw.1.2.1.cells; have hy := hSw.2.cells; skip; go_simp; try with_reducible rfl)
  try simp only [Act.put, gA, gS, gZ, sA, sZ, sS]
  refine tk (i := 3) (v := ?_) rfl (by kernel_rfl) (fun _ _ _ h => h) (by rfl) ?_ (by assumption) ?_
  rotate_left
  · (intro W hSw; have hz := hSw.1.2.1.cells; have hy := hSw.2.cells; skip; go_simp; try with_reducible rfl)
  try simp only [Act.put, gA, gS, gZ, sA, sZ, sS]
  refine tk (i := 4) (v := ?_) rfl (by kernel_rfl) (fun _ _ _ h => h) (by rfl) ?_ (by assumption) ?_
  rotate_left
  · (intro W hSw; have hz := hSw.1.2.1.cells; have hy := hSw.2.cells; skip; go_simp; try with_reducible rfl)
  try simp only [Act.put, gA, gS, gZ, sA, sZ, sS]
  refine tk (i := 5) (v := ?_) rfl (by kernel_rfl) (fun _ _ _ h => h) (by rfl) ?_ (by assumption) ?_
  rotate_left
  · (intro W hSw; have hz := hSw.1.2.1.cells; have hy := hSw.2.cells; skip; go_simp; try with_reducible rfl)
  try simp only [Act.put, gA, gS, gZ, sA, sZ, sS]
  refine tk (i := 6) (v := ?_) rfl (by kernel_rfl) (fun _ _ _ h => h) (by rfl) ?_ (by assumption) ?_
  rotate_left
  · (intro W hSw; have hz := hSw.1.2.1.cells; have hy := hSw.2.cells; skip; go_simp; try with_reducible rfl)
  try simp only [Act.put, gA, gS, gZ, sA, sZ, sS]
  refine tk (i := 7) (v := ?_) rfl (by kernel_rfl) (fun _ _ _ h => h) (by rfl) ?_ (by assumption) ?_
  rotate_left
  · (intro W hSw; have hz := hSw.1.2.1.cells; have hy := hSw.2.cells; skip; go_simp; try with_reducible rfl)
  try simp only [Act.put, gA, gS, gZ, sA, sZ, sS]
  refine tk (i := 8) (v := ?_) rfl (by kernel_rfl) (fun _ _ _ h => h) (by rfl) ?_ (by assumption) ?_
  rotate_left
  · (intro W hSw; have hz := hSw.1.2.1.cells; have hy := hSw.2.cells; skip; go_simp; try with_reducible rfl)
  try simp only [Act.put, gA, gS, gZ, sA, sZ, sS]
  refine tk (i := 9) (v := ?_) rfl (by kernel_rfl) (fun _ _ _ h => h) (by rfl) ?_ (by assumption) ?_
  rotate_left
  · (intro W hSw; have hz := hSw.1.2.1.cells; have hy := hSw.2.cells; skip; go_simp; try with_reducible rfl)
  try simp only [Act.put, gA, gS, gZ, sA, sZ, sS]
  refine tk (i := 10) (v := ?_) rfl (by kernel_rfl) (fun _ _ _ h => h) (by rfl) ?_ (by assumption) ?_
  rotate_left
  · (intro W hSw; (refine yields_mid TA3 (.tmp 33) ?_ b9 (off + i * 33 + 1) ?_ C _ (HCs.out _ hSw) Tryz.underlying57 rfl (a32 C HC.out.1)); rfl; rfl)
  try simp only [Act.put, gA, gS, gZ, sA, sZ, sS]
  refine tk (i := 11) (v := ?_) rfl (by kernel_rfl) (fun _ _ _ h => h) (by rfl) ?_ (by assumption) ?_
  rotate_left
  · (intro W hSw; have hz := hSw.1.2.1.cells; have hy := hSw.2.cells; skip; go_simp; try with_reducible rfl)
  try simp only [Act.put, gA, gS, gZ, sA, sZ, sS]
  refine wpAnyH_ready (rs := [12]) (by kernel_rfl) (by simp) ?_
  refine AllReadyH.cons rfl (fun K hK => ?_) AllReadyH.nil
  simp only [gA, gS, gZ]
  rw [if_pos (by rfl)]
  go_simp
  (refine (HSu.out _).mono ?_; rintro e w5 ⟨rfl, hb5⟩)
  go_wp2_with fail
  refine hK.out _ _ (QO.call hHeld hb5) (fun hHeld => ?_)
  clear hK K
  try simp only [Act.put, gA, gS, gZ, sA, sZ, sS]
  have hneq := HNe.out
  refine tk (i := 13) (v := ?_) rfl (by kernel_rfl) (fun _ _ _ h => h) (by rfl) ?_ (by assumption) ?_
  rotate_left
  · (intro W hSw; have hz := hSw.1.2.1.cells; have hy := hSw.2.cells; skip; go_simp; try with_reducible rfl)
  try simp only [Act.put, gA, gS, gZ, sA, sZ, sS]
  refine tk (i := 14) (v := ?_) rfl (by kernel_rfl) (fun _ _ _ h => h) (by rfl) ?_ (by assumption) ?_
  rotate_left
  · (intro W hSw; have hz := hSw.1.2.1.cells; have hy := hSw.2.cells; skip; go_simp; try with_reducible rfl)
  try simp only [Act.put, gA, gS, gZ, sA, sZ, sS]
  refine wpAnyH_done (by kernel_rfl) ?_ _
  have H5 := Lib.hid hHeld
  clear hHeld hneq HCs
  go_wp2
  go_ret
  exact ⟨rfl, H5.out.1.1⟩
set_option maxRecDepth 20000 in
set_option maxHeartbeats 4000000 in
theorem pak_order {w : World} {b0 B : Nat} {s : St} {Ac Aa : Option Addr} {mc cc ma ca : Nat} {B2 : Nat} {s2 : St} {Ac2 Aa2 : Option Addr} {mc2 cc2 ma2 ca2 : Nat} (p : P5) (a : ByteArray) (hL : PN b0 w B s Ac mc cc Aa ma ca) (hO : PN b0 w B2 s2 Ac2 mc2 cc2 Aa2 ma2 ca2) (hb0 : b0 ≤ w.heap.size) (hop : MnIs p b0 B s Ac mc cc Aa ma ca 0) (ha : a.size ≤ 1000000) (hm2 : s2.ac.length ≤ 1000000) (hk2 : (Mg.lk p.s s2.ac).isSome = true) (hC2 : sumOf p.s s2.ac = ackP a) (hor : s.o = true) (hnk : (p.s != s.ak) = true) :
    Calls Tryz.prog 13 #[.pointer (some ⟨B, 0, none⟩), pkv p, .string a, .pointer (some ⟨B2, 0, none⟩)] w fun e w' => e = .returned (.int .i64 19) ∧ Below w.heap.size w w' := by
  obtain ⟨b, hb, hne⟩ := neq_arr TA3 Tryz.underlying57 (sumOf p.s s2.ac) (ackP a) (sumOf_ok hO.aok) (ackP_ok a)
  have hbv : b = true := hb.2 hC2
  rw [hbv] at hne
  have hCo := sumOf_ok (k := p.s) hO.aok
  have hSu := fun W => rof_g a ha W
  obtain ⟨C, hCd⟩ : ∃ C, C = sumOf p.s s2.ac := ⟨_, rfl⟩
  obtain ⟨D, hDd⟩ : ∃ D, D = ackP a := ⟨_, rfl⟩
  rw [← hCd] at hne hCo
  rw [← hDd] at hne hSu
  have HSu := Lib.hid hSu
  have HC := Lib.hid hCo
  have HNe := Lib.hid hne
  have HCd := Lib.hid hCd
  clear hne hb hbv hC2 hCo hCd hDd hSu
  have HM2 := Lib.hid hm2
  have HK2 := Lib.hid hk2
  clear hm2 hk2
  clear ha
  have h0 : QO w p b0 B s Ac mc cc Aa ma ca b0 B2 s2 Ac2 mc2 cc2 Aa2 ma2 ca2 (w.alloc (.cells #[.int .i64 p.c, .int .i64 p.f, .int .u64 p.s, .int .u64 p.t, .string p.d] TPk)) := QO.new hL hO
  obtain ⟨V, hV⟩ : ∃ X, X = w.alloc (.cells #[.int .i64 p.c, .int .i64 p.f, .int .u64 p.s, .int .u64 p.t, .string p.d] TPk) := ⟨_, rfl⟩
  rw [← hV] at h0
  have hop1 := hop V h0.1.2.2
  have H0 := Lib.hid h0
  have HV := Lib.hid hV
  have HOp := Lib.hid hop1
  have HB0 := Lib.hid hb0
  clear h0 hV hop1 hop hL hO hb0
  obtain ⟨h0, h1, h2, h3, h4, hf0⟩ := H0.out.1.2.1.cells
  go_enter Tryz.func13, Tryz.ntmps13
  go_upto_region 1 with fail
  rw [← HV.out]
  go_wp2_with fail
  refine (HOp.out).mono ?_
  rintro _ w1 ⟨rfl, b1⟩
  have H1 := Lib.hid (QO.call H0.out b1)
  clear b1 h0 h1 h2 h3 h4 hf0
  obtain ⟨h0, h1, h2, h3, h4, hf0⟩ := H1.out.1.2.1.cells
  obtain ⟨e0, e1, e2, e3, e4, e5, e6, e7, e8, hf1⟩ := H1.out.1.2.2.cells
  go_upto_region 4 with fail
  clear h0 h1 h2 h3 h4 hf0 e0 e1 e2 e3 e4 e5 e6 e7 e8 hf1
  refine wp_region_held_drew (S := QO w p b0 B s Ac mc cc Aa ma ca b0 B2 s2 Ac2 mc2 cc2 Aa2 ma2 ca2) (by kernel_rfl) (QO.drew H1.out) (fun hHeld => ?_)
  refine tk (i := 0) (v := ?_) rfl (by kernel_rfl) (fun _ _ _ h => h) (by rfl) ?_ (by assumption) ?_
  rotate_left
  · (intro W hSw; have hz := hSw.1.2.1.cells; have hy := hSw.2.cells; go_simp; try with_reducible rfl)
  try simp only [Act.put, gA, gZ, sA, sZ, sS]
  refine tk (i := 1) (v := ?_) rfl (by kernel_rfl) (fun _ _ _ h => h) (by rfl) ?_ (by assumption) ?_
  rotate_left
  · (intro W hSw; have hz := hSw.1.2.1.cells; have hy := hSw.2.cells; go_simp; try with_reducible rfl)
  try simp only [Act.put, gA, gS, gZ, sA, sZ, sS]
  refine tk (i := 2) (v := ?_) rfl (by kernel_rfl) (fun _ _ _ h => h) (by rfl) ?_ (by assumption) ?_
  rotate_left
  · (intro W hSw; have hz := hSw.1.2.1.cells; have hy := hSw.2.cells; go_simp; try with_reducible rfl)
  try simp only [Act.put, gA, gS, gZ, sA, sZ, sS]
  refine tk (i := 3) (v := ?_) rfl (by kernel_rfl) (fun _ _ _ h => h) (by rfl) ?_ (by assumption) ?_
  rotate_left
  · (intro W hSw; have hz := hSw.1.2.1.cells; have hy := hSw.2.cells; go_simp; try with_reducible rfl)
  try simp only [Act.put, gA, gS, gZ, sA, sZ, sS]
  refine tk (i := 4) (v := ?_) rfl (by kernel_rfl) (fun _ _ _ h => h) (by rfl) ?_ (by assumption) ?_
  rotate_left
  · (intro W hSw; have hz := hSw.1.2.1.cells; have hy := hSw.2.cells; go_simp; try with_reducible rfl)
  try simp only [Act.put, gA, gS, gZ, sA, sZ, sS]
  refine tk (i := 5) (v := ?_) rfl (by kernel_rfl) (fun _ _ _ h => h) (by rfl) ?_ (by assumption) ?_
  rotate_left
  · (intro W hSw; have hz := hSw.1.2.1.cells; have hy := hSw.2.cells; go_simp; try with_reducible rfl)
  try simp only [Act.put, gA, gS, gZ, sA, sZ, sS]
  refine wpAnyH_ready (rs := [6]) (by kernel_rfl) (by simp) ?_
  refine AllReadyH.cons rfl (fun K hK => ?_) AllReadyH.nil
  simp only [gA, gS, gZ]
  rw [if_pos (by rfl)]
  go_simp
  refine (find_any Aa2 ma2 ca2 s2.ac p.s _ (own_rdT hHeld.2.ra hHeld.2.aok) (by have := hHeld.2.ra.2; have := HM2.out; omega)).mono ?_
  rintro e w2 ⟨⟨z, rfl, hz⟩, hw⟩
  obtain rfl := hw.symm
  clear hw
  rcases hz with ⟨i, hi, rfl, hk1, hk2, -⟩ | ⟨rfl, hk2⟩
  rotate_left
  · exact absurd (HK2.out) (by rw [hk2]; simp)
  have HI := Lib.hid (And.intro hi (And.intro hk1 hk2))
  have hi0 : (0 : Int) ≤ (i : Int) := by omega
  clear hk1 hk2
  go_wp2_with fail
  refine hK.out _ _ hHeld (fun hHeld => ?_)
  clear hK K
  try simp only [Act.put, gA, gS, gZ, sA, sZ, sS]
  refine tk (i := 7) (v := ?_) rfl (by kernel_rfl) (fun _ _ _ h => h) (by rfl) ?_ (by assumption) ?_
  rotate_left
  · (intro W hSw; have hz := hSw.1.2.1.cells; have hy := hSw.2.cells; go_simp; try with_reducible rfl)
  try simp only [Act.put, gA, gS, gZ, sA, sZ, sS]
  refine wpAnyH_done (by kernel_rfl) ?_ _
  have H3 := Lib.hid hHeld
  clear hHeld
  obtain ⟨b9, off, hA, hbl, hcs⟩ := (own_rdT H3.out.2.ra H3.out.2.aok).cells (by have := H3.out.2.ra.2; have := HI.out.1; omega)
  subst hA
  have himc : (i : Int) < (ma2 : Int) := by have := H3.out.2.ra.2; have := HI.out.1; omega
  have hilt : ¬ (i : Int) < 0 := by omega
  have hsum : (s2.ac[i]'hi).2 = C := by rw [HCd.out]; unfold sumOf; rw [HI.out.2.2]; rfl
  have HSm := Lib.hid hsum
  have HCs : Hid (∀ V, QO w p b0 B s Ac mc cc Aa ma ca b0 B2 s2 Ac2 mc2 cc2 (some ⟨b9, off, none⟩) ma2 ca2 V → V.rangeAt b9 (off + i * 33 + 1) C.toList) := Lib.hid fun V hV => by
    obtain ⟨b9', off', hA', _, hcs'⟩ := (own_rdT hV.2.ra hV.2.aok).cells (by have := hV.2.ra.2; have := HI.out.1; omega)
    injection hA' with hA'
    injection hA' with h1 h2
    subst h1 h2
    rw [← HSm.out]
    exact ncl_sum (fun j hj => hcs' i hi j hj) (hV.2.aok _ (List.getElem_mem hi))
  clear hbl hcs hsum
  go_upto_region 5 with fail
  refine wp_region_held_drew (S := QO w p b0 B s Ac mc cc Aa ma ca b0 B2 s2 Ac2 mc2 cc2 (some ⟨b9, off, none⟩) ma2 ca2) (by kernel_rfl) (QO.drew H3.out) (fun hHeld => ?_)
  refine tk (i := 0) (v := ?_) rfl (by kernel_rfl) (fun _ _ _ h => h) (by rfl) ?_ (by assumption) ?_
  rotate_left
  · (intro W hSw; have hz := hSw.1.2.1.cells; have hy := hSw.2.cells; skip; go_simp; try with_reducible rfl)
  try simp only [Act.put, gA, gZ, sA, sZ, sS]
  refine tk (i := 1) (v := ?_) rfl (by kernel_rfl) (fun _ _ _ h => h) (by rfl) ?_ (by assumption) ?_
  rotate_left
  · (intro W hSw; have hz := hSw.1.2.1.cells; have hy := hSw.2.cells; skip; go_simp; try with_reducible rfl)
  try simp only [Act.put, gA, gS, gZ, sA, sZ, sS]
  refine tk (i := 2) (v := ?_) rfl (by kernel_rfl) (fun _ _ _ h => h) (by rfl) ?_ (by assumption) ?_
  rotate_left
  · (intro W hSw; have hz := hSw.1.2.1.cells; have hy := hSw.2.cells; skip; go_simp; try with_reducible rfl)
  try simp only [Act.put, gA, gS, gZ, sA, sZ, sS]
  refine tk (i := 3) (v := ?_) rfl (by kernel_rfl) (fun _ _ _ h => h) (by rfl) ?_ (by assumption) ?_
  rotate_left
  · (intro W hSw; have hz := hSw.1.2.1.cells; have hy := hSw.2.cells; skip; go_simp; try with_reducible rfl)
  try simp only [Act.put, gA, gS, gZ, sA, sZ, sS]
  refine tk (i := 4) (v := ?_) rfl (by kernel_rfl) (fun _ _ _ h => h) (by rfl) ?_ (by assumption) ?_
  rotate_left
  · (intro W hSw; have hz := hSw.1.2.1.cells; have hy := hSw.2.cells; skip; go_simp; try with_reducible rfl)
  try simp only [Act.put, gA, gS, gZ, sA, sZ, sS]
  refine tk (i := 5) (v := ?_) rfl (by kernel_rfl) (fun _ _ _ h => h) (by rfl) ?_ (by assumption) ?_
  rotate_left
  · (intro W hSw; have hz := hSw.1.2.1.cells; have hy := hSw.2.cells; skip; go_simp; try with_reducible rfl)
  try simp only [Act.put, gA, gS, gZ, sA, sZ, sS]
  refine tk (i := 6) (v := ?_) rfl (by kernel_rfl) (fun _ _ _ h => h) (by rfl) ?_ (by assumption) ?_
  rotate_left
  · (intro W hSw; have hz := hSw.1.2.1.cells; have hy := hSw.2.cells; skip; go_simp; try with_reducible rfl)
  try simp only [Act.put, gA, gS, gZ, sA, sZ, sS]
  refine tk (i := 7) (v := ?_) rfl (by kernel_rfl) (fun _ _ _ h => h) (by rfl) ?_ (by assumption) ?_
  rotate_left
  · (intro W hSw; have hz := hSw.1.2.1.cells; have hy := hSw.2.cells; skip; go_simp; try with_reducible rfl)
  try simp only [Act.put, gA, gS, gZ, sA, sZ, sS]
  refine tk (i := 8) (v := ?_) rfl (by kernel_rfl) (fun _ _ _ h => h) (by rfl) ?_ (by assumption) ?_
  rotate_left
  · (intro W hSw; have hz := hSw.1.2.1.cells; have hy := hSw.2.cells; skip; go_simp; try with_reducible rfl)
  try simp only [Act.put, gA, gS, gZ, sA, sZ, sS]
  refine tk (i := 9) (v := ?_) rfl (by kernel_rfl) (fun _ _ _ h => h) (by rfl) ?_ (by assumption) ?_
  rotate_left
  · (intro W hSw; have hz := hSw.1.2.1.cells; have hy := hSw.2.cells; skip; go_simp; try with_reducible rfl)
  try simp only [Act.put, gA, gS, gZ, sA, sZ, sS]
  refine tk (i := 10) (v := ?_) rfl (by kernel_rfl) (fun _ _ _ h => h) (by rfl) ?_ (by assumption) ?_
  rotate_left
  · (intro W hSw; (refine yields_mid TA3 (.tmp 33) ?_ b9 (off + i * 33 + 1) ?_ C _ (HCs.out _ hSw) Tryz.underlying57 rfl (a32 C HC.out.1)); rfl; rfl)
  try simp only [Act.put, gA, gS, gZ, sA, sZ, sS]
  refine tk (i := 11) (v := ?_) rfl (by kernel_rfl) (fun _ _ _ h => h) (by rfl) ?_ (by assumption) ?_
  rotate_left
  · (intro W hSw; have hz := hSw.1.2.1.cells; have hy := hSw.2.cells; skip; go_simp; try with_reducible rfl)
  try simp only [Act.put, gA, gS, gZ, sA, sZ, sS]
  refine wpAnyH_ready (rs := [12]) (by kernel_rfl) (by simp) ?_
  refine AllReadyH.cons rfl (fun K hK => ?_) AllReadyH.nil
  simp only [gA, gS, gZ]
  rw [if_pos (by rfl)]
  go_simp
  (refine (HSu.out _).mono ?_; rintro e w5 ⟨rfl, hb5⟩)
  go_wp2_with fail
  refine hK.out _ _ (QO.call hHeld hb5) (fun hHeld => ?_)
  clear hK K
  try simp only [Act.put, gA, gS, gZ, sA, sZ, sS]
  have hneq := HNe.out
  refine tk (i := 13) (v := ?_) rfl (by kernel_rfl) (fun _ _ _ h => h) (by rfl) ?_ (by assumption) ?_
  rotate_left
  · (intro W hSw; have hz := hSw.1.2.1.cells; have hy := hSw.2.cells; skip; go_simp; try with_reducible rfl)
  try simp only [Act.put, gA, gS, gZ, sA, sZ, sS]
  refine tk (i := 14) (v := ?_) rfl (by kernel_rfl) (fun _ _ _ h => h) (by rfl) ?_ (by assumption) ?_
  rotate_left
  · (intro W hSw; have hz := hSw.1.2.1.cells; have hy := hSw.2.cells; skip; go_simp; try with_reducible rfl)
  try simp only [Act.put, gA, gS, gZ, sA, sZ, sS]
  refine wpAnyH_done (by kernel_rfl) ?_ _
  have H5 := Lib.hid hHeld
  clear hHeld hneq HCs
  go_upto_region 7 with fail
  refine wp_region_held_drew (S := QO w p b0 B s Ac mc cc Aa ma ca b0 B2 s2 Ac2 mc2 cc2 (some ⟨b9, off, none⟩) ma2 ca2) (by kernel_rfl) (QO.drew H5.out) (fun hHeld => ?_)
  refine tk (i := 0) (v := ?_) rfl (by kernel_rfl) (fun _ _ _ h => h) (by rfl) ?_ (by assumption) ?_
  rotate_left
  · (intro W hSw; have hz := hSw.1.2.1.cells; obtain ⟨e0, e1, e2, e3, e4, e5, e6, e7, e8, hf1⟩ := hSw.1.2.2.cells; rw [hor] at e2; go_simp; try with_reducible rfl)
  try simp only [Act.put, gA, gZ, sA, sZ, sS]
  refine tk (i := 1) (v := ?_) rfl (by kernel_rfl) (fun _ _ _ h => h) (by rfl) ?_ (by assumption) ?_
  rotate_left
  · (intro W hSw; have hz := hSw.1.2.1.cells; obtain ⟨e0, e1, e2, e3, e4, e5, e6, e7, e8, hf1⟩ := hSw.1.2.2.cells; rw [hor] at e2; go_simp; try with_reducible rfl)
  try simp only [Act.put, gA, gS, gZ, sA, sZ, sS]
  refine tk (i := 2) (v := ?_) rfl (by kernel_rfl) (fun _ _ _ h => h) (by rfl) ?_ (by assumption) ?_
  rotate_left
  · (intro W hSw; have hz := hSw.1.2.1.cells; obtain ⟨e0, e1, e2, e3, e4, e5, e6, e7, e8, hf1⟩ := hSw.1.2.2.cells; rw [hor] at e2; go_simp; try with_reducible rfl)
  try simp only [Act.put, gA, gS, gZ, sA, sZ, sS]
  refine tk (i := 3) (v := ?_) rfl (by kernel_rfl) (fun _ _ _ h => h) (by rfl) ?_ (by assumption) ?_
  rotate_left
  · (intro W hSw; have hz := hSw.1.2.1.cells; obtain ⟨e0, e1, e2, e3, e4, e5, e6, e7, e8, hf1⟩ := hSw.1.2.2.cells; rw [hor] at e2; go_simp; try with_reducible rfl)
  try simp only [Act.put, gA, gS, gZ, sA, sZ, sS]
  refine tk (i := 4) (v := ?_) rfl (by kernel_rfl) (fun _ _ _ h => h) (by rfl) ?_ (by assumption) ?_
  rotate_left
  · (intro W hSw; have hz := hSw.1.2.1.cells; obtain ⟨e0, e1, e2, e3, e4, e5, e6, e7, e8, hf1⟩ := hSw.1.2.2.cells; rw [hor] at e2; go_simp; try with_reducible rfl)
  try simp only [Act.put, gA, gS, gZ, sA, sZ, sS]
  refine tk (i := 5) (v := ?_) rfl (by kernel_rfl) (fun _ _ _ h => h) (by rfl) ?_ (by assumption) ?_
  rotate_left
  · (intro W hSw; have hz := hSw.1.2.1.cells; obtain ⟨e0, e1, e2, e3, e4, e5, e6, e7, e8, hf1⟩ := hSw.1.2.2.cells; rw [hor] at e2; go_simp; try with_reducible rfl)
  try simp only [Act.put, gA, gS, gZ, sA, sZ, sS]
  refine tk (i := 6) (v := ?_) rfl (by kernel_rfl) (fun _ _ _ h => h) (by rfl) ?_ (by assumption) ?_
  rotate_left
  · (intro W hSw; have hz := hSw.1.2.1.cells; obtain ⟨e0, e1, e2, e3, e4, e5, e6, e7, e8, hf1⟩ := hSw.1.2.2.cells; rw [hor] at e2; go_simp; try with_reducible rfl)
  try simp only [Act.put, gA, gS, gZ, sA, sZ, sS]
  refine tk (i := 7) (v := ?_) rfl (by kernel_rfl) (fun _ _ _ h => h) (by rfl) ?_ (by assumption) ?_
  rotate_left
  · (intro W hSw; have hz := hSw.1.2.1.cells; obtain ⟨e0, e1, e2, e3, e4, e5, e6, e7, e8, hf1⟩ := hSw.1.2.2.cells; rw [hor] at e2; go_simp; try with_reducible rfl)
  try simp only [Act.put, gA, gS, gZ, sA, sZ, sS]
  refine tk (i := 8) (v := ?_) rfl (by kernel_rfl) (fun _ _ _ h => h) (by rfl) ?_ (by assumption) ?_
  rotate_left
  · (intro W hSw; have hz := hSw.1.2.1.cells; obtain ⟨e0, e1, e2, e3, e4, e5, e6, e7, e8, hf1⟩ := hSw.1.2.2.cells; rw [hor] at e2; go_simp; try with_reducible rfl)
  try simp only [Act.put, gA, gS, gZ, sA, sZ, sS]
  refine tk (i := 9) (v := ?_) rfl (by kernel_rfl) (fun _ _ _ h => h) (by rfl) ?_ (by assumption) ?_
  rotate_left
  · (intro W hSw; have hz := hSw.1.2.1.cells; obtain ⟨e0, e1, e2, e3, e4, e5, e6, e7, e8, hf1⟩ := hSw.1.2.2.cells; rw [hor] at e2; go_simp; try with_reducible rfl)
  try simp only [Act.put, gA, gS, gZ, sA, sZ, sS]
  refine tk (i := 10) (v := ?_) rfl (by kernel_rfl) (fun _ _ _ h => h) (by rfl) ?_ (by assumption) ?_
  rotate_left
  · (intro W hSw; have hz := hSw.1.2.1.cells; obtain ⟨e0, e1, e2, e3, e4, e5, e6, e7, e8, hf1⟩ := hSw.1.2.2.cells; rw [hor] at e2; go_simp; try with_reducible rfl)
  try simp only [Act.put, gA, gS, gZ, sA, sZ, sS]
  refine tk (i := 11) (v := ?_) rfl (by kernel_rfl) (fun _ _ _ h => h) (by rfl) ?_ (by assumption) ?_
  rotate_left
  · (intro W hSw; have hz := hSw.1.2.1.cells; obtain ⟨e0, e1, e2, e3, e4, e5, e6, e7, e8, hf1⟩ := hSw.1.2.2.cells; rw [hor] at e2; go_simp; try with_reducible rfl)
  try simp only [Act.put, gA, gS, gZ, sA, sZ, sS]
  refine tk (i := 12) (v := ?_) rfl (by kernel_rfl) (fun _ _ _ h => h) (by rfl) ?_ (by assumption) ?_
  rotate_left
  · (intro W hSw; have hz := hSw.1.2.1.cells; obtain ⟨e0, e1, e2, e3, e4, e5, e6, e7, e8, hf1⟩ := hSw.1.2.2.cells; rw [hor] at e2; go_simp; try with_reducible rfl)
  try simp only [Act.put, gA, gS, gZ, sA, sZ, sS]
  refine wpAnyH_done (by kernel_rfl) ?_ _
  have H6 := Lib.hid hHeld
  clear hHeld
  go_wp2
  go_ret
  exact ⟨rfl, H6.out.1.1⟩
set_option maxRecDepth 20000 in
set_option maxHeartbeats 4000000 in
theorem pak_un {w : World} {b0 B : Nat} {s : St} {Ac Aa : Option Addr} {mc cc ma ca : Nat} {B2 : Nat} {s2 : St} {Ac2 Aa2 : Option Addr} {mc2 cc2 ma2 ca2 : Nat} (p : P5) (a : ByteArray) (hL : PN b0 w B s Ac mc cc Aa ma ca) (hO : PN b0 w B2 s2 Ac2 mc2 cc2 Aa2 ma2 ca2) (hb0 : b0 ≤ w.heap.size) (hop : MnIs p b0 B s Ac mc cc Aa ma ca 0) (ha : a.size ≤ 1000000) (hm : s.cm.length ≤ 1000000) (hk : (Mg.lk p.s s.cm).isSome = true) (hm2 : s2.ac.length ≤ 1000000) (hk2 : (Mg.lk p.s s2.ac).isSome = true) (hC2 : sumOf p.s s2.ac = ackP a) (hor : s.o = false) :
    Calls Tryz.prog 13 #[.pointer (some ⟨B, 0, none⟩), pkv p, .string a, .pointer (some ⟨B2, 0, none⟩)] w fun e w' => e = .returned (.int .i64 0) ∧ PX b0 B (Value.slice Ac mc cc).ownBlock (Value.slice Aa ma ca).ownBlock w (goneS p s) w' := by
  obtain ⟨b, hb, hne⟩ := neq_arr TA3 Tryz.underlying57 (sumOf p.s s2.ac) (ackP a) (sumOf_ok hO.aok) (ackP_ok a)
  have hbv : b = true := hb.2 hC2
  rw [hbv] at hne
  have hCo := sumOf_ok (k := p.s) hO.aok
  have hSu := fun W => rof_g a ha W
  obtain ⟨C, hCd⟩ : ∃ C, C = sumOf p.s s2.ac := ⟨_, rfl⟩
  obtain ⟨D, hDd⟩ : ∃ D, D = ackP a := ⟨_, rfl⟩
  rw [← hCd] at hne hCo
  rw [← hDd] at hne hSu
  have HSu := Lib.hid hSu
  have HC := Lib.hid hCo
  have HNe := Lib.hid hne
  have HCd := Lib.hid hCd
  clear hne hb hbv hC2 hCo hCd hDd hSu
  have HM2 := Lib.hid hm2
  have HK2 := Lib.hid hk2
  clear hm2 hk2
  have HM := Lib.hid hm
  have HK := Lib.hid hk
  clear hm hk
  clear ha
  have h0 : QO w p b0 B s Ac mc cc Aa ma ca b0 B2 s2 Ac2 mc2 cc2 Aa2 ma2 ca2 (w.alloc (.cells #[.int .i64 p.c, .int .i64 p.f, .int .u64 p.s, .int .u64 p.t, .string p.d] TPk)) := QO.new hL hO
  obtain ⟨V, hV⟩ : ∃ X, X = w.alloc (.cells #[.int .i64 p.c, .int .i64 p.f, .int .u64 p.s, .int .u64 p.t, .string p.d] TPk) := ⟨_, rfl⟩
  rw [← hV] at h0
  have hop1 := hop V h0.1.2.2
  have H0 := Lib.hid h0
  have HV := Lib.hid hV
  have HOp := Lib.hid hop1
  have HB0 := Lib.hid hb0
  clear h0 hV hop1 hop hL hO hb0
  obtain ⟨h0, h1, h2, h3, h4, hf0⟩ := H0.out.1.2.1.cells
  go_enter Tryz.func13, Tryz.ntmps13
  go_upto_region 1 with fail
  rw [← HV.out]
  go_wp2_with fail
  refine (HOp.out).mono ?_
  rintro _ w1 ⟨rfl, b1⟩
  have H1 := Lib.hid (QO.call H0.out b1)
  clear b1 h0 h1 h2 h3 h4 hf0
  obtain ⟨h0, h1, h2, h3, h4, hf0⟩ := H1.out.1.2.1.cells
  obtain ⟨e0, e1, e2, e3, e4, e5, e6, e7, e8, hf1⟩ := H1.out.1.2.2.cells
  go_upto_region 4 with fail
  clear h0 h1 h2 h3 h4 hf0 e0 e1 e2 e3 e4 e5 e6 e7 e8 hf1
  refine wp_region_held_drew (S := QO w p b0 B s Ac mc cc Aa ma ca b0 B2 s2 Ac2 mc2 cc2 Aa2 ma2 ca2) (by kernel_rfl) (QO.drew H1.out) (fun hHeld => ?_)
  refine tk (i := 0) (v := ?_) rfl (by kernel_rfl) (fun _ _ _ h => h) (by rfl) ?_ (by assumption) ?_
  rotate_left
  · (intro W hSw; have hz := hSw.1.2.1.cells; have hy := hSw.2.cells; go_simp; try with_reducible rfl)
  try simp only [Act.put, gA, gZ, sA, sZ, sS]
  refine tk (i := 1) (v := ?_) rfl (by kernel_rfl) (fun _ _ _ h => h) (by rfl) ?_ (by assumption) ?_
  rotate_left
  · (intro W hSw; have hz := hSw.1.2.1.cells; have hy := hSw.2.cells; go_simp; try with_reducible rfl)
  try simp only [Act.put, gA, gS, gZ, sA, sZ, sS]
  refine tk (i := 2) (v := ?_) rfl (by kernel_rfl) (fun _ _ _ h => h) (by rfl) ?_ (by assumption) ?_
  rotate_left
  · (intro W hSw; have hz := hSw.1.2.1.cells; have hy := hSw.2.cells; go_simp; try with_reducible rfl)
  try simp only [Act.put, gA, gS, gZ, sA, sZ, sS]
  refine tk (i := 3) (v := ?_) rfl (by kernel_rfl) (fun _ _ _ h => h) (by rfl) ?_ (by assumption) ?_
  rotate_left
  · (intro W hSw; have hz := hSw.1.2.1.cells; have hy := hSw.2.cells; go_simp; try with_reducible rfl)
  try simp only [Act.put, gA, gS, gZ, sA, sZ, sS]
  refine tk (i := 4) (v := ?_) rfl (by kernel_rfl) (fun _ _ _ h => h) (by rfl) ?_ (by assumption) ?_
  rotate_left
  · (intro W hSw; have hz := hSw.1.2.1.cells; have hy := hSw.2.cells; go_simp; try with_reducible rfl)
  try simp only [Act.put, gA, gS, gZ, sA, sZ, sS]
  refine tk (i := 5) (v := ?_) rfl (by kernel_rfl) (fun _ _ _ h => h) (by rfl) ?_ (by assumption) ?_
  rotate_left
  · (intro W hSw; have hz := hSw.1.2.1.cells; have hy := hSw.2.cells; go_simp; try with_reducible rfl)
  try simp only [Act.put, gA, gS, gZ, sA, sZ, sS]
  refine wpAnyH_ready (rs := [6]) (by kernel_rfl) (by simp) ?_
  refine AllReadyH.cons rfl (fun K hK => ?_) AllReadyH.nil
  simp only [gA, gS, gZ]
  rw [if_pos (by rfl)]
  go_simp
  refine (find_any Aa2 ma2 ca2 s2.ac p.s _ (own_rdT hHeld.2.ra hHeld.2.aok) (by have := hHeld.2.ra.2; have := HM2.out; omega)).mono ?_
  rintro e w2 ⟨⟨z, rfl, hz⟩, hw⟩
  obtain rfl := hw.symm
  clear hw
  rcases hz with ⟨i, hi, rfl, hk1, hk2, -⟩ | ⟨rfl, hk2⟩
  rotate_left
  · exact absurd (HK2.out) (by rw [hk2]; simp)
  have HI := Lib.hid (And.intro hi (And.intro hk1 hk2))
  have hi0 : (0 : Int) ≤ (i : Int) := by omega
  clear hk1 hk2
  go_wp2_with fail
  refine hK.out _ _ hHeld (fun hHeld => ?_)
  clear hK K
  try simp only [Act.put, gA, gS, gZ, sA, sZ, sS]
  refine tk (i := 7) (v := ?_) rfl (by kernel_rfl) (fun _ _ _ h => h) (by rfl) ?_ (by assumption) ?_
  rotate_left
  · (intro W hSw; have hz := hSw.1.2.1.cells; have hy := hSw.2.cells; go_simp; try with_reducible rfl)
  try simp only [Act.put, gA, gS, gZ, sA, sZ, sS]
  refine wpAnyH_done (by kernel_rfl) ?_ _
  have H3 := Lib.hid hHeld
  clear hHeld
  obtain ⟨b9, off, hA, hbl, hcs⟩ := (own_rdT H3.out.2.ra H3.out.2.aok).cells (by have := H3.out.2.ra.2; have := HI.out.1; omega)
  subst hA
  have himc : (i : Int) < (ma2 : Int) := by have := H3.out.2.ra.2; have := HI.out.1; omega
  have hilt : ¬ (i : Int) < 0 := by omega
  have hsum : (s2.ac[i]'hi).2 = C := by rw [HCd.out]; unfold sumOf; rw [HI.out.2.2]; rfl
  have HSm := Lib.hid hsum
  have HCs : Hid (∀ V, QO w p b0 B s Ac mc cc Aa ma ca b0 B2 s2 Ac2 mc2 cc2 (some ⟨b9, off, none⟩) ma2 ca2 V → V.rangeAt b9 (off + i * 33 + 1) C.toList) := Lib.hid fun V hV => by
    obtain ⟨b9', off', hA', _, hcs'⟩ := (own_rdT hV.2.ra hV.2.aok).cells (by have := hV.2.ra.2; have := HI.out.1; omega)
    injection hA' with hA'
    injection hA' with h1 h2
    subst h1 h2
    rw [← HSm.out]
    exact ncl_sum (fun j hj => hcs' i hi j hj) (hV.2.aok _ (List.getElem_mem hi))
  clear hbl hcs hsum
  go_upto_region 5 with fail
  refine wp_region_held_drew (S := QO w p b0 B s Ac mc cc Aa ma ca b0 B2 s2 Ac2 mc2 cc2 (some ⟨b9, off, none⟩) ma2 ca2) (by kernel_rfl) (QO.drew H3.out) (fun hHeld => ?_)
  refine tk (i := 0) (v := ?_) rfl (by kernel_rfl) (fun _ _ _ h => h) (by rfl) ?_ (by assumption) ?_
  rotate_left
  · (intro W hSw; have hz := hSw.1.2.1.cells; have hy := hSw.2.cells; skip; go_simp; try with_reducible rfl)
  try simp only [Act.put, gA, gZ, sA, sZ, sS]
  refine tk (i := 1) (v := ?_) rfl (by kernel_rfl) (fun _ _ _ h => h) (by rfl) ?_ (by assumption) ?_
  rotate_left
  · (intro W hSw; have hz := hSw.1.2.1.cells; have hy := hSw.2.cells; skip; go_simp; try with_reducible rfl)
  try simp only [Act.put, gA, gS, gZ, sA, sZ, sS]
  refine tk (i := 2) (v := ?_) rfl (by kernel_rfl) (fun _ _ _ h => h) (by rfl) ?_ (by assumption) ?_
  rotate_left
  · (intro W hSw; have hz := hSw.1.2.1.cells; have hy := hSw.2.cells; skip; go_simp; try with_reducible rfl)
  try simp only [Act.put, gA, gS, gZ, sA, sZ, sS]
  refine tk (i := 3) (v := ?_) rfl (by kernel_rfl) (fun _ _ _ h => h) (by rfl) ?_ (by assumption) ?_
  rotate_left
  · (intro W hSw; have hz := hSw.1.2.1.cells; have hy := hSw.2.cells; skip; go_simp; try with_reducible rfl)
  try simp only [Act.put, gA, gS, gZ, sA, sZ, sS]
  refine tk (i := 4) (v := ?_) rfl (by kernel_rfl) (fun _ _ _ h => h) (by rfl) ?_ (by assumption) ?_
  rotate_left
  · (intro W hSw; have hz := hSw.1.2.1.cells; have hy := hSw.2.cells; skip; go_simp; try with_reducible rfl)
  try simp only [Act.put, gA, gS, gZ, sA, sZ, sS]
  refine tk (i := 5) (v := ?_) rfl (by kernel_rfl) (fun _ _ _ h => h) (by rfl) ?_ (by assumption) ?_
  rotate_left
  · (intro W hSw; have hz := hSw.1.2.1.cells; have hy := hSw.2.cells; skip; go_simp; try with_reducible rfl)
  try simp only [Act.put, gA, gS, gZ, sA, sZ, sS]
  refine tk (i := 6) (v := ?_) rfl (by kernel_rfl) (fun _ _ _ h => h) (by rfl) ?_ (by assumption) ?_
  rotate_left
  · (intro W hSw; have hz := hSw.1.2.1.cells; have hy := hSw.2.cells; skip; go_simp; try with_reducible rfl)
  try simp only [Act.put, gA, gS, gZ, sA, sZ, sS]
  refine tk (i := 7) (v := ?_) rfl (by kernel_rfl) (fun _ _ _ h => h) (by rfl) ?_ (by assumption) ?_
  rotate_left
  · (intro W hSw; have hz := hSw.1.2.1.cells; have hy := hSw.2.cells; skip; go_simp; try with_reducible rfl)
  try simp only [Act.put, gA, gS, gZ, sA, sZ, sS]
  refine tk (i := 8) (v := ?_) rfl (by kernel_rfl) (fun _ _ _ h => h) (by rfl) ?_ (by assumption) ?_
  rotate_left
  · (intro W hSw; have hz := hSw.1.2.1.cells; have hy := hSw.2.cells; skip; go_simp; try with_reducible rfl)
  try simp only [Act.put, gA, gS, gZ, sA, sZ, sS]
  refine tk (i := 9) (v := ?_) rfl (by kernel_rfl) (fun _ _ _ h => h) (by rfl) ?_ (by assumption) ?_
  rotate_left
  · (intro W hSw; have hz := hSw.1.2.1.cells; have hy := hSw.2.cells; skip; go_simp; try with_reducible rfl)
  try simp only [Act.put, gA, gS, gZ, sA, sZ, sS]
  refine tk (i := 10) (v := ?_) rfl (by kernel_rfl) (fun _ _ _ h => h) (by rfl) ?_ (by assumption) ?_
  rotate_left
  · (intro W hSw; (refine yields_mid TA3 (.tmp 33) ?_ b9 (off + i * 33 + 1) ?_ C _ (HCs.out _ hSw) Tryz.underlying57 rfl (a32 C HC.out.1)); rfl; rfl)
  try simp only [Act.put, gA, gS, gZ, sA, sZ, sS]
  refine tk (i := 11) (v := ?_) rfl (by kernel_rfl) (fun _ _ _ h => h) (by rfl) ?_ (by assumption) ?_
  rotate_left
  · (intro W hSw; have hz := hSw.1.2.1.cells; have hy := hSw.2.cells; skip; go_simp; try with_reducible rfl)
  try simp only [Act.put, gA, gS, gZ, sA, sZ, sS]
  refine wpAnyH_ready (rs := [12]) (by kernel_rfl) (by simp) ?_
  refine AllReadyH.cons rfl (fun K hK => ?_) AllReadyH.nil
  simp only [gA, gS, gZ]
  rw [if_pos (by rfl)]
  go_simp
  (refine (HSu.out _).mono ?_; rintro e w5 ⟨rfl, hb5⟩)
  go_wp2_with fail
  refine hK.out _ _ (QO.call hHeld hb5) (fun hHeld => ?_)
  clear hK K
  try simp only [Act.put, gA, gS, gZ, sA, sZ, sS]
  have hneq := HNe.out
  refine tk (i := 13) (v := ?_) rfl (by kernel_rfl) (fun _ _ _ h => h) (by rfl) ?_ (by assumption) ?_
  rotate_left
  · (intro W hSw; have hz := hSw.1.2.1.cells; have hy := hSw.2.cells; skip; go_simp; try with_reducible rfl)
  try simp only [Act.put, gA, gS, gZ, sA, sZ, sS]
  refine tk (i := 14) (v := ?_) rfl (by kernel_rfl) (fun _ _ _ h => h) (by rfl) ?_ (by assumption) ?_
  rotate_left
  · (intro W hSw; have hz := hSw.1.2.1.cells; have hy := hSw.2.cells; skip; go_simp; try with_reducible rfl)
  try simp only [Act.put, gA, gS, gZ, sA, sZ, sS]
  refine wpAnyH_done (by kernel_rfl) ?_ _
  have H5 := Lib.hid hHeld
  clear hHeld hneq HCs
  go_upto_region 7 with fail
  refine wp_region_held_drew (S := QO w p b0 B s Ac mc cc Aa ma ca b0 B2 s2 Ac2 mc2 cc2 (some ⟨b9, off, none⟩) ma2 ca2) (by kernel_rfl) (QO.drew H5.out) (fun hHeld => ?_)
  refine tk (i := 0) (v := ?_) rfl (by kernel_rfl) (fun _ _ _ h => h) (by rfl) ?_ (by assumption) ?_
  rotate_left
  · (intro W hSw; have hz := hSw.1.2.1.cells; obtain ⟨e0, e1, e2, e3, e4, e5, e6, e7, e8, hf1⟩ := hSw.1.2.2.cells; rw [hor] at e2; go_simp; try with_reducible rfl)
  try simp only [Act.put, gA, gZ, sA, sZ, sS]
  refine tk (i := 1) (v := ?_) rfl (by kernel_rfl) (fun _ _ _ h => h) (by rfl) ?_ (by assumption) ?_
  rotate_left
  · (intro W hSw; have hz := hSw.1.2.1.cells; obtain ⟨e0, e1, e2, e3, e4, e5, e6, e7, e8, hf1⟩ := hSw.1.2.2.cells; rw [hor] at e2; go_simp; try with_reducible rfl)
  try simp only [Act.put, gA, gS, gZ, sA, sZ, sS]
  refine tk (i := 2) (v := ?_) rfl (by kernel_rfl) (fun _ _ _ h => h) (by rfl) ?_ (by assumption) ?_
  rotate_left
  · (intro W hSw; have hz := hSw.1.2.1.cells; obtain ⟨e0, e1, e2, e3, e4, e5, e6, e7, e8, hf1⟩ := hSw.1.2.2.cells; rw [hor] at e2; go_simp; try with_reducible rfl)
  try simp only [Act.put, gA, gS, gZ, sA, sZ, sS]
  refine tk (i := 3) (v := ?_) rfl (by kernel_rfl) (fun _ _ _ h => h) (by rfl) ?_ (by assumption) ?_
  rotate_left
  · (intro W hSw; have hz := hSw.1.2.1.cells; obtain ⟨e0, e1, e2, e3, e4, e5, e6, e7, e8, hf1⟩ := hSw.1.2.2.cells; rw [hor] at e2; go_simp; try with_reducible rfl)
  try simp only [Act.put, gA, gS, gZ, sA, sZ, sS]
  refine tk (i := 4) (v := ?_) rfl (by kernel_rfl) (fun _ _ _ h => h) (by rfl) ?_ (by assumption) ?_
  rotate_left
  · (intro W hSw; have hz := hSw.1.2.1.cells; obtain ⟨e0, e1, e2, e3, e4, e5, e6, e7, e8, hf1⟩ := hSw.1.2.2.cells; rw [hor] at e2; go_simp; try with_reducible rfl)
  try simp only [Act.put, gA, gS, gZ, sA, sZ, sS]
  refine tn (i := 5) rfl (by kernel_rfl) (fun _ _ _ h => h) (by rfl) rfl (by assumption) ?_
  try simp only [Act.put, gA, gS, gZ, sA, sZ, sS]
  refine tn (i := 6) rfl (by kernel_rfl) (fun _ _ _ h => h) (by rfl) rfl (by assumption) ?_
  try simp only [Act.put, gA, gS, gZ, sA, sZ, sS]
  refine tn (i := 7) rfl (by kernel_rfl) (fun _ _ _ h => h) (by rfl) rfl (by assumption) ?_
  try simp only [Act.put, gA, gS, gZ, sA, sZ, sS]
  refine tn (i := 8) rfl (by kernel_rfl) (fun _ _ _ h => h) (by rfl) rfl (by assumption) ?_
  try simp only [Act.put, gA, gS, gZ, sA, sZ, sS]
  refine tn (i := 9) rfl (by kernel_rfl) (fun _ _ _ h => h) (by rfl) rfl (by assumption) ?_
  try simp only [Act.put, gA, gS, gZ, sA, sZ, sS]
  refine tn (i := 10) rfl (by kernel_rfl) (fun _ _ _ h => h) (by rfl) rfl (by assumption) ?_
  try simp only [Act.put, gA, gS, gZ, sA, sZ, sS]
  refine tn (i := 11) rfl (by kernel_rfl) (fun _ _ _ h => h) (by rfl) rfl (by assumption) ?_
  try simp only [Act.put, gA, gS, gZ, sA, sZ, sS]
  refine tk (i := 12) (v := ?_) rfl (by kernel_rfl) (fun _ _ _ h => h) (by rfl) ?_ (by assumption) ?_
  rotate_left
  · (intro W hSw; have hz := hSw.1.2.1.cells; obtain ⟨e0, e1, e2, e3, e4, e5, e6, e7, e8, hf1⟩ := hSw.1.2.2.cells; rw [hor] at e2; go_simp; try with_reducible rfl)
  try simp only [Act.put, gA, gS, gZ, sA, sZ, sS]
  refine wpAnyH_done (by kernel_rfl) ?_ _
  have H6 := Lib.hid hHeld
  clear hHeld
  clear himc hilt hi0
  go_upto_region 9 with fail
  refine wp_region_last (S := SB B s Ac mc cc Aa ma ca w.heap.size p) 15 (by kernel_rfl) ?_
  have HD : Hid (PN b0 w5.drew.drew B s Ac mc cc Aa ma ca ∧ PkB w5.drew.drew w.heap.size p ∧ FP B (Value.slice Ac mc cc).ownBlock (Value.slice Aa ma ca).ownBlock w w5.drew.drew) := Lib.hid ⟨H6.out.1.2.2.below (Below.refl _ _).drew, H6.out.1.2.1, FP.of_below H6.out.1.1.drew⟩
  obtain ⟨w3, hw3⟩ : ∃ X, X = w5.drew.drew := ⟨_, rfl⟩
  rw [← hw3] at HD ⊢
  clear hw3
  have hHeld := HD.out.1.sb HD.out.2.1
  refine wpL_take (i := 0) (oi := _) (v := ?_) [14, 13] rfl (by kernel_rfl) (by kernel_rfl) (by kernel_rfl) (by kernel_rfl) (by kernel_rfl) (fun _ _ _ h => h) (Or.inl ⟨by rfl, ?_⟩) (by assumption) ?_
  rotate_left
  · (intro V hSw; have hz := hSw.2.cells; have hy := hSw.cells; go_simp; try with_reducible rfl)
  try simp only [Act.put, gA, gZ, sA, sZ, sS]
  refine wpL_take (i := 1) (oi := _) (v := ?_) [12, 4, 3, 2] rfl (by kernel_rfl) (by kernel_rfl) (by kernel_rfl) (by kernel_rfl) (by kernel_rfl) (fun _ _ _ h => h) (Or.inl ⟨by rfl, ?_⟩) (by assumption) ?_
  rotate_left
  · (intro V hSw; have hz := hSw.2.cells; have hy := hSw.cells; go_simp; try with_reducible rfl)
  try simp only [Act.put, gA, gS, gZ, sA, sZ, sS]
  refine wpL_take (i := 2) (oi := _) (v := ?_) [12, 4, 3] rfl (by kernel_rfl) (by kernel_rfl) (by kernel_rfl) (by kernel_rfl) (by kernel_rfl) (fun _ _ _ h => h) (Or.inl ⟨by rfl, ?_⟩) (by assumption) ?_
  rotate_left
  · (intro V hSw; have hz := hSw.2.cells; have hy := hSw.cells; go_simp; try with_reducible rfl)
  try simp only [Act.put, gA, gS, gZ, sA, sZ, sS]
  refine wpL_take (i := 3) (oi := _) (v := ?_) [12, 4] rfl (by kernel_rfl) (by kernel_rfl) (by kernel_rfl) (by kernel_rfl) (by kernel_rfl) (fun _ _ _ h => h) (Or.inl ⟨by rfl, ?_⟩) (by assumption) ?_
  rotate_left
  · (intro V hSw; have hz := hSw.2.cells; have hy := hSw.cells; go_simp; try with_reducible rfl)
  try simp only [Act.put, gA, gS, gZ, sA, sZ, sS]
  refine wpL_take (i := 4) (oi := _) (v := ?_) [12] rfl (by kernel_rfl) (by kernel_rfl) (by kernel_rfl) (by kernel_rfl) (by kernel_rfl) (fun _ _ _ h => h) (Or.inl ⟨by rfl, ?_⟩) (by assumption) ?_
  rotate_left
  · (intro V hSw; have hz := hSw.2.cells; have hy := hSw.cells; go_simp; try with_reducible rfl)
  try simp only [Act.put, gA, gS, gZ, sA, sZ, sS]
  refine wpL_take (i := 5) (oi := _) (v := ?_) [12, 11, 8, 7, 6] rfl (by kernel_rfl) (by kernel_rfl) (by kernel_rfl) (by kernel_rfl) (by kernel_rfl) (fun _ _ _ h => h) (Or.inl ⟨by rfl, ?_⟩) (by assumption) ?_
  rotate_left
  · (intro V hSw; have hz := hSw.2.cells; have hy := hSw.cells; go_simp; try with_reducible rfl)
  try simp only [Act.put, gA, gS, gZ, sA, sZ, sS]
  refine wpL_take (i := 6) (oi := _) (v := ?_) [12, 11, 8, 7] rfl (by kernel_rfl) (by kernel_rfl) (by kernel_rfl) (by kernel_rfl) (by kernel_rfl) (fun _ _ _ h => h) (Or.inl ⟨by rfl, ?_⟩) (by assumption) ?_
  rotate_left
  · (intro V hSw; have hz := hSw.2.cells; have hy := hSw.cells; go_simp; try with_reducible rfl)
  try simp only [Act.put, gA, gS, gZ, sA, sZ, sS]
  refine wpL_take (i := 7) (oi := _) (v := ?_) [12, 11, 8] rfl (by kernel_rfl) (by kernel_rfl) (by kernel_rfl) (by kernel_rfl) (by kernel_rfl) (fun _ _ _ h => h) (Or.inl ⟨by rfl, ?_⟩) (by assumption) ?_
  rotate_left
  · (intro V hSw; have hz := hSw.2.cells; have hy := hSw.cells; go_simp; try with_reducible rfl)
  try simp only [Act.put, gA, gS, gZ, sA, sZ, sS]
  refine wpL_take (i := 8) (oi := _) (v := ?_) [12, 11] rfl (by kernel_rfl) (by kernel_rfl) (by kernel_rfl) (by kernel_rfl) (by kernel_rfl) (fun _ _ _ h => h) (Or.inl ⟨by rfl, ?_⟩) (by assumption) ?_
  rotate_left
  · (intro V hSw; have hz := hSw.2.cells; have hy := hSw.cells; go_simp; try with_reducible rfl)
  try simp only [Act.put, gA, gS, gZ, sA, sZ, sS]
  refine wpL_take (i := 9) (oi := _) (v := ?_) [12, 11, 10] rfl (by kernel_rfl) (by kernel_rfl) (by kernel_rfl) (by kernel_rfl) (by kernel_rfl) (fun _ _ _ h => h) (Or.inl ⟨by rfl, ?_⟩) (by assumption) ?_
  rotate_left
  · (intro V hSw; have hz := hSw.2.cells; have hy := hSw.cells; go_simp; try with_reducible rfl)
  try simp only [Act.put, gA, gS, gZ, sA, sZ, sS]
  refine wpL_take (i := 10) (oi := _) (v := ?_) [12, 11] rfl (by kernel_rfl) (by kernel_rfl) (by kernel_rfl) (by kernel_rfl) (by kernel_rfl) (fun _ _ _ h => h) (Or.inl ⟨by rfl, ?_⟩) (by assumption) ?_
  rotate_left
  · (intro V hSw; have hz := hSw.2.cells; have hy := hSw.cells; go_simp; try with_reducible rfl)
  try simp only [Act.put, gA, gS, gZ, sA, sZ, sS]
  refine wpL_ready (rs := [11]) (by kernel_rfl) (by simp) ?_
  refine AllL.cons rfl (fun K hK => ?_) AllL.nil
  simp only [gA, gS, gZ]
  rw [if_pos (by rfl)]
  go_simp
  refine (find_any Ac mc cc s.cm p.s _ (own_rdT HD.out.1.rc HD.out.1.cok) (by have := HD.out.1.rc.2; have := HM.out; omega)).mono ?_
  rintro e w4 ⟨⟨z, rfl, hz⟩, hw⟩
  obtain rfl := hw.symm
  clear hw
  rcases hz with ⟨i, hi, rfl, hk1, -, hk2⟩ | ⟨rfl, hk2⟩
  rotate_left
  · exact absurd HK.out (by rw [hk2]; simp)
  have hdel := del_erase s.cm p.s i hi hk1 hk2
  have HDl := Lib.hid (And.intro hi hdel)
  clear hk1 hk2 hdel hi
  go_wp2_with fail
  refine hK.out _ _ (Or.inr hHeld) ?_
  clear hK K
  try simp only [Act.put, gA, gS, gZ, sA, sZ, sS]
  refine wpL_ready (rs := [12]) (by kernel_rfl) (by simp) ?_
  refine AllL.cons rfl (fun K hK => ?_) AllL.nil
  simp only [gA, gS, gZ]
  rw [if_pos (by rfl)]
  go_simp
  refine (wo_any Ac mc cc s.cm i _ (own_rdT HD.out.1.rc HD.out.1.cok) (by have := HD.out.1.rc.2; have := HM.out; omega) (by have := HD.out.1.rc.2; have := HDl.out.1; omega)).mono ?_
  rintro e w4 ⟨A', m', c', rfl, ho, hb4⟩
  have hs4 := hHeld.below hb4
  have H4 : Hid (SB B s Ac mc cc Aa ma ca w.heap.size p w4 ∧ OwnT w3.heap.size w4 A' m' c' (del p.s s.cm) ∧ PN b0 w4 B s Ac mc cc Aa ma ca ∧ FP B (Value.slice Ac mc cc).ownBlock (Value.slice Aa ma ca).ownBlock w w4) := Lib.hid ⟨hs4, by rw [← HDl.out.2]; exact ho, HD.out.1.below hb4, HD.out.2.2.call hb4⟩
  clear ho hb4 hHeld
  go_wp2_with fail
  refine hK.out _ _ (Or.inr hs4) ?_
  clear hK K hs4
  try simp only [Act.put, gA, gS, gZ, sA, sZ, sS]
  have hHeld := H4.out.1
  refine wpL_take (i := 13) (oi := _) (v := ?_) [14] rfl (by kernel_rfl) (by kernel_rfl) (by kernel_rfl) (by kernel_rfl) (by kernel_rfl) (fun _ _ _ h => h) (Or.inl ⟨by rfl, ?_⟩) (by assumption) ?_
  rotate_left
  · (intro V hSw; have hz := hSw.2.cells; have hy := hSw.cells; go_simp; try with_reducible rfl)
  try simp only [Act.put, gA, gS, gZ, sA, sZ, sS]
  refine wpL_take (i := 14) (oi := _) (v := ?_) [] rfl (by kernel_rfl) (by kernel_rfl) (by kernel_rfl) (by kernel_rfl) (by kernel_rfl) (fun _ _ _ h => h) (Or.inl ⟨by rfl, ?_⟩) (by assumption) ?_
  rotate_left
  · (intro V hSw; have hz := hSw.2.cells; have hy := hSw.cells; go_simp; try with_reducible rfl)
  try simp only [Act.put, gA, gS, gZ, sA, sZ, sS]
  clear hHeld
  refine wpL_ready (rs := [15]) (by kernel_rfl) (by simp) ?_
  refine AllL.cons rfl (fun K hK => ?_) AllL.nil
  simp only [gA, gS, gZ]
  rw [if_pos (by rfl)]
  obtain ⟨e0, e1, e2, e3, e4, e5, e6, e7, e8, hf1⟩ := H4.out.1.cells
  go_simp
  refine hK.out _ _ (Or.inl rfl) ?_
  clear hK K e0 e1 e2 e3 e4 e5 e6 e7 e8 hf1
  try simp only [Act.put, gA, gS, gZ, sA, sZ, sS]
  refine wpL_done (by kernel_rfl) ?_ _
  have hnew : ∀ k, (Value.slice A' m' c').ownBlock = some k → w3.heap.size ≤ k := own_geT H4.out.2.1
  have hws : w.heap.size ≤ w3.heap.size := HD.out.2.2.size
  have hpn := H4.out.1.setC (own_baseT H4.out.2.1 (Nat.le_trans HB0.out hws)) H4.out.2.2.1.ra (by rw [← HDl.out.2]; exact ok_erase H4.out.2.2.1.cok) H4.out.2.2.1.aok (fun k hk hk2 => by have := hnew k hk; have := own_ltT HD.out.1.ra k hk2; omega)
  have hfp := H4.out.2.2.2.set 7 (.slice A' m' c')
  obtain ⟨w5, hw5⟩ : ∃ X, X = w4.setCell ⟨B, 7, none⟩ (.slice A' m' c') := ⟨_, rfl⟩
  rw [← hw5] at hpn hfp ⊢
  have H5 := Lib.hid (And.intro hpn (And.intro hfp (fun k (hk : (Value.slice A' m' c').ownBlock = some k) => Nat.le_trans hws (hnew k hk))))
  clear hw5 hnew hws hpn hfp H4 HDl HD
  obtain ⟨e0, e1, e2, e3, e4, e5, e6, e7, e8, hf1⟩ := H5.out.1.cells
  rw [hor] at e2
  go_wp2
  go_ret
  exact ⟨rfl, A', m', c', Aa, ma, ca, H5.out.1, H5.out.2.1, fun k hk => .inr (H5.out.2.2 k hk), fun k hk => .inl hk⟩
set_option maxRecDepth 20000 in
set_option maxHeartbeats 4000000 in
theorem pak_or {w : World} {b0 B : Nat} {s : St} {Ac Aa : Option Addr} {mc cc ma ca : Nat} {B2 : Nat} {s2 : St} {Ac2 Aa2 : Option Addr} {mc2 cc2 ma2 ca2 : Nat} (p : P5) (a : ByteArray) (hL : PN b0 w B s Ac mc cc Aa ma ca) (hO : PN b0 w B2 s2 Ac2 mc2 cc2 Aa2 ma2 ca2) (hb0 : b0 ≤ w.heap.size) (hop : MnIs p b0 B s Ac mc cc Aa ma ca 0) (ha : a.size ≤ 1000000) (hm : s.cm.length ≤ 1000000) (hk : (Mg.lk p.s s.cm).isSome = true) (hm2 : s2.ac.length ≤ 1000000) (hk2 : (Mg.lk p.s s2.ac).isSome = true) (hC2 : sumOf p.s s2.ac = ackP a) (hor : s.o = true) (hnk : (p.s != s.ak) = false) (hak0 : 0 ≤ s.ak) (hak1 : s.ak + 1 < 18446744073709551616) :
    Calls Tryz.prog 13 #[.pointer (some ⟨B, 0, none⟩), pkv p, .string a, .pointer (some ⟨B2, 0, none⟩)] w fun e w' => e = .returned (.int .i64 0) ∧ PX b0 B (Value.slice Ac mc cc).ownBlock (Value.slice Aa ma ca).ownBlock w (ackS p s) w' := by
  obtain ⟨b, hb, hne⟩ := neq_arr TA3 Tryz.underlying57 (sumOf p.s s2.ac) (ackP a) (sumOf_ok hO.aok) (ackP_ok a)
  have hbv : b = true := hb.2 hC2
  rw [hbv] at hne
  have hCo := sumOf_ok (k := p.s) hO.aok
  have hSu := fun W => rof_g a ha W
  obtain ⟨C, hCd⟩ : ∃ C, C = sumOf p.s s2.ac := ⟨_, rfl⟩
  obtain ⟨D, hDd⟩ : ∃ D, D = ackP a := ⟨_, rfl⟩
  rw [← hCd] at hne hCo
  rw [← hDd] at hne hSu
  have HSu := Lib.hid hSu
  have HC := Lib.hid hCo
  have HNe := Lib.hid hne
  have HCd := Lib.hid hCd
  clear hne hb hbv hC2 hCo hCd hDd hSu
  have HM2 := Lib.hid hm2
  have HK2 := Lib.hid hk2
  clear hm2 hk2
  have HM := Lib.hid hm
  have HK := Lib.hid hk
  clear hm hk
  clear ha
  obtain ⟨y, hy⟩ : ∃ y, y = s.ak + 1 := ⟨_, rfl⟩
  have hw : IntKind.u64.wrap (s.ak + 1) = y := by rw [hy]; exact IntWalk.u64_in _ ⟨by omega, by omega⟩
  have HY := Lib.hid hy
  have HW := Lib.hid hw
  clear hy hw hak0 hak1
  have h0 : QO w p b0 B s Ac mc cc Aa ma ca b0 B2 s2 Ac2 mc2 cc2 Aa2 ma2 ca2 (w.alloc (.cells #[.int .i64 p.c, .int .i64 p.f, .int .u64 p.s, .int .u64 p.t, .string p.d] TPk)) := QO.new hL hO
  obtain ⟨V, hV⟩ : ∃ X, X = w.alloc (.cells #[.int .i64 p.c, .int .i64 p.f, .int .u64 p.s, .int .u64 p.t, .string p.d] TPk) := ⟨_, rfl⟩
  rw [← hV] at h0
  have hop1 := hop V h0.1.2.2
  have H0 := Lib.hid h0
  have HV := Lib.hid hV
  have HOp := Lib.hid hop1
  have HB0 := Lib.hid hb0
  clear h0 hV hop1 hop hL hO hb0
  obtain ⟨h0, h1, h2, h3, h4, hf0⟩ := H0.out.1.2.1.cells
  go_enter Tryz.func13, Tryz.ntmps13
  go_upto_region 1 with fail
  rw [← HV.out]
  go_wp2_with fail
  refine (HOp.out).mono ?_
  rintro _ w1 ⟨rfl, b1⟩
  have H1 := Lib.hid (QO.call H0.out b1)
  clear b1 h0 h1 h2 h3 h4 hf0
  obtain ⟨h0, h1, h2, h3, h4, hf0⟩ := H1.out.1.2.1.cells
  obtain ⟨e0, e1, e2, e3, e4, e5, e6, e7, e8, hf1⟩ := H1.out.1.2.2.cells
  go_upto_region 4 with fail
  clear h0 h1 h2 h3 h4 hf0 e0 e1 e2 e3 e4 e5 e6 e7 e8 hf1
  refine wp_region_held_drew (S := QO w p b0 B s Ac mc cc Aa ma ca b0 B2 s2 Ac2 mc2 cc2 Aa2 ma2 ca2) (by kernel_rfl) (QO.drew H1.out) (fun hHeld => ?_)
  refine tk (i := 0) (v := ?_) rfl (by kernel_rfl) (fun _ _ _ h => h) (by rfl) ?_ (by assumption) ?_
  rotate_left
  · (intro W hSw; have hz := hSw.1.2.1.cells; have hy := hSw.2.cells; go_simp; try with_reducible rfl)
  try simp only [Act.put, gA, gZ, sA, sZ, sS]
  refine tk (i := 1) (v := ?_) rfl (by kernel_rfl) (fun _ _ _ h => h) (by rfl) ?_ (by assumption) ?_
  rotate_left
  · (intro W hSw; have hz := hSw.1.2.1.cells; have hy := hSw.2.cells; go_simp; try with_reducible rfl)
  try simp only [Act.put, gA, gS, gZ, sA, sZ, sS]
  refine tk (i := 2) (v := ?_) rfl (by kernel_rfl) (fun _ _ _ h => h) (by rfl) ?_ (by assumption) ?_
  rotate_left
  · (intro W hSw; have hz := hSw.1.2.1.cells; have hy := hSw.2.cells; go_simp; try with_reducible rfl)
  try simp only [Act.put, gA, gS, gZ, sA, sZ, sS]
  refine tk (i := 3) (v := ?_) rfl (by kernel_rfl) (fun _ _ _ h => h) (by rfl) ?_ (by assumption) ?_
  rotate_left
  · (intro W hSw; have hz := hSw.1.2.1.cells; have hy := hSw.2.cells; go_simp; try with_reducible rfl)
  try simp only [Act.put, gA, gS, gZ, sA, sZ, sS]
  refine tk (i := 4) (v := ?_) rfl (by kernel_rfl) (fun _ _ _ h => h) (by rfl) ?_ (by assumption) ?_
  rotate_left
  · (intro W hSw; have hz := hSw.1.2.1.cells; have hy := hSw.2.cells; go_simp; try with_reducible rfl)
  try simp only [Act.put, gA, gS, gZ, sA, sZ, sS]
  refine tk (i := 5) (v := ?_) rfl (by kernel_rfl) (fun _ _ _ h => h) (by rfl) ?_ (by assumption) ?_
  rotate_left
  · (intro W hSw; have hz := hSw.1.2.1.cells; have hy := hSw.2.cells; go_simp; try with_reducible rfl)
  try simp only [Act.put, gA, gS, gZ, sA, sZ, sS]
  refine wpAnyH_ready (rs := [6]) (by kernel_rfl) (by simp) ?_
  refine AllReadyH.cons rfl (fun K hK => ?_) AllReadyH.nil
  simp only [gA, gS, gZ]
  rw [if_pos (by rfl)]
  go_simp
  refine (find_any Aa2 ma2 ca2 s2.ac p.s _ (own_rdT hHeld.2.ra hHeld.2.aok) (by have := hHeld.2.ra.2; have := HM2.out; omega)).mono ?_
  rintro e w2 ⟨⟨z, rfl, hz⟩, hw⟩
  obtain rfl := hw.symm
  clear hw
  rcases hz with ⟨i, hi, rfl, hk1, hk2, -⟩ | ⟨rfl, hk2⟩
  rotate_left
  · exact absurd (HK2.out) (by rw [hk2]; simp)
  have HI := Lib.hid (And.intro hi (And.intro hk1 hk2))
  have hi0 : (0 : Int) ≤ (i : Int) := by omega
  clear hk1 hk2
  go_wp2_with fail
  refine hK.out _ _ hHeld (fun hHeld => ?_)
  clear hK K
  try simp only [Act.put, gA, gS, gZ, sA, sZ, sS]
  refine tk (i := 7) (v := ?_) rfl (by kernel_rfl) (fun _ _ _ h => h) (by rfl) ?_ (by assumption) ?_
  rotate_left
  · (intro W hSw; have hz := hSw.1.2.1.cells; have hy := hSw.2.cells; go_simp; try with_reducible rfl)
  try simp only [Act.put, gA, gS, gZ, sA, sZ, sS]
  refine wpAnyH_done (by kernel_rfl) ?_ _
  have H3 := Lib.hid hHeld
  clear hHeld
  obtain ⟨b9, off, hA, hbl, hcs⟩ := (own_rdT H3.out.2.ra H3.out.2.aok).cells (by have := H3.out.2.ra.2; have := HI.out.1; omega)
  subst hA
  have himc : (i : Int) < (ma2 : Int) := by have := H3.out.2.ra.2; have := HI.out.1; omega
  have hilt : ¬ (i : Int) < 0 := by omega
  have hsum : (s2.ac[i]'hi).2 = C := by rw [HCd.out]; unfold sumOf; rw [HI.out.2.2]; rfl
  have HSm := Lib.hid hsum
  have HCs : Hid (∀ V, QO w p b0 B s Ac mc cc Aa ma ca b0 B2 s2 Ac2 mc2 cc2 (some ⟨b9, off, none⟩) ma2 ca2 V → V.rangeAt b9 (off + i * 33 + 1) C.toList) := Lib.hid fun V hV => by
    obtain ⟨b9', off', hA', _, hcs'⟩ := (own_rdT hV.2.ra hV.2.aok).cells (by have := hV.2.ra.2; have := HI.out.1; omega)
    injection hA' with hA'
    injection hA' with h1 h2
    subst h1 h2
    rw [← HSm.out]
    exact ncl_sum (fun j hj => hcs' i hi j hj) (hV.2.aok _ (List.getElem_mem hi))
  clear hbl hcs hsum
  go_upto_region 5 with fail
  refine wp_region_held_drew (S := QO w p b0 B s Ac mc cc Aa ma ca b0 B2 s2 Ac2 mc2 cc2 (some ⟨b9, off, none⟩) ma2 ca2) (by kernel_rfl) (QO.drew H3.out) (fun hHeld => ?_)
  refine tk (i := 0) (v := ?_) rfl (by kernel_rfl) (fun _ _ _ h => h) (by rfl) ?_ (by assumption) ?_
  rotate_left
  · (intro W hSw; have hz := hSw.1.2.1.cells; have hy := hSw.2.cells; skip; go_simp; try with_reducible rfl)
  try simp only [Act.put, gA, gZ, sA, sZ, sS]
  refine tk (i := 1) (v := ?_) rfl (by kernel_rfl) (fun _ _ _ h => h) (by rfl) ?_ (by assumption) ?_
  rotate_left
  · (intro W hSw; have hz := hSw.1.2.1.cells; have hy := hSw.2.cells; skip; go_simp; try with_reducible rfl)
  try simp only [Act.put, gA, gS, gZ, sA, sZ, sS]
  refine tk (i := 2) (v := ?_) rfl (by kernel_rfl) (fun _ _ _ h => h) (by rfl) ?_ (by assumption) ?_
  rotate_left
  · (intro W hSw; have hz := hSw.1.2.1.cells; have hy := hSw.2.cells; skip; go_simp; try with_reducible rfl)
  try simp only [Act.put, gA, gS, gZ, sA, sZ, sS]
  refine tk (i := 3) (v := ?_) rfl (by kernel_rfl) (fun _ _ _ h => h) (by rfl) ?_ (by assumption) ?_
  rotate_left
  · (intro W hSw; have hz := hSw.1.2.1.cells; have hy := hSw.2.cells; skip; go_simp; try with_reducible rfl)
  try simp only [Act.put, gA, gS, gZ, sA, sZ, sS]
  refine tk (i := 4) (v := ?_) rfl (by kernel_rfl) (fun _ _ _ h => h) (by rfl) ?_ (by assumption) ?_
  rotate_left
  · (intro W hSw; have hz := hSw.1.2.1.cells; have hy := hSw.2.cells; skip; go_simp; try with_reducible rfl)
  try simp only [Act.put, gA, gS, gZ, sA, sZ, sS]
  refine tk (i := 5) (v := ?_) rfl (by kernel_rfl) (fun _ _ _ h => h) (by rfl) ?_ (by assumption) ?_
  rotate_left
  · (intro W hSw; have hz := hSw.1.2.1.cells; have hy := hSw.2.cells; skip; go_simp; try with_reducible rfl)
  try simp only [Act.put, gA, gS, gZ, sA, sZ, sS]
  refine tk (i := 6) (v := ?_) rfl (by kernel_rfl) (fun _ _ _ h => h) (by rfl) ?_ (by assumption) ?_
  rotate_left
  · (intro W hSw; have hz := hSw.1.2.1.cells; have hy := hSw.2.cells; skip; go_simp; try with_reducible rfl)
  try simp only [Act.put, gA, gS, gZ, sA, sZ, sS]
  refine tk (i := 7) (v := ?_) rfl (by kernel_rfl) (fun _ _ _ h => h) (by rfl) ?_ (by assumption) ?_
  rotate_left
  · (intro W hSw; have hz := hSw.1.2.1.cells; have hy := hSw.2.cells; skip; go_simp; try with_reducible rfl)
  try simp only [Act.put, gA, gS, gZ, sA, sZ, sS]
  refine tk (i := 8) (v := ?_) rfl (by kernel_rfl) (fun _ _ _ h => h) (by rfl) ?_ (by assumption) ?_
  rotate_left
  · (intro W hSw; have hz := hSw.1.2.1.cells; have hy := hSw.2.cells; skip; go_simp; try with_reducible rfl)
  try simp only [Act.put, gA, gS, gZ, sA, sZ, sS]
  refine tk (i := 9) (v := ?_) rfl (by kernel_rfl) (fun _ _ _ h => h) (by rfl) ?_ (by assumption) ?_
  rotate_left
  · (intro W hSw; have hz := hSw.1.2.1.cells; have hy := hSw.2.cells; skip; go_simp; try with_reducible rfl)
  try simp only [Act.put, gA, gS, gZ, sA, sZ, sS]
  refine tk (i := 10) (v := ?_) rfl (by kernel_rfl) (fun _ _ _ h => h) (by rfl) ?_ (by assumption) ?_
  rotate_left
  · (intro W hSw; (refine yields_mid TA3 (.tmp 33) ?_ b9 (off + i * 33 + 1) ?_ C _ (HCs.out _ hSw) Tryz.underlying57 rfl (a32 C HC.out.1)); rfl; rfl)
  try simp only [Act.put, gA, gS, gZ, sA, sZ, sS]
  refine tk (i := 11) (v := ?_) rfl (by kernel_rfl) (fun _ _ _ h => h) (by rfl) ?_ (by assumption) ?_
  rotate_left
  · (intro W hSw; have hz := hSw.1.2.1.cells; have hy := hSw.2.cells; skip; go_simp; try with_reducible rfl)
  try simp only [Act.put, gA, gS, gZ, sA, sZ, sS]
  refine wpAnyH_ready (rs := [12]) (by kernel_rfl) (by simp) ?_
  refine AllReadyH.cons rfl (fun K hK => ?_) AllReadyH.nil
  simp only [gA, gS, gZ]
  rw [if_pos (by rfl)]
  go_simp
  (refine (HSu.out _).mono ?_; rintro e w5 ⟨rfl, hb5⟩)
  go_wp2_with fail
  refine hK.out _ _ (QO.call hHeld hb5) (fun hHeld => ?_)
  clear hK K
  try simp only [Act.put, gA, gS, gZ, sA, sZ, sS]
  have hneq := HNe.out
  refine tk (i := 13) (v := ?_) rfl (by kernel_rfl) (fun _ _ _ h => h) (by rfl) ?_ (by assumption) ?_
  rotate_left
  · (intro W hSw; have hz := hSw.1.2.1.cells; have hy := hSw.2.cells; skip; go_simp; try with_reducible rfl)
  try simp only [Act.put, gA, gS, gZ, sA, sZ, sS]
  refine tk (i := 14) (v := ?_) rfl (by kernel_rfl) (fun _ _ _ h => h) (by rfl) ?_ (by assumption) ?_
  rotate_left
  · (intro W hSw; have hz := hSw.1.2.1.cells; have hy := hSw.2.cells; skip; go_simp; try with_reducible rfl)
  try simp only [Act.put, gA, gS, gZ, sA, sZ, sS]
  refine wpAnyH_done (by kernel_rfl) ?_ _
  have H5 := Lib.hid hHeld
  clear hHeld hneq HCs
  go_upto_region 7 with fail
  refine wp_region_held_drew (S := QO w p b0 B s Ac mc cc Aa ma ca b0 B2 s2 Ac2 mc2 cc2 (some ⟨b9, off, none⟩) ma2 ca2) (by kernel_rfl) (QO.drew H5.out) (fun hHeld => ?_)
  refine tk (i := 0) (v := ?_) rfl (by kernel_rfl) (fun _ _ _ h => h) (by rfl) ?_ (by assumption) ?_
  rotate_left
  · (intro W hSw; have hz := hSw.1.2.1.cells; obtain ⟨e0, e1, e2, e3, e4, e5, e6, e7, e8, hf1⟩ := hSw.1.2.2.cells; rw [hor] at e2; go_simp; try with_reducible rfl)
  try simp only [Act.put, gA, gZ, sA, sZ, sS]
  refine tk (i := 1) (v := ?_) rfl (by kernel_rfl) (fun _ _ _ h => h) (by rfl) ?_ (by assumption) ?_
  rotate_left
  · (intro W hSw; have hz := hSw.1.2.1.cells; obtain ⟨e0, e1, e2, e3, e4, e5, e6, e7, e8, hf1⟩ := hSw.1.2.2.cells; rw [hor] at e2; go_simp; try with_reducible rfl)
  try simp only [Act.put, gA, gS, gZ, sA, sZ, sS]
  refine tk (i := 2) (v := ?_) rfl (by kernel_rfl) (fun _ _ _ h => h) (by rfl) ?_ (by assumption) ?_
  rotate_left
  · (intro W hSw; have hz := hSw.1.2.1.cells; obtain ⟨e0, e1, e2, e3, e4, e5, e6, e7, e8, hf1⟩ := hSw.1.2.2.cells; rw [hor] at e2; go_simp; try with_reducible rfl)
  try simp only [Act.put, gA, gS, gZ, sA, sZ, sS]
  refine tk (i := 3) (v := ?_) rfl (by kernel_rfl) (fun _ _ _ h => h) (by rfl) ?_ (by assumption) ?_
  rotate_left
  · (intro W hSw; have hz := hSw.1.2.1.cells; obtain ⟨e0, e1, e2, e3, e4, e5, e6, e7, e8, hf1⟩ := hSw.1.2.2.cells; rw [hor] at e2; go_simp; try with_reducible rfl)
  try simp only [Act.put, gA, gS, gZ, sA, sZ, sS]
  refine tk (i := 4) (v := ?_) rfl (by kernel_rfl) (fun _ _ _ h => h) (by rfl) ?_ (by assumption) ?_
  rotate_left
  · (intro W hSw; have hz := hSw.1.2.1.cells; obtain ⟨e0, e1, e2, e3, e4, e5, e6, e7, e8, hf1⟩ := hSw.1.2.2.cells; rw [hor] at e2; go_simp; try with_reducible rfl)
  try simp only [Act.put, gA, gS, gZ, sA, sZ, sS]
  refine tk (i := 5) (v := ?_) rfl (by kernel_rfl) (fun _ _ _ h => h) (by rfl) ?_ (by assumption) ?_
  rotate_left
  · (intro W hSw; have hz := hSw.1.2.1.cells; obtain ⟨e0, e1, e2, e3, e4, e5, e6, e7, e8, hf1⟩ := hSw.1.2.2.cells; rw [hor] at e2; go_simp; try with_reducible rfl)
  try simp only [Act.put, gA, gS, gZ, sA, sZ, sS]
  refine tk (i := 6) (v := ?_) rfl (by kernel_rfl) (fun _ _ _ h => h) (by rfl) ?_ (by assumption) ?_
  rotate_left
  · (intro W hSw; have hz := hSw.1.2.1.cells; obtain ⟨e0, e1, e2, e3, e4, e5, e6, e7, e8, hf1⟩ := hSw.1.2.2.cells; rw [hor] at e2; go_simp; try with_reducible rfl)
  try simp only [Act.put, gA, gS, gZ, sA, sZ, sS]
  refine tk (i := 7) (v := ?_) rfl (by kernel_rfl) (fun _ _ _ h => h) (by rfl) ?_ (by assumption) ?_
  rotate_left
  · (intro W hSw; have hz := hSw.1.2.1.cells; obtain ⟨e0, e1, e2, e3, e4, e5, e6, e7, e8, hf1⟩ := hSw.1.2.2.cells; rw [hor] at e2; go_simp; try with_reducible rfl)
  try simp only [Act.put, gA, gS, gZ, sA, sZ, sS]
  refine tk (i := 8) (v := ?_) rfl (by kernel_rfl) (fun _ _ _ h => h) (by rfl) ?_ (by assumption) ?_
  rotate_left
  · (intro W hSw; have hz := hSw.1.2.1.cells; obtain ⟨e0, e1, e2, e3, e4, e5, e6, e7, e8, hf1⟩ := hSw.1.2.2.cells; rw [hor] at e2; go_simp; try with_reducible rfl)
  try simp only [Act.put, gA, gS, gZ, sA, sZ, sS]
  refine tk (i := 9) (v := ?_) rfl (by kernel_rfl) (fun _ _ _ h => h) (by rfl) ?_ (by assumption) ?_
  rotate_left
  · (intro W hSw; have hz := hSw.1.2.1.cells; obtain ⟨e0, e1, e2, e3, e4, e5, e6, e7, e8, hf1⟩ := hSw.1.2.2.cells; rw [hor] at e2; go_simp; try with_reducible rfl)
  try simp only [Act.put, gA, gS, gZ, sA, sZ, sS]
  refine tk (i := 10) (v := ?_) rfl (by kernel_rfl) (fun _ _ _ h => h) (by rfl) ?_ (by assumption) ?_
  rotate_left
  · (intro W hSw; have hz := hSw.1.2.1.cells; obtain ⟨e0, e1, e2, e3, e4, e5, e6, e7, e8, hf1⟩ := hSw.1.2.2.cells; rw [hor] at e2; go_simp; try with_reducible rfl)
  try simp only [Act.put, gA, gS, gZ, sA, sZ, sS]
  refine tk (i := 11) (v := ?_) rfl (by kernel_rfl) (fun _ _ _ h => h) (by rfl) ?_ (by assumption) ?_
  rotate_left
  · (intro W hSw; have hz := hSw.1.2.1.cells; obtain ⟨e0, e1, e2, e3, e4, e5, e6, e7, e8, hf1⟩ := hSw.1.2.2.cells; rw [hor] at e2; go_simp; try with_reducible rfl)
  try simp only [Act.put, gA, gS, gZ, sA, sZ, sS]
  refine tk (i := 12) (v := ?_) rfl (by kernel_rfl) (fun _ _ _ h => h) (by rfl) ?_ (by assumption) ?_
  rotate_left
  · (intro W hSw; have hz := hSw.1.2.1.cells; obtain ⟨e0, e1, e2, e3, e4, e5, e6, e7, e8, hf1⟩ := hSw.1.2.2.cells; rw [hor] at e2; go_simp; try with_reducible rfl)
  try simp only [Act.put, gA, gS, gZ, sA, sZ, sS]
  refine wpAnyH_done (by kernel_rfl) ?_ _
  have H6 := Lib.hid hHeld
  clear hHeld
  clear himc hilt hi0
  go_upto_region 9 with fail
  refine wp_region_last (S := SB B s Ac mc cc Aa ma ca w.heap.size p) 15 (by kernel_rfl) ?_
  have HD : Hid (PN b0 w5.drew.drew B s Ac mc cc Aa ma ca ∧ PkB w5.drew.drew w.heap.size p ∧ FP B (Value.slice Ac mc cc).ownBlock (Value.slice Aa ma ca).ownBlock w w5.drew.drew) := Lib.hid ⟨H6.out.1.2.2.below (Below.refl _ _).drew, H6.out.1.2.1, FP.of_below H6.out.1.1.drew⟩
  obtain ⟨w3, hw3⟩ : ∃ X, X = w5.drew.drew := ⟨_, rfl⟩
  rw [← hw3] at HD ⊢
  clear hw3
  have hHeld := HD.out.1.sb HD.out.2.1
  refine wpL_take (i := 0) (oi := _) (v := ?_) [14, 13] rfl (by kernel_rfl) (by kernel_rfl) (by kernel_rfl) (by kernel_rfl) (by kernel_rfl) (fun _ _ _ h => h) (Or.inl ⟨by rfl, ?_⟩) (by assumption) ?_
  rotate_left
  · (intro V hSw; have hz := hSw.2.cells; have hy := hSw.cells; go_simp; try with_reducible rfl)
  try simp only [Act.put, gA, gZ, sA, sZ, sS]
  refine wpL_take (i := 1) (oi := _) (v := ?_) [12, 4, 3, 2] rfl (by kernel_rfl) (by kernel_rfl) (by kernel_rfl) (by kernel_rfl) (by kernel_rfl) (fun _ _ _ h => h) (Or.inl ⟨by rfl, ?_⟩) (by assumption) ?_
  rotate_left
  · (intro V hSw; have hz := hSw.2.cells; have hy := hSw.cells; go_simp; try with_reducible rfl)
  try simp only [Act.put, gA, gS, gZ, sA, sZ, sS]
  refine wpL_take (i := 2) (oi := _) (v := ?_) [12, 4, 3] rfl (by kernel_rfl) (by kernel_rfl) (by kernel_rfl) (by kernel_rfl) (by kernel_rfl) (fun _ _ _ h => h) (Or.inl ⟨by rfl, ?_⟩) (by assumption) ?_
  rotate_left
  · (intro V hSw; have hz := hSw.2.cells; have hy := hSw.cells; go_simp; try with_reducible rfl)
  try simp only [Act.put, gA, gS, gZ, sA, sZ, sS]
  refine wpL_take (i := 3) (oi := _) (v := ?_) [12, 4] rfl (by kernel_rfl) (by kernel_rfl) (by kernel_rfl) (by kernel_rfl) (by kernel_rfl) (fun _ _ _ h => h) (Or.inl ⟨by rfl, ?_⟩) (by assumption) ?_
  rotate_left
  · (intro V hSw; have hz := hSw.2.cells; have hy := hSw.cells; go_simp; try with_reducible rfl)
  try simp only [Act.put, gA, gS, gZ, sA, sZ, sS]
  refine wpL_take (i := 4) (oi := _) (v := ?_) [12] rfl (by kernel_rfl) (by kernel_rfl) (by kernel_rfl) (by kernel_rfl) (by kernel_rfl) (fun _ _ _ h => h) (Or.inl ⟨by rfl, ?_⟩) (by assumption) ?_
  rotate_left
  · (intro V hSw; have hz := hSw.2.cells; have hy := hSw.cells; go_simp; try with_reducible rfl)
  try simp only [Act.put, gA, gS, gZ, sA, sZ, sS]
  refine wpL_take (i := 5) (oi := _) (v := ?_) [12, 11, 8, 7, 6] rfl (by kernel_rfl) (by kernel_rfl) (by kernel_rfl) (by kernel_rfl) (by kernel_rfl) (fun _ _ _ h => h) (Or.inl ⟨by rfl, ?_⟩) (by assumption) ?_
  rotate_left
  · (intro V hSw; have hz := hSw.2.cells; have hy := hSw.cells; go_simp; try with_reducible rfl)
  try simp only [Act.put, gA, gS, gZ, sA, sZ, sS]
  refine wpL_take (i := 6) (oi := _) (v := ?_) [12, 11, 8, 7] rfl (by kernel_rfl) (by kernel_rfl) (by kernel_rfl) (by kernel_rfl) (by kernel_rfl) (fun _ _ _ h => h) (Or.inl ⟨by rfl, ?_⟩) (by assumption) ?_
  rotate_left
  · (intro V hSw; have hz := hSw.2.cells; have hy := hSw.cells; go_simp; try with_reducible rfl)
  try simp only [Act.put, gA, gS, gZ, sA, sZ, sS]
  refine wpL_take (i := 7) (oi := _) (v := ?_) [12, 11, 8] rfl (by kernel_rfl) (by kernel_rfl) (by kernel_rfl) (by kernel_rfl) (by kernel_rfl) (fun _ _ _ h => h) (Or.inl ⟨by rfl, ?_⟩) (by assumption) ?_
  rotate_left
  · (intro V hSw; have hz := hSw.2.cells; have hy := hSw.cells; go_simp; try with_reducible rfl)
  try simp only [Act.put, gA, gS, gZ, sA, sZ, sS]
  refine wpL_take (i := 8) (oi := _) (v := ?_) [12, 11] rfl (by kernel_rfl) (by kernel_rfl) (by kernel_rfl) (by kernel_rfl) (by kernel_rfl) (fun _ _ _ h => h) (Or.inl ⟨by rfl, ?_⟩) (by assumption) ?_
  rotate_left
  · (intro V hSw; have hz := hSw.2.cells; have hy := hSw.cells; go_simp; try with_reducible rfl)
  try simp only [Act.put, gA, gS, gZ, sA, sZ, sS]
  refine wpL_take (i := 9) (oi := _) (v := ?_) [12, 11, 10] rfl (by kernel_rfl) (by kernel_rfl) (by kernel_rfl) (by kernel_rfl) (by kernel_rfl) (fun _ _ _ h => h) (Or.inl ⟨by rfl, ?_⟩) (by assumption) ?_
  rotate_left
  · (intro V hSw; have hz := hSw.2.cells; have hy := hSw.cells; go_simp; try with_reducible rfl)
  try simp only [Act.put, gA, gS, gZ, sA, sZ, sS]
  refine wpL_take (i := 10) (oi := _) (v := ?_) [12, 11] rfl (by kernel_rfl) (by kernel_rfl) (by kernel_rfl) (by kernel_rfl) (by kernel_rfl) (fun _ _ _ h => h) (Or.inl ⟨by rfl, ?_⟩) (by assumption) ?_
  rotate_left
  · (intro V hSw; have hz := hSw.2.cells; have hy := hSw.cells; go_simp; try with_reducible rfl)
  try simp only [Act.put, gA, gS, gZ, sA, sZ, sS]
  refine wpL_ready (rs := [11]) (by kernel_rfl) (by simp) ?_
  refine AllL.cons rfl (fun K hK => ?_) AllL.nil
  simp only [gA, gS, gZ]
  rw [if_pos (by rfl)]
  go_simp
  refine (find_any Ac mc cc s.cm p.s _ (own_rdT HD.out.1.rc HD.out.1.cok) (by have := HD.out.1.rc.2; have := HM.out; omega)).mono ?_
  rintro e w4 ⟨⟨z, rfl, hz⟩, hw⟩
  obtain rfl := hw.symm
  clear hw
  rcases hz with ⟨i, hi, rfl, hk1, -, hk2⟩ | ⟨rfl, hk2⟩
  rotate_left
  · exact absurd HK.out (by rw [hk2]; simp)
  have hdel := del_erase s.cm p.s i hi hk1 hk2
  have HDl := Lib.hid (And.intro hi hdel)
  clear hk1 hk2 hdel hi
  go_wp2_with fail
  refine hK.out _ _ (Or.inr hHeld) ?_
  clear hK K
  try simp only [Act.put, gA, gS, gZ, sA, sZ, sS]
  refine wpL_ready (rs := [12]) (by kernel_rfl) (by simp) ?_
  refine AllL.cons rfl (fun K hK => ?_) AllL.nil
  simp only [gA, gS, gZ]
  rw [if_pos (by rfl)]
  go_simp
  refine (wo_any Ac mc cc s.cm i _ (own_rdT HD.out.1.rc HD.out.1.cok) (by have := HD.out.1.rc.2; have := HM.out; omega) (by have := HD.out.1.rc.2; have := HDl.out.1; omega)).mono ?_
  rintro e w4 ⟨A', m', c', rfl, ho, hb4⟩
  have hs4 := hHeld.below hb4
  have H4 : Hid (SB B s Ac mc cc Aa ma ca w.heap.size p w4 ∧ OwnT w3.heap.size w4 A' m' c' (del p.s s.cm) ∧ PN b0 w4 B s Ac mc cc Aa ma ca ∧ FP B (Value.slice Ac mc cc).ownBlock (Value.slice Aa ma ca).ownBlock w w4) := Lib.hid ⟨hs4, by rw [← HDl.out.2]; exact ho, HD.out.1.below hb4, HD.out.2.2.call hb4⟩
  clear ho hb4 hHeld
  go_wp2_with fail
  refine hK.out _ _ (Or.inr hs4) ?_
  clear hK K hs4
  try simp only [Act.put, gA, gS, gZ, sA, sZ, sS]
  have hHeld := H4.out.1
  refine wpL_take (i := 13) (oi := _) (v := ?_) [14] rfl (by kernel_rfl) (by kernel_rfl) (by kernel_rfl) (by kernel_rfl) (by kernel_rfl) (fun _ _ _ h => h) (Or.inl ⟨by rfl, ?_⟩) (by assumption) ?_
  rotate_left
  · (intro V hSw; have hz := hSw.2.cells; have hy := hSw.cells; go_simp; try with_reducible rfl)
  try simp only [Act.put, gA, gS, gZ, sA, sZ, sS]
  refine wpL_take (i := 14) (oi := _) (v := ?_) [] rfl (by kernel_rfl) (by kernel_rfl) (by kernel_rfl) (by kernel_rfl) (by kernel_rfl) (fun _ _ _ h => h) (Or.inl ⟨by rfl, ?_⟩) (by assumption) ?_
  rotate_left
  · (intro V hSw; have hz := hSw.2.cells; have hy := hSw.cells; go_simp; try with_reducible rfl)
  try simp only [Act.put, gA, gS, gZ, sA, sZ, sS]
  clear hHeld
  refine wpL_ready (rs := [15]) (by kernel_rfl) (by simp) ?_
  refine AllL.cons rfl (fun K hK => ?_) AllL.nil
  simp only [gA, gS, gZ]
  rw [if_pos (by rfl)]
  obtain ⟨e0, e1, e2, e3, e4, e5, e6, e7, e8, hf1⟩ := H4.out.1.cells
  go_simp
  refine hK.out _ _ (Or.inl rfl) ?_
  clear hK K e0 e1 e2 e3 e4 e5 e6 e7 e8 hf1
  try simp only [Act.put, gA, gS, gZ, sA, sZ, sS]
  refine wpL_done (by kernel_rfl) ?_ _
  have hnew : ∀ k, (Value.slice A' m' c').ownBlock = some k → w3.heap.size ≤ k := own_geT H4.out.2.1
  have hws : w.heap.size ≤ w3.heap.size := HD.out.2.2.size
  have hpn := H4.out.1.setC (own_baseT H4.out.2.1 (Nat.le_trans HB0.out hws)) H4.out.2.2.1.ra (by rw [← HDl.out.2]; exact ok_erase H4.out.2.2.1.cok) H4.out.2.2.1.aok (fun k hk hk2 => by have := hnew k hk; have := own_ltT HD.out.1.ra k hk2; omega)
  have hfp := H4.out.2.2.2.set 7 (.slice A' m' c')
  obtain ⟨w5, hw5⟩ : ∃ X, X = w4.setCell ⟨B, 7, none⟩ (.slice A' m' c') := ⟨_, rfl⟩
  rw [← hw5] at hpn hfp ⊢
  have H5 := Lib.hid (And.intro hpn (And.intro hfp (fun k (hk : (Value.slice A' m' c').ownBlock = some k) => Nat.le_trans hws (hnew k hk))))
  clear hw5 hnew hws hpn hfp H4 HDl HD
  obtain ⟨e0, e1, e2, e3, e4, e5, e6, e7, e8, hf1⟩ := H5.out.1.cells
  rw [hor] at e2
  have hw := HW.out
  have hpn := H5.out.1.ackd y
  have hfp := H5.out.2.1.set 6 (.int .u64 y)
  have H8 := Lib.hid (And.intro hpn hfp)
  clear hpn hfp
  go_wp2
  go_ret
  exact ⟨rfl, A', m', c', Aa, ma, ca, by have h2 : ackS p s = { s with cm := del p.s s.cm, ak := y } := (by unfold ackS; rw [HY.out]); rw [h2]; exact H8.out.1, H8.out.2, fun k hk => .inr (H5.out.2.2 k hk), fun k hk => .inl hk⟩
theorem pak_any {w : World} {b0 B : Nat} {s : St} {Ac Aa : Option Addr} {mc cc ma ca : Nat} {B2 : Nat} {s2 : St} {Ac2 Aa2 : Option Addr} {mc2 cc2 ma2 ca2 : Nat} (p : P5) (a : ByteArray) (hL : PN b0 w B s Ac mc cc Aa ma ca) (hO : PN b0 w B2 s2 Ac2 mc2 cc2 Aa2 ma2 ca2) (hb0 : b0 ≤ w.heap.size) (hp : p.ok) (ha : a.size ≤ 1000000) (hm : s.cm.length ≤ 1000000) (hm2 : s2.ac.length ≤ 1000000) (hk : 0 ≤ s.ak) (hc : (Mg.lk p.s s.cm).isSome = true → p.s < 18446744073709551615) :
    Calls Tryz.prog 13 #[.pointer (some ⟨B, 0, none⟩), pkv p, .string a, .pointer (some ⟨B2, 0, none⟩)] w fun e w' => e = .returned (.int .i64 (ackC s s2 p a)) ∧ PX b0 B (Value.slice Ac mc cc).ownBlock (Value.slice Aa ma ca).ownBlock w (ackT s s2 p a) w' := by
  have errk : ∀ c, c ≠ 0 → ackC s s2 p a = c → (Calls Tryz.prog 13 #[.pointer (some ⟨B, 0, none⟩), pkv p, .string a, .pointer (some ⟨B2, 0, none⟩)] w fun e w' => e = .returned (.int .i64 c) ∧ Below w.heap.size w w') → Calls Tryz.prog 13 #[.pointer (some ⟨B, 0, none⟩), pkv p, .string a, .pointer (some ⟨B2, 0, none⟩)] w fun e w' => e = .returned (.int .i64 (ackC s s2 p a)) ∧ PX b0 B (Value.slice Ac mc cc).ownBlock (Value.slice Aa ma ca).ownBlock w (ackT s s2 p a) w' := fun c hc he H => H.mono fun e w' ⟨h1, h2⟩ =>
    ⟨by rw [he]; exact h1, by unfold ackT; rw [he, if_neg hc]; exact PX.same hL h2⟩
  have hop := mine_any (b0 := b0) (B := B) (s := s) (Ac := Ac) (mc := mc) (cc := cc) (Aa := Aa) (ma := ma) (ca := ca) p hp hm
  by_cases h0 : openC s p = 0
  · rw [h0] at hop
    obtain ⟨hcl, hcm⟩ := openC_z h0
    cases h1 : (Mg.lk p.s s2.ac).isSome
    · exact errk 18 (by decide) (by simp [ackC, h0, h1]) (pak_none p a hL hO hb0 hop hm2 h1)
    · by_cases h2 : sumOf p.s s2.ac = ackP a
      · cases h3 : s.o
        · have hz : ackC s s2 p a = 0 := by simp [ackC, h0, h1, h2, h3]
          refine (pak_un p a hL hO hb0 hop ha hm hcm hm2 h1 h2 h3).mono fun e w' ⟨e1, e2⟩ => ⟨?_, ?_⟩
          · rw [hz]; exact e1
          · unfold ackT; rw [hz, if_pos rfl, h3]; exact e2
        · by_cases h4 : p.s = s.ak
          · have hz : ackC s s2 p a = 0 := by unfold ackC; rw [if_neg (by simp [h0]), if_neg (by simp [h1]), if_neg (by simp [h2]), if_neg (fun k => k.2 h4)]
            have h9 := hc hcm
            refine (pak_or p a hL hO hb0 hop ha hm hcm hm2 h1 h2 h3 (by simp [h4]) hk (by omega)).mono fun e w' ⟨e1, e2⟩ => ⟨?_, ?_⟩
            · rw [hz]; exact e1
            · unfold ackT; rw [hz, if_pos rfl, h3]; exact e2
          · exact errk 19 (by decide) (by simp [ackC, h0, h1, h2, h3, h4]) (pak_order p a hL hO hb0 hop ha hm2 h1 h2 h3 (by simp [h4]))
      · exact errk 18 (by decide) (by simp [ackC, h0, h1, h2]) (pak_other p a hL hO hb0 hop ha hm2 h1 h2)
  · exact errk _ h0 (by simp [ackC, h0]) (pak_err p a hL hO hb0 _ (by simpa using h0) hop)
end Go.Proofs.YtdljphbfbiganaaGreatDoor.Pl
