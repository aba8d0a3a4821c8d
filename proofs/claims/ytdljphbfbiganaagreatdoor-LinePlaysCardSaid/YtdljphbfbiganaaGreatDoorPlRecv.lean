import Derived.Test.YtdljphbfbiganaaGreatDoorTk
import Derived.Test.YtdljphbfbiganaaGreatDoorGPlNote
import Derived.Test.YtdljphbfbiganaaGreatDoorPlAck
/- The page's line: a packet is received. -/
namespace Go.Proofs.YtdljphbfbiganaaGreatDoor.Pl
open Go Go.RowKit Packet Mg Lg Ln
set_option linter.unusedVariables false

set_option maxRecDepth 20000 in
set_option maxHeartbeats 16000000 in
theorem prc_any {w : World} {b0 B : Nat} {s : St} {Ac Aa : Option Addr} {mc cc ma ca : Nat} {B2 : Nat} {s2 : St} {Ac2 Aa2 : Option Addr} {mc2 cc2 ma2 ca2 : Nat} (p : P5) (h x : Int) (hL : PN b0 w B s Ac mc cc Aa ma ca) (hO : PN b0 w B2 s2 Ac2 mc2 cc2 Aa2 ma2 ca2) (hb0 : b0 ≤ w.heap.size) (hp : p.ok) (hx : IntKind.i64.wrap (1 - s.sd) = x) (hma : s.ac.length ≤ 1000000) (hm2 : s2.cm.length ≤ 1000000) (hr : 0 ≤ s.rc) (hc : (Mg.lk p.s s2.cm).isSome = true → p.s < 18446744073709551615) :
    Calls Tryz.prog 11 #[.pointer (some ⟨B, 0, none⟩), pkv p, .int .u64 h, .pointer (some ⟨B2, 0, none⟩)] w fun e w' => e = .returned (.tuple #[.string (recvT s s2 p x h), .int .i64 (recvC s s2 p x h)]) ∧ PX b0 B (Value.slice Ac mc cc).ownBlock (Value.slice Aa ma ca).ownBlock w (recvS s s2 p x h) w' := by
  have EK : Hid (∀ c w', c ≠ 0 → recvC s s2 p x h = c → Below w.heap.size w w' → Ending.returned (.tuple #[.string ⟨#[]⟩, .int .i64 c]) = Ending.returned (.tuple #[.string (recvT s s2 p x h), .int .i64 (recvC s s2 p x h)]) ∧ PX b0 B (Value.slice Ac mc cc).ownBlock (Value.slice Aa ma ca).ownBlock w (recvS s s2 p x h) w') := Lib.hid fun c w' hc he hb =>
    ⟨by unfold recvT; rw [he, if_neg hc], by unfold recvS; rw [he, if_neg hc]; exact PX.same hL hb⟩
  have OKr : Hid (∀ S', recvC s s2 p x h = 0 → (if s.o = true then recO p s else recU p s) = S' → recvS s s2 p x h = S' ∧ recvT s s2 p x h = Sha.ackS p.d) := Lib.hid fun S' he h1 => ⟨by unfold recvS; rw [he, if_pos rfl]; exact h1, by unfold recvT; rw [he, if_pos rfl]⟩
  obtain ⟨bf, hbf⟩ : ∃ b, fitG s p x = b := ⟨_, rfl⟩
  obtain ⟨bl, hbl⟩ : ∃ b, lateB p h = b := ⟨_, rfl⟩
  have HF := Lib.hid (fun W (hW : PN b0 W B s Ac mc cc Aa ma ca) => hbf ▸ ours_g p x hW)
  have HLt := Lib.hid (fun W => hbl ▸ plate_any p h W hp.2.2.1)
  have HSuR := Lib.hid (fun (hr : p.right) => rsum_g p hr hp)
  obtain ⟨b, hb, hne⟩ := neq_arr TA3 Tryz.underlying57 (sumOf p.s s2.cm) (sumP p) (sumOf_ok hO.cok) (sumP_ok p)
  have hCo := sumOf_ok (k := p.s) hO.cok
  obtain ⟨C, hCd⟩ : ∃ C, C = sumOf p.s s2.cm := ⟨_, rfl⟩
  obtain ⟨D, hDd⟩ : ∃ D, D = sumP p := ⟨_, rfl⟩
  rw [← hCd] at hne hCo
  rw [← hDd] at hne HSuR
  have HC := Lib.hid hCo
  have HNe := Lib.hid hne
  have HCd := Lib.hid hCd
  have HBb := Lib.hid hb
  have HBf := Lib.hid hbf
  have HBl := Lib.hid hbl
  have HMa := Lib.hid hma
  have HM2 := Lib.hid hm2
  have HCc := Lib.hid (And.intro hr hc)
  have h0 : QO w p b0 B s Ac mc cc Aa ma ca b0 B2 s2 Ac2 mc2 cc2 Aa2 ma2 ca2 (w.alloc (.cells #[.int .i64 p.c, .int .i64 p.f, .int .u64 p.s, .int .u64 p.t, .string p.d] TPk)) := QO.new hL hO
  obtain ⟨V, hV⟩ : ∃ X, X = w.alloc (.cells #[.int .i64 p.c, .int .i64 p.f, .int .u64 p.s, .int .u64 p.t, .string p.d] TPk) := ⟨_, rfl⟩
  rw [← hV] at h0
  have H0 := Lib.hid h0
  have HV := Lib.hid hV
  have HB0 := Lib.hid hb0
  clear hbf hbl hb hne hCo hCd hDd hma hm2 hr hc h0 hV hL hO hb0 hp
  go_enter Tryz.func11, Tryz.ntmps11
  go_upto_region 1 with fail
  rw [← HV.out]
  refine wp_region_held_drew (S := QO w p b0 B s Ac mc cc Aa ma ca b0 B2 s2 Ac2 mc2 cc2 Aa2 ma2 ca2) (by kernel_rfl) (QO.drew H0.out) (fun hHeld => ?_)
  refine tk (i := 0) (v := ?_) rfl (by kernel_rfl) (fun _ _ _ h => h) (by rfl) ?_ (by assumption) ?_
  rotate_left
  · (intro W hSw; have hz := hSw.1.2.1.cells; have hy := hSw.1.2.2.cells; go_simp; try with_reducible rfl)
  try simp only [Act.put, gA, gZ, sA, sZ, sS]
  refine tk (i := 1) (v := ?_) rfl (by kernel_rfl) (fun _ _ _ h => h) (by rfl) ?_ (by assumption) ?_
  rotate_left
  · (intro W hSw; have hz := hSw.1.2.1.cells; have hy := hSw.1.2.2.cells; go_simp; try with_reducible rfl)
  try simp only [Act.put, gA, gS, gZ, sA, sZ, sS]
  refine tk (i := 2) (v := ?_) rfl (by kernel_rfl) (fun _ _ _ h => h) (by rfl) ?_ (by assumption) ?_
  rotate_left
  · (intro W hSw; have hz := hSw.1.2.1.cells; have hy := hSw.1.2.2.cells; go_simp; try with_reducible rfl)
  try simp only [Act.put, gA, gS, gZ, sA, sZ, sS]
  refine tk (i := 3) (v := ?_) rfl (by kernel_rfl) (fun _ _ _ h => h) (by rfl) ?_ (by assumption) ?_
  rotate_left
  · (intro W hSw; have hz := hSw.1.2.1.cells; have hy := hSw.1.2.2.cells; go_simp; try with_reducible rfl)
  try simp only [Act.put, gA, gS, gZ, sA, sZ, sS]
  refine tk (i := 4) (v := ?_) rfl (by kernel_rfl) (fun _ _ _ h => h) (by rfl) ?_ (by assumption) ?_
  rotate_left
  · (intro W hSw; have hz := hSw.1.2.1.cells; have hy := hSw.1.2.2.cells; go_simp; try with_reducible rfl)
  try simp only [Act.put, gA, gS, gZ, sA, sZ, sS]
  refine tk (i := 5) (v := ?_) rfl (by kernel_rfl) (fun _ _ _ h => h) (by rfl) ?_ (by assumption) ?_
  rotate_left
  · (intro W hSw; have hz := hSw.1.2.1.cells; have hy := hSw.1.2.2.cells; go_simp; try with_reducible rfl)
  try simp only [Act.put, gA, gS, gZ, sA, sZ, sS]
  refine tk (i := 6) (v := ?_) rfl (by kernel_rfl) (fun _ _ _ h => h) (by rfl) ?_ (by assumption) ?_
  rotate_left
  · (intro W hSw; have hz := hSw.1.2.1.cells; have hy := hSw.1.2.2.cells; go_simp; try with_reducible rfl)
  try simp only [Act.put, gA, gS, gZ, sA, sZ, sS]
  refine wpAnyH_ready (rs := [7]) (by kernel_rfl) (by simp) ?_
  refine AllReadyH.cons rfl (fun K hK => ?_) AllReadyH.nil
  simp only [gA, gS, gZ]
  rw [if_pos (by rfl)]
  go_simp
  (refine (HF.out _ hHeld.1.2.2).mono ?_; rintro e w1 ⟨rfl, hb1⟩)
  go_wp2_with fail
  refine hK.out _ _ (QO.call hHeld hb1) (fun hHeld => ?_)
  clear hK K
  try simp only [Act.put, gA, gS, gZ, sA, sZ, sS]
  refine tk (i := 8) (v := ?_) rfl (by kernel_rfl) (fun _ _ _ h => h) (by rfl) ?_ (by assumption) ?_
  rotate_left
  · (intro W hSw; have hz := hSw.1.2.1.cells; have hy := hSw.1.2.2.cells; go_simp; try with_reducible rfl)
  try simp only [Act.put, gA, gS, gZ, sA, sZ, sS]
  refine wpAnyH_done (by kernel_rfl) ?_ _
  have H1 := Lib.hid hHeld
  clear hHeld H0 hx HF
  obtain ⟨h0, h1, h2, h3, h4, hf0⟩ := H1.out.1.2.1.cells
  obtain ⟨e0, e1, e2, e3, e4, e5, e6, e7, e8, hf1⟩ := H1.out.1.2.2.cells
  cases bf
  · go_wp2
    go_ret2
    exact EK.out 1 _ (by decide) (by unfold recvC; rw [HBf.out, if_pos rfl]) H1.out.1.1
  have hrt := ((fitG_iff s p x).1 HBf.out).1
  have HSu := Lib.hid (HSuR.out hrt)
  have HRt := Lib.hid hrt
  clear HSuR hrt
  cases hcl : s.cl
  rotate_left
  · rw [hcl] at e3
    go_wp2
    go_ret2
    exact EK.out 17 _ (by decide) (by unfold recvC; rw [HBf.out, if_neg (by decide), if_pos hcl]) H1.out.1.1
  rw [hcl] at e3
  go_upto_region 5 with fail
  clear h0 h1 h2 h3 h4 hf0 e0 e1 e2 e3 e4 e5 e6 e7 e8 hf1
  refine wp_region_held_drew (S := QO w p b0 B s Ac mc cc Aa ma ca b0 B2 s2 Ac2 mc2 cc2 Aa2 ma2 ca2) (by kernel_rfl) (QO.drew H1.out) (fun hHeld => ?_)
  refine tk (i := 0) (v := ?_) rfl (by kernel_rfl) (fun _ _ _ h => h) (by rfl) ?_ (by assumption) ?_
  rotate_left
  · (intro W hSw; have hz := hSw.1.2.1.cells; have hy := hSw.1.2.2.cells; go_simp; try with_reducible rfl)
  try simp only [Act.put, gA, gZ, sA, sZ, sS]
  refine tk (i := 1) (v := ?_) rfl (by kernel_rfl) (fun _ _ _ h => h) (by rfl) ?_ (by assumption) ?_
  rotate_left
  · (intro W hSw; have hz := hSw.1.2.1.cells; have hy := hSw.1.2.2.cells; go_simp; try with_reducible rfl)
  try simp only [Act.put, gA, gS, gZ, sA, sZ, sS]
  refine tk (i := 2) (v := ?_) rfl (by kernel_rfl) (fun _ _ _ h => h) (by rfl) ?_ (by assumption) ?_
  rotate_left
  · (intro W hSw; have hz := hSw.1.2.1.cells; have hy := hSw.1.2.2.cells; go_simp; try with_reducible rfl)
  try simp only [Act.put, gA, gS, gZ, sA, sZ, sS]
  refine tk (i := 3) (v := ?_) rfl (by kernel_rfl) (fun _ _ _ h => h) (by rfl) ?_ (by assumption) ?_
  rotate_left
  · (intro W hSw; have hz := hSw.1.2.1.cells; have hy := hSw.1.2.2.cells; go_simp; try with_reducible rfl)
  try simp only [Act.put, gA, gS, gZ, sA, sZ, sS]
  refine tk (i := 4) (v := ?_) rfl (by kernel_rfl) (fun _ _ _ h => h) (by rfl) ?_ (by assumption) ?_
  rotate_left
  · (intro W hSw; have hz := hSw.1.2.1.cells; have hy := hSw.1.2.2.cells; go_simp; try with_reducible rfl)
  try simp only [Act.put, gA, gS, gZ, sA, sZ, sS]
  refine tk (i := 5) (v := ?_) rfl (by kernel_rfl) (fun _ _ _ h => h) (by rfl) ?_ (by assumption) ?_
  rotate_left
  · (intro W hSw; have hz := hSw.1.2.1.cells; have hy := hSw.1.2.2.cells; go_simp; try with_reducible rfl)
  try simp only [Act.put, gA, gS, gZ, sA, sZ, sS]
  refine wpAnyH_ready (rs := [6]) (by kernel_rfl) (by simp) ?_
  refine AllReadyH.cons rfl (fun K hK => ?_) AllReadyH.nil
  simp only [gA, gS, gZ]
  rw [if_pos (by rfl)]
  go_simp
  refine (find_any Aa ma ca s.ac p.s _ (own_rdT hHeld.1.2.2.ra hHeld.1.2.2.aok) (by have := hHeld.1.2.2.ra.2; have := HMa.out; omega)).mono ?_
  rintro e w2 ⟨⟨z, rfl, hz⟩, hw⟩
  obtain rfl := hw.symm
  have HZz := Lib.hid hz
  clear hw hz
  go_wp2_with fail
  refine hK.out _ _ hHeld (fun hHeld => ?_)
  clear hK K
  try simp only [Act.put, gA, gS, gZ, sA, sZ, sS]
  refine tk (i := 7) (v := ?_) rfl (by kernel_rfl) (fun _ _ _ h => h) (by rfl) ?_ (by assumption) ?_
  rotate_left
  · (intro W hSw; have hz := hSw.1.2.1.cells; have hy := hSw.1.2.2.cells; go_simp; try with_reducible rfl)
  try simp only [Act.put, gA, gS, gZ, sA, sZ, sS]
  refine wpAnyH_done (by kernel_rfl) ?_ _
  have H2 := Lib.hid hHeld
  clear hHeld
  rcases HZz.out with ⟨i0, hi0l, rfl, -, hk0, -⟩ | ⟨rfl, hk0⟩
  · have hi0 : (0 : Int) ≤ (i0 : Int) := by omega
    have hk1 : (Mg.lk p.s s.ac).isSome = true := by rw [hk0]; rfl
    have HK0 := Lib.hid hk1
    clear hi0l hk0 hk1 HZz
    go_wp2
    go_ret2
    exact EK.out 15 _ (by decide) (by unfold recvC; rw [HBf.out, if_neg (by decide), hcl, if_neg (by decide), HK0.out, if_pos rfl]) H2.out.1.1
  have HKa := Lib.hid hk0
  clear hk0 HZz
  obtain ⟨h0, h1, h2, h3, h4, hf0⟩ := H2.out.1.2.1.cells
  obtain ⟨e0, e1, e2, e3, e4, e5, e6, e7, e8, hf1⟩ := H2.out.1.2.2.cells
  go_wp2_with fail
  refine (HLt.out _).mono ?_
  rintro _ w3 ⟨rfl, b3⟩
  have H3 := Lib.hid (QO.call H2.out b3)
  clear h0 h1 h2 h3 h4 hf0 e0 e1 e2 e3 e4 e5 e6 e7 e8 hf1 b3
  obtain ⟨h0, h1, h2, h3, h4, hf0⟩ := H3.out.1.2.1.cells
  obtain ⟨e0, e1, e2, e3, e4, e5, e6, e7, e8, hf1⟩ := H3.out.1.2.2.cells
  cases bl
  rotate_left
  · go_wp2
    go_ret2
    exact EK.out 20 _ (by decide) (by unfold recvC; rw [HBf.out, if_neg (by decide), hcl, if_neg (by decide), HKa.out, if_neg (by decide), HBl.out, if_pos rfl]) H3.out.1.1
  go_upto_region 9 with fail
  clear h0 h1 h2 h3 h4 hf0 e0 e1 e2 e3 e4 e5 e6 e7 e8 hf1
  refine wp_region_held_drew (S := QO w p b0 B s Ac mc cc Aa ma ca b0 B2 s2 Ac2 mc2 cc2 Aa2 ma2 ca2) (by kernel_rfl) (QO.drew H3.out) (fun hHeld => ?_)
  refine tk (i := 0) (v := ?_) rfl (by kernel_rfl) (fun _ _ _ h => h) (by rfl) ?_ (by assumption) ?_
  rotate_left
  · (intro W hSw; have hz := hSw.1.2.1.cells; have hy := hSw.2.cells; go_simp; try with_reducible rfl)
  try simp only [Act.put, gA, gZ, sA, sZ, sS]
  refine tk (i := 1) (v := ?_) rfl (by kernel_rfl) (fun _ _ _ h => h) (by rfl) ?_ (by assumption) ?_
  rotate_left
  · (intro W hSw; have hz := hSw.1.2.1.cells; have hy := hSw.2.cells; go_simp; try with_reducible rfl)
  try simp only [Act.put, gA, gS, gZ, sA, sZ, sS]
  refine tk (i := 2) (v := ?_) rfl (by kernel_rfl) (fun _ _ _ h => h) (by rfl) ?_ (by assumption) ?_
  rotate_left
  · (intro W hSw; have hz := hSw.1.2.1.cells; have hy := hSw.2.cells; go_simp; try with_reducible rfl)
  try simp only [Act.put, gA, gS, gZ, sA, sZ, sS]
  refine tk (i := 3) (v := ?_) rfl (by kernel_rfl) (fun _ _ _ h => h) (by rfl) ?_ (by assumption) ?_
  rotate_left
  · (intro W hSw; have hz := hSw.1.2.1.cells; have hy := hSw.2.cells; go_simp; try with_reducible rfl)
  try simp only [Act.put, gA, gS, gZ, sA, sZ, sS]
  refine tk (i := 4) (v := ?_) rfl (by kernel_rfl) (fun _ _ _ h => h) (by rfl) ?_ (by assumption) ?_
  rotate_left
  · (intro W hSw; have hz := hSw.1.2.1.cells; have hy := hSw.2.cells; go_simp; try with_reducible rfl)
  try simp only [Act.put, gA, gS, gZ, sA, sZ, sS]
  refine tk (i := 5) (v := ?_) rfl (by kernel_rfl) (fun _ _ _ h => h) (by rfl) ?_ (by assumption) ?_
  rotate_left
  · (intro W hSw; have hz := hSw.1.2.1.cells; have hy := hSw.2.cells; go_simp; try with_reducible rfl)
  try simp only [Act.put, gA, gS, gZ, sA, sZ, sS]
  refine wpAnyH_ready (rs := [6]) (by kernel_rfl) (by simp) ?_
  refine AllReadyH.cons rfl (fun K hK => ?_) AllReadyH.nil
  simp only [gA, gS, gZ]
  rw [if_pos (by rfl)]
  go_simp
  refine (find_any Ac2 mc2 cc2 s2.cm p.s _ (own_rdT hHeld.2.rc hHeld.2.cok) (by have := hHeld.2.rc.2; have := HM2.out; omega)).mono ?_
  rintro e w2 ⟨⟨y, rfl, hz⟩, hw⟩
  obtain rfl := hw.symm
  have HZy := Lib.hid hz
  clear hw hz
  go_wp2_with fail
  refine hK.out _ _ hHeld (fun hHeld => ?_)
  clear hK K
  try simp only [Act.put, gA, gS, gZ, sA, sZ, sS]
  refine tk (i := 7) (v := ?_) rfl (by kernel_rfl) (fun _ _ _ h => h) (by rfl) ?_ (by assumption) ?_
  rotate_left
  · (intro W hSw; have hz := hSw.1.2.1.cells; have hy := hSw.2.cells; go_simp; try with_reducible rfl)
  try simp only [Act.put, gA, gS, gZ, sA, sZ, sS]
  refine wpAnyH_done (by kernel_rfl) ?_ _
  have H4 := Lib.hid hHeld
  clear hHeld
  rcases HZy.out with ⟨i, hi, rfl, hk1, hk2, -⟩ | ⟨rfl, hk2⟩
  rotate_left
  · have HK2 := Lib.hid hk2
    clear hk2 HZy
    go_upto_region 10 with fail
    refine wp_region_held_drew (S := QO w p b0 B s Ac mc cc Aa ma ca b0 B2 s2 Ac2 mc2 cc2 Aa2 ma2 ca2) (by kernel_rfl) (QO.drew H4.out) (fun hHeld => ?_)
    refine tk (i := 0) (v := ?_) rfl (by kernel_rfl) (fun _ _ _ h => h) (by rfl) ?_ (by assumption) ?_
    rotate_left
    · (intro W hSw; have hz := hSw.1.2.1.cells; have hy := hSw.2.cells; go_simp; try with_reducible rfl)
    try simp only [Act.put, gA, gZ, sA, sZ, sS]
    refine tk (i := 1) (v := ?_) rfl (by kernel_rfl) (fun _ _ _ h => h) (by rfl) ?_ (by assumption) ?_
    rotate_left
    · (intro W hSw; have hz := hSw.1.2.1.cells; have hy := hSw.2.cells; go_simp; try with_reducible rfl)
    try simp only [Act.put, gA, gS, gZ, sA, sZ, sS]
    refine tk (i := 2) (v := ?_) rfl (by kernel_rfl) (fun _ _ _ h => h) (by rfl) ?_ (by assumption) ?_
    rotate_left
    · (intro W hSw; have hz := hSw.1.2.1.cells; have hy := hSw.2.cells; go_simp; try with_reducible rfl)
    try simp only [Act.put, gA, gS, gZ, sA, sZ, sS]
    refine tn (i := 3) rfl (by kernel_rfl) (fun _ _ _ h => h) (by rfl) rfl (by assumption) ?_
    try simp only [Act.put, gA, gS, gZ, sA, sZ, sS]
    refine tn (i := 4) rfl (by kernel_rfl) (fun _ _ _ h => h) (by rfl) rfl (by assumption) ?_
    try simp only [Act.put, gA, gS, gZ, sA, sZ, sS]
    refine tn (i := 5) rfl (by kernel_rfl) (fun _ _ _ h => h) (by rfl) rfl (by assumption) ?_
    try simp only [Act.put, gA, gS, gZ, sA, sZ, sS]
    refine tn (i := 6) rfl (by kernel_rfl) (fun _ _ _ h => h) (by rfl) rfl (by assumption) ?_
    try simp only [Act.put, gA, gS, gZ, sA, sZ, sS]
    refine tn (i := 7) rfl (by kernel_rfl) (fun _ _ _ h => h) (by rfl) rfl (by assumption) ?_
    try simp only [Act.put, gA, gS, gZ, sA, sZ, sS]
    refine tn (i := 8) rfl (by kernel_rfl) (fun _ _ _ h => h) (by rfl) rfl (by assumption) ?_
    try simp only [Act.put, gA, gS, gZ, sA, sZ, sS]
    refine tn (i := 9) rfl (by kernel_rfl) (fun _ _ _ h => h) (by rfl) rfl (by assumption) ?_
    try simp only [Act.put, gA, gS, gZ, sA, sZ, sS]
    refine tn (i := 10) rfl (by kernel_rfl) (fun _ _ _ h => h) (by rfl) rfl (by assumption) ?_
    try simp only [Act.put, gA, gS, gZ, sA, sZ, sS]
    refine tn (i := 11) rfl (by kernel_rfl) (fun _ _ _ h => h) (by rfl) rfl (by assumption) ?_
    try simp only [Act.put, gA, gS, gZ, sA, sZ, sS]
    refine tn (i := 12) rfl (by kernel_rfl) (fun _ _ _ h => h) (by rfl) rfl (by assumption) ?_
    try simp only [Act.put, gA, gS, gZ, sA, sZ, sS]
    refine tn (i := 13) rfl (by kernel_rfl) (fun _ _ _ h => h) (by rfl) rfl (by assumption) ?_
    try simp only [Act.put, gA, gS, gZ, sA, sZ, sS]
    refine tk (i := 14) (v := ?_) rfl (by kernel_rfl) (fun _ _ _ h => h) (by rfl) ?_ (by assumption) ?_
    rotate_left
    · (intro W hSw; have hz := hSw.1.2.1.cells; have hy := hSw.2.cells; go_simp; try with_reducible rfl)
    try simp only [Act.put, gA, gS, gZ, sA, sZ, sS]
    refine wpAnyH_done (by kernel_rfl) ?_ _
    have H5 := Lib.hid hHeld
    clear hHeld
    go_wp2
    go_ret2
    exact EK.out 18 _ (by decide) (by unfold recvC; rw [HBf.out, if_neg (by decide), hcl, if_neg (by decide), HKa.out, if_neg (by decide), HBl.out, if_neg (by decide), HK2.out, if_pos (by rfl)]) H5.out.1.1
  have HI := Lib.hid (And.intro hi (And.intro hk1 hk2))
  have hi0 : (0 : Int) ≤ (i : Int) := by omega
  clear hk1 hk2 HZy
  obtain ⟨b9, off, hA, hbl, hcs⟩ := (own_rdT H4.out.2.rc H4.out.2.cok).cells (by have := H4.out.2.rc.2; have := HI.out.1; omega)
  subst hA
  have himc : (i : Int) < (mc2 : Int) := by have := H4.out.2.rc.2; have := HI.out.1; omega
  have hilt : ¬ (i : Int) < 0 := by omega
  have hsum : (s2.cm[i]'hi).2 = C := by rw [HCd.out]; unfold sumOf; rw [HI.out.2.2]; rfl
  have HSm := Lib.hid hsum
  have HCs : Hid (∀ V, QO w p b0 B s Ac mc cc Aa ma ca b0 B2 s2 (some ⟨b9, off, none⟩) mc2 cc2 Aa2 ma2 ca2 V → V.rangeAt b9 (off + i * 33 + 1) C.toList) := Lib.hid fun V hV => by
    obtain ⟨b9', off', hA', _, hcs'⟩ := (own_rdT hV.2.rc hV.2.cok).cells (by have := hV.2.rc.2; have := HI.out.1; omega)
    injection hA' with hA'
    injection hA' with h1 h2
    subst h1 h2
    rw [← HSm.out]
    exact ncl_sum (fun j hj => hcs' i hi j hj) (hV.2.cok _ (List.getElem_mem hi))
  clear hbl hcs hsum
  go_upto_region 10 with fail
  refine wp_region_held_drew (S := QO w p b0 B s Ac mc cc Aa ma ca b0 B2 s2 (some ⟨b9, off, none⟩) mc2 cc2 Aa2 ma2 ca2) (by kernel_rfl) (QO.drew H4.out) (fun hHeld => ?_)
  refine tk (i := 0) (v := ?_) rfl (by kernel_rfl) (fun _ _ _ h => h) (by rfl) ?_ (by assumption) ?_
  rotate_left
  · (intro W hSw; have hz := hSw.1.2.1.cells; have hy := hSw.2.cells; go_simp; try with_reducible rfl)
  try simp only [Act.put, gA, gZ, sA, sZ, sS]
  refine tk (i := 1) (v := ?_) rfl (by kernel_rfl) (fun _ _ _ h => h) (by rfl) ?_ (by assumption) ?_
  rotate_left
  · (intro W hSw; have hz := hSw.1.2.1.cells; have hy := hSw.2.cells; go_simp; try with_reducible rfl)
  try simp only [Act.put, gA, gS, gZ, sA, sZ, sS]
  refine tk (i := 2) (v := ?_) rfl (by kernel_rfl) (fun _ _ _ h => h) (by rfl) ?_ (by assumption) ?_
  rotate_left
  · (intro W hSw; have hz := hSw.1.2.1.cells; have hy := hSw.2.cells; go_simp; try with_reducible rfl)
  try simp only [Act.put, gA, gS, gZ, sA, sZ, sS]
  refine tk (i := 3) (v := ?_) rfl (by kernel_rfl) (fun _ _ _ h => h) (by rfl) ?_ (by assumption) ?_
  rotate_left
  · (intro W hSw; have hz := hSw.1.2.1.cells; have hy := hSw.2.cells; go_simp; try with_reducible rfl)
  try simp only [Act.put, gA, gS, gZ, sA, sZ, sS]
  refine tk (i := 4) (v := ?_) rfl (by kernel_rfl) (fun _ _ _ h => h) (by rfl) ?_ (by assumption) ?_
  rotate_left
  · (intro W hSw; have hz := hSw.1.2.1.cells; have hy := hSw.2.cells; go_simp; try with_reducible rfl)
  try simp only [Act.put, gA, gS, gZ, sA, sZ, sS]
  refine tk (i := 5) (v := ?_) rfl (by kernel_rfl) (fun _ _ _ h => h) (by rfl) ?_ (by assumption) ?_
  rotate_left
  · (intro W hSw; have hz := hSw.1.2.1.cells; have hy := hSw.2.cells; go_simp; try with_reducible rfl)
  try simp only [Act.put, gA, gS, gZ, sA, sZ, sS]
  refine tk (i := 6) (v := ?_) rfl (by kernel_rfl) (fun _ _ _ h => h) (by rfl) ?_ (by assumption) ?_
  rotate_left
  · (intro W hSw; have hz := hSw.1.2.1.cells; have hy := hSw.2.cells; go_simp; try with_reducible rfl)
  try simp only [Act.put, gA, gS, gZ, sA, sZ, sS]
  refine tk (i := 7) (v := ?_) rfl (by kernel_rfl) (fun _ _ _ h => h) (by rfl) ?_ (by assumption) ?_
  rotate_left
  · (intro W hSw; have hz := hSw.1.2.1.cells; have hy := hSw.2.cells; go_simp; try with_reducible rfl)
  try simp only [Act.put, gA, gS, gZ, sA, sZ, sS]
  refine tk (i := 8) (v := ?_) rfl (by kernel_rfl) (fun _ _ _ h => h) (by rfl) ?_ (by assumption) ?_
  rotate_left
  · (intro W hSw; have hz := hSw.1.2.1.cells; have hy := hSw.2.cells; go_simp; try with_reducible rfl)
  try simp only [Act.put, gA, gS, gZ, sA, sZ, sS]
  refine tk (i := 9) (v := ?_) rfl (by kernel_rfl) (fun _ _ _ h => h) (by rfl) ?_ (by assumption) ?_
  rotate_left
  · (intro W hSw; have hz := hSw.1.2.1.cells; have hy := hSw.2.cells; go_simp; try with_reducible rfl)
  try simp only [Act.put, gA, gS, gZ, sA, sZ, sS]
  refine tk (i := 10) (v := ?_) rfl (by kernel_rfl) (fun _ _ _ h => h) (by rfl) ?_ (by assumption) ?_
  rotate_left
  · (intro W hSw; (refine yields_mid TA3 (.tmp 52) ?_ b9 (off + i * 33 + 1) ?_ C _ (HCs.out _ hSw) Tryz.underlying57 rfl (a32 C HC.out.1)); rfl; rfl)
  try simp only [Act.put, gA, gS, gZ, sA, sZ, sS]
  refine tk (i := 11) (v := ?_) rfl (by kernel_rfl) (fun _ _ _ h => h) (by rfl) ?_ (by assumption) ?_
  rotate_left
  · (intro W hSw; have hz := hSw.1.2.1.cells; have hy := hSw.2.cells; go_simp; try with_reducible rfl)
  try simp only [Act.put, gA, gS, gZ, sA, sZ, sS]
  refine wpAnyH_ready (rs := [12]) (by kernel_rfl) (by simp) ?_
  refine AllReadyH.cons rfl (fun K hK => ?_) AllReadyH.nil
  simp only [gA, gS, gZ]
  rw [if_pos (by rfl)]
  go_simp
  (refine (HSu.out _).mono ?_; rintro e w5 ⟨rfl, hb5⟩)
  go_wp2_with fail
  refine hK.out _ _ (QO.call hHeld hb5) (fun hHeld => ?_)
  clear hK K
  try simp only [Act.put, gA, gS, gZ, sA, sZ, sS]
  have hneq := HNe.out
  refine tk (i := 13) (v := ?_) rfl (by kernel_rfl) (fun _ _ _ h => h) (by rfl) ?_ (by assumption) ?_
  rotate_left
  · (intro W hSw; have hz := hSw.1.2.1.cells; have hy := hSw.2.cells; go_simp; try with_reducible rfl)
  try simp only [Act.put, gA, gS, gZ, sA, sZ, sS]
  refine tk (i := 14) (v := ?_) rfl (by kernel_rfl) (fun _ _ _ h => h) (by rfl) ?_ (by assumption) ?_
  rotate_left
  · (intro W hSw; have hz := hSw.1.2.1.cells; have hy := hSw.2.cells; go_simp; try with_reducible rfl)
  try simp only [Act.put, gA, gS, gZ, sA, sZ, sS]
  refine wpAnyH_done (by kernel_rfl) ?_ _
  have H5 := Lib.hid hHeld
  clear hHeld hneq HCs
  clear himc hilt hi0
  cases b
  · go_wp2
    go_ret2
    exact EK.out 18 _ (by decide) (by unfold recvC; rw [HBf.out, if_neg (by decide), hcl, if_neg (by decide), HKa.out, if_neg (by decide), HBl.out, if_neg (by decide), HI.out.2.2, if_neg (by simp), if_pos (fun e => absurd (HBb.out.2 e) (by decide))]) H5.out.1.1
  have heq := HBb.out.1 rfl
  have HEq := Lib.hid heq
  clear heq
  cases hor : s.o
  · go_upto_region 12 with fail
    refine wp_region_held_drew (S := QO w p b0 B s Ac mc cc Aa ma ca b0 B2 s2 (some ⟨b9, off, none⟩) mc2 cc2 Aa2 ma2 ca2) (by kernel_rfl) (QO.drew H5.out) (fun hHeld => ?_)
    refine tk (i := 0) (v := ?_) rfl (by kernel_rfl) (fun _ _ _ h => h) (by rfl) ?_ (by assumption) ?_
    rotate_left
    · (intro W hSw; have hz := hSw.1.2.1.cells; obtain ⟨e0, e1, e2, e3, e4, e5, e6, e7, e8, hf1⟩ := hSw.1.2.2.cells; rw [hor] at e2; go_simp; try with_reducible rfl)
    try simp only [Act.put, gA, gZ, sA, sZ, sS]
    refine tk (i := 1) (v := ?_) rfl (by kernel_rfl) (fun _ _ _ h => h) (by rfl) ?_ (by assumption) ?_
    rotate_left
    · (intro W hSw; have hz := hSw.1.2.1.cells; obtain ⟨e0, e1, e2, e3, e4, e5, e6, e7, e8, hf1⟩ := hSw.1.2.2.cells; rw [hor] at e2; go_simp; try with_reducible rfl)
    try simp only [Act.put, gA, gS, gZ, sA, sZ, sS]
    refine tk (i := 2) (v := ?_) rfl (by kernel_rfl) (fun _ _ _ h => h) (by rfl) ?_ (by assumption) ?_
    rotate_left
    · (intro W hSw; have hz := hSw.1.2.1.cells; obtain ⟨e0, e1, e2, e3, e4, e5, e6, e7, e8, hf1⟩ := hSw.1.2.2.cells; rw [hor] at e2; go_simp; try with_reducible rfl)
    try simp only [Act.put, gA, gS, gZ, sA, sZ, sS]
    refine tk (i := 3) (v := ?_) rfl (by kernel_rfl) (fun _ _ _ h => h) (by rfl) ?_ (by assumption) ?_
    rotate_left
    · (intro W hSw; have hz := hSw.1.2.1.cells; obtain ⟨e0, e1, e2, e3, e4, e5, e6, e7, e8, hf1⟩ := hSw.1.2.2.cells; rw [hor] at e2; go_simp; try with_reducible rfl)
    try simp only [Act.put, gA, gS, gZ, sA, sZ, sS]
    refine tk (i := 4) (v := ?_) rfl (by kernel_rfl) (fun _ _ _ h => h) (by rfl) ?_ (by assumption) ?_
    rotate_left
    · (intro W hSw; have hz := hSw.1.2.1.cells; obtain ⟨e0, e1, e2, e3, e4, e5, e6, e7, e8, hf1⟩ := hSw.1.2.2.cells; rw [hor] at e2; go_simp; try with_reducible rfl)
    try simp only [Act.put, gA, gS, gZ, sA, sZ, sS]
    refine tn (i := 5) rfl (by kernel_rfl) (fun _ _ _ h => h) (by rfl) rfl (by assumption) ?_
    try simp only [Act.put, gA, gS, gZ, sA, sZ, sS]
    refine tn (i := 6) rfl (by kernel_rfl) (fun _ _ _ h => h) (by rfl) rfl (by assumption) ?_
    try simp only [Act.put, gA, gS, gZ, sA, sZ, sS]
    refine tn (i := 7) rfl (by kernel_rfl) (fun _ _ _ h => h) (by rfl) rfl (by assumption) ?_
    try simp only [Act.put, gA, gS, gZ, sA, sZ, sS]
    refine tn (i := 8) rfl (by kernel_rfl) (fun _ _ _ h => h) (by rfl) rfl (by assumption) ?_
    try simp only [Act.put, gA, gS, gZ, sA, sZ, sS]
    refine tn (i := 9) rfl (by kernel_rfl) (fun _ _ _ h => h) (by rfl) rfl (by assumption) ?_
    try simp only [Act.put, gA, gS, gZ, sA, sZ, sS]
    refine tn (i := 10) rfl (by kernel_rfl) (fun _ _ _ h => h) (by rfl) rfl (by assumption) ?_
    try simp only [Act.put, gA, gS, gZ, sA, sZ, sS]
    refine tn (i := 11) rfl (by kernel_rfl) (fun _ _ _ h => h) (by rfl) rfl (by assumption) ?_
    try simp only [Act.put, gA, gS, gZ, sA, sZ, sS]
    refine tk (i := 12) (v := ?_) rfl (by kernel_rfl) (fun _ _ _ h => h) (by rfl) ?_ (by assumption) ?_
    rotate_left
    · (intro W hSw; have hz := hSw.1.2.1.cells; obtain ⟨e0, e1, e2, e3, e4, e5, e6, e7, e8, hf1⟩ := hSw.1.2.2.cells; rw [hor] at e2; go_simp; try with_reducible rfl)
    try simp only [Act.put, gA, gS, gZ, sA, sZ, sS]
    refine wpAnyH_done (by kernel_rfl) ?_ _
    have H6 := Lib.hid hHeld
    clear hHeld
    have HAk := Lib.hid (Sha.rack_any p (by have := HRt.out.2.2.2; omega))
    obtain ⟨ak, hak⟩ : ∃ ak, ak = Sha.ackS p.d := ⟨_, rfl⟩
    rw [← hak] at HAk
    have hOf := rof_g ak (by rw [hak, Sha.ackS_size]; decide)
    have HAkd := Lib.hid hak
    obtain ⟨E9, hE9⟩ : ∃ E, E = ackP ak := ⟨_, rfl⟩
    rw [← hE9] at hOf
    have HEk : Hid (SumOk E9) := Lib.hid (by rw [hE9]; exact ackP_ok _)
    have HE9 := Lib.hid hE9
    have HOf := Lib.hid hOf
    clear hak hOf hE9
    obtain ⟨h0, h1, h2, h3, h4, hf0⟩ := H6.out.1.2.1.cells
    obtain ⟨e0, e1, e2, e3, e4, e5, e6, e7, e8, hf1⟩ := H6.out.1.2.2.cells
    have hor6 := e2
    rw [hor] at hor6
    go_wp2_with fail
    refine (HAk.out _).mono ?_
    rintro _ w8 ⟨rfl, b8⟩
    have H8 := Lib.hid (QO.call H6.out b8)
    clear h0 h1 h2 h3 h4 hf0 e0 e1 e2 e3 e4 e5 e6 e7 e8 hf1 b8 hor6
    obtain ⟨h0, h1, h2, h3, h4, hf0⟩ := H8.out.1.2.1.cells
    obtain ⟨e0, e1, e2, e3, e4, e5, e6, e7, e8, hf1⟩ := H8.out.1.2.2.cells
    obtain ⟨i0, hi', hz0, hz1, hz2⟩ := info_partsT infoNt
    have HInf := Lib.hid (And.intro hi' (And.intro hz0 (And.intro hz1 hz2)))
    clear hi' hz0 hz1 hz2
    go_upto_region 15 with fail
    clear h0 h1 h2 h3 h4 hf0 e0 e1 e2 e3 e4 e5 e6 e7 e8 hf1
    refine wp_region_last (S := SB B s Ac mc cc Aa ma ca w.heap.size p) 14 (by kernel_rfl) ?_
    have HD : Hid (PN b0 w8.drew B s Ac mc cc Aa ma ca ∧ PkB w8.drew w.heap.size p ∧ FP B (Value.slice Ac mc cc).ownBlock (Value.slice Aa ma ca).ownBlock w w8.drew) := Lib.hid ⟨(H8.out.1.2.2).below (Below.refl _ _).drew, H8.out.1.2.1, FP.of_below H8.out.1.1.drew⟩
    obtain ⟨w3, hw3⟩ : ∃ X, X = w8.drew := ⟨_, rfl⟩
    rw [← hw3] at HD ⊢
    clear hw3
    have hHeld := HD.out.1.sb HD.out.2.1
    refine wpL_take (i := 0) (oi := _) (v := ?_) [13, 12] rfl (by kernel_rfl) (by kernel_rfl) (by kernel_rfl) (by kernel_rfl) (by kernel_rfl) (fun _ _ _ h => h) (Or.inl ⟨by rfl, ?_⟩) (by assumption) ?_
    rotate_left
    · (intro V hSw; have hz := hSw.2.cells; have hy := hSw.cells; go_simp; try with_reducible rfl)
    try simp only [Act.put, gA, gZ, sA, sZ, sS]
    refine wpL_take (i := 1) (oi := _) (v := ?_) [11, 4, 3, 2] rfl (by kernel_rfl) (by kernel_rfl) (by kernel_rfl) (by kernel_rfl) (by kernel_rfl) (fun _ _ _ h => h) (Or.inl ⟨by rfl, ?_⟩) (by assumption) ?_
    rotate_left
    · (intro V hSw; have hz := hSw.2.cells; have hy := hSw.cells; go_simp; try with_reducible rfl)
    try simp only [Act.put, gA, gS, gZ, sA, sZ, sS]
    refine wpL_take (i := 2) (oi := _) (v := ?_) [11, 4, 3] rfl (by kernel_rfl) (by kernel_rfl) (by kernel_rfl) (by kernel_rfl) (by kernel_rfl) (fun _ _ _ h => h) (Or.inl ⟨by rfl, ?_⟩) (by assumption) ?_
    rotate_left
    · (intro V hSw; have hz := hSw.2.cells; have hy := hSw.cells; go_simp; try with_reducible rfl)
    try simp only [Act.put, gA, gS, gZ, sA, sZ, sS]
    refine wpL_take (i := 3) (oi := _) (v := ?_) [11, 4] rfl (by kernel_rfl) (by kernel_rfl) (by kernel_rfl) (by kernel_rfl) (by kernel_rfl) (fun _ _ _ h => h) (Or.inl ⟨by rfl, ?_⟩) (by assumption) ?_
    rotate_left
    · (intro V hSw; have hz := hSw.2.cells; have hy := hSw.cells; go_simp; try with_reducible rfl)
    try simp only [Act.put, gA, gS, gZ, sA, sZ, sS]
    refine wpL_take (i := 4) (oi := _) (v := ?_) [11] rfl (by kernel_rfl) (by kernel_rfl) (by kernel_rfl) (by kernel_rfl) (by kernel_rfl) (fun _ _ _ h => h) (Or.inl ⟨by rfl, ?_⟩) (by assumption) ?_
    rotate_left
    · (intro V hSw; have hz := hSw.2.cells; have hy := hSw.cells; go_simp; try with_reducible rfl)
    try simp only [Act.put, gA, gS, gZ, sA, sZ, sS]
    refine wpL_take (i := 5) (oi := _) (v := ?_) [11, 10, 9, 6] rfl (by kernel_rfl) (by kernel_rfl) (by kernel_rfl) (by kernel_rfl) (by kernel_rfl) (fun _ _ _ h => h) (Or.inl ⟨by rfl, ?_⟩) (by assumption) ?_
    rotate_left
    · (intro V hSw; have hz := hSw.2.cells; have hy := hSw.cells; go_simp; try with_reducible rfl)
    try simp only [Act.put, gA, gS, gZ, sA, sZ, sS]
    refine wpL_take (i := 6) (oi := _) (v := ?_) [11, 10, 9] rfl (by kernel_rfl) (by kernel_rfl) (by kernel_rfl) (by kernel_rfl) (by kernel_rfl) (fun _ _ _ h => h) (Or.inl ⟨by rfl, ?_⟩) (by assumption) ?_
    rotate_left
    · (intro V hSw; have hz := hSw.2.cells; have hy := hSw.cells; go_simp; try with_reducible rfl)
    try simp only [Act.put, gA, gS, gZ, sA, sZ, sS]
    refine wpL_take (i := 7) (oi := _) (v := ?_) [11, 10, 9, 8] rfl (by kernel_rfl) (by kernel_rfl) (by kernel_rfl) (by kernel_rfl) (by kernel_rfl) (fun _ _ _ h => h) (Or.inl ⟨by rfl, ?_⟩) (by assumption) ?_
    rotate_left
    · (intro V hSw; have hz := hSw.2.cells; have hy := hSw.cells; go_simp; try with_reducible rfl)
    try simp only [Act.put, gA, gS, gZ, sA, sZ, sS]
    refine wpL_ready (rs := [8]) (by kernel_rfl) (by simp) ?_
    refine AllL.cons rfl (fun K hK => ?_) AllL.nil
    simp only [gA, gS, gZ]
    rw [if_pos (by rfl)]
    go_simp
    refine (HOf.out _).mono ?_
    rintro e w4 ⟨rfl, hb4⟩
    have hs4 := hHeld.below hb4
    have H4 : Hid (PN b0 w4 B s Ac mc cc Aa ma ca ∧ FP B (Value.slice Ac mc cc).ownBlock (Value.slice Aa ma ca).ownBlock w w4) := Lib.hid ⟨HD.out.1.below hb4, HD.out.2.2.call hb4⟩
    have HW34 := Lib.hid hb4.size
    clear hb4 hHeld
    go_wp2_with fail
    refine hK.out _ _ (Or.inr hs4) ?_
    clear hK K
    try simp only [Act.put, gA, gS, gZ, sA, sZ, sS]
    have hHeld := hs4
    refine wpL_take (i := 9) (oi := _) (v := ?_) [11, 10] rfl (by kernel_rfl) (by kernel_rfl) (by kernel_rfl) (by kernel_rfl) (by kernel_rfl) (fun _ _ _ h => h) (Or.inl ⟨by rfl, ?_⟩) (by assumption) ?_
    rotate_left
    · (intro V hSw; (refine yields_bld (n := p.s) (C := E9) (.tmp 79) (.tmp 81) ?_ ?_ ?_ HEk.out); rfl; rfl; rfl)
    try simp only [Act.put, gA, gS, gZ, sA, sZ, sS]
    refine wpL_ready (rs := [10]) (by kernel_rfl) (by simp) ?_
    refine AllL.cons rfl (fun K hK => ?_) AllL.nil
    simp only [gA, gS, gZ]
    rw [if_pos (by rfl)]
    refine wp_bsl (q := (p.s, E9)) _ rfl rfl HEk.out ?_
    have hbl := (Below.refl w4.heap.size w4).alloc (Nat.le_refl _) (.cells (ncl (p.s, E9)) TNt)
    have hs5 := hHeld.below hbl
    have H5 : Hid (PN b0 (w4.alloc (.cells (ncl (p.s, E9)) TNt)) B s Ac mc cc Aa ma ca ∧ FP B (Value.slice Ac mc cc).ownBlock (Value.slice Aa ma ca).ownBlock w (w4.alloc (.cells (ncl (p.s, E9)) TNt))) := Lib.hid ⟨H4.out.1.below hbl, H4.out.2.call hbl⟩
    have HS5 := Lib.hid hs5
    clear hHeld hs4 hbl
    refine hK.out _ _ (Or.inr hs5) ?_
    clear hK K hs5
    try simp only [Act.put, sA, sZ, sS]
    have hrow := H5.out.1.ra.1
    rw [← H5.out.1.ra.2] at hrow
    have HRo := Lib.hid hrow
    have hbd : ma ≤ 1000000 := by have := H5.out.1.ra.2; have := HMa.out; omega
    have HBd := Lib.hid hbd
    have HSz := Lib.hid (Nat.le_trans HB0.out H5.out.2.size)
    clear hrow hbd
    refine wpL_ready (rs := [11]) (by kernel_rfl) (by simp) ?_
    refine AllL.cons rfl (fun K hK => ?_) AllL.nil
    simp only [gA, gS, gZ]
    rw [if_pos (by rfl)]
    refine wp_append_lies _ _ _ 52 rfl b0 TNt i0 _ 33 40 Tryz.underlying52 HInf.out.1 HInf.out.2.1 HInf.out.2.2.1 HInf.out.2.2.2 rfl (by decide) _ _ _ rfl HRo.out ⟨w4.heap.size, 0, none⟩ 1 1 (ncl (p.s, E9)).toList rfl (len_nt (p.s, E9) HEk.out) (news_nt w4 (p.s, E9) HEk.out) (ones_nt (p.s, E9) HEk.out) (by decide) (by have := HBd.out; unfold maxLen; omega) (by have := HBd.out; omega) HSz.out _ rfl ?_
    intro g cap1 w6 hown hgr hat _
    have hs6 := HS5.out.grown H5.out.1.ra hgr
    rw [H5.out.1.ra.2, ← nct_snoc] at hown
    have H6 := Lib.hid (And.intro hs6 (And.intro hown (And.intro hgr hat)))
    clear hown hgr hat
    refine hK.out _ _ (Or.inr hs6) ?_
    clear hK K
    try simp only [Act.put, sA, sZ, sS]
    have hHeld := hs6
    refine wpL_take (i := 12) (oi := _) (v := ?_) [13] rfl (by kernel_rfl) (by kernel_rfl) (by kernel_rfl) (by kernel_rfl) (by kernel_rfl) (fun _ _ _ h => h) (Or.inl ⟨by rfl, ?_⟩) (by assumption) ?_
    rotate_left
    · (intro V hSw; have hz := hSw.2.cells; have hy := hSw.cells; go_simp; try with_reducible rfl)
    try simp only [Act.put, gA, gS, gZ, sA, sZ, sS]
    refine wpL_take (i := 13) (oi := _) (v := ?_) [] rfl (by kernel_rfl) (by kernel_rfl) (by kernel_rfl) (by kernel_rfl) (by kernel_rfl) (fun _ _ _ h => h) (Or.inl ⟨by rfl, ?_⟩) (by assumption) ?_
    rotate_left
    · (intro V hSw; have hz := hSw.2.cells; have hy := hSw.cells; go_simp; try with_reducible rfl)
    try simp only [Act.put, gA, gS, gZ, sA, sZ, sS]
    clear hHeld hs6
    refine wpL_ready (rs := [14]) (by kernel_rfl) (by simp) ?_
    refine AllL.cons rfl (fun K hK => ?_) AllL.nil
    simp only [gA, gS, gZ]
    rw [if_pos (by rfl)]
    obtain ⟨e0, e1, e2, e3, e4, e5, e6, e7, e8, hf1⟩ := H6.out.1.cells
    go_simp
    refine hK.out _ _ (Or.inl rfl) ?_
    clear hK K e0 e1 e2 e3 e4 e5 e6 e7 e8 hf1
    try simp only [Act.put, gA, gS, gZ, sA, sZ, sS]
    refine wpL_done (by kernel_rfl) ?_ _
    have hnr : OwnT b0 w6 (some ⟨g, 0, none⟩) (ma + 1) cap1 (s.ac ++ [(p.s, E9)]) := ⟨by rw [List.length_append, List.length_singleton]; have := H6.out.2.1; rw [← H5.out.1.ra.2] at this ⊢; exact this, by rw [List.length_append, List.length_singleton, H5.out.1.ra.2]⟩
    have hor6 : OwnT b0 w6 Ac mc cc s.cm := own_eqT H5.out.1.rc fun k hk => H6.out.2.2.1.block k (own_ltT H5.out.1.rc k hk) fun e => H5.out.1.d k hk e.symm
    have hdd : ∀ k, (Value.slice Ac mc cc).ownBlock = some k → (Value.slice (some ⟨g, 0, none⟩) (ma + 1) cap1).ownBlock ≠ some k := fun k hk2 hk => by
      have hk : some g = some k := hk
      injection hk with hk
      subst hk
      rcases H6.out.2.2.2 with e | e
      · exact H5.out.1.d g hk2 e
      · have := own_ltT H5.out.1.rc g hk2; simp only [World.size_alloc] at this e; omega
    have hpn := H6.out.1.setA hor6 hnr H5.out.1.cok (ok_snoc H5.out.1.aok HEk.out) hdd
    have hfp := (H5.out.2.grown H6.out.2.2.1 (fun k hk => .inr (.inl hk))).set 8 (.slice (some ⟨g, 0, none⟩) (ma + 1) cap1)
    have hnw : ∀ k, (Value.slice (some ⟨g, 0, none⟩) (ma + 1) cap1).ownBlock = some k → (Value.slice Aa ma ca).ownBlock = some k ∨ w.heap.size ≤ k := fun k hk => by
      have hk : some g = some k := hk
      injection hk with hk
      subst hk
      rcases H6.out.2.2.2 with e | e
      · exact .inl e
      · refine .inr ?_
        have := H4.out.2.size
        simp only [World.size_alloc] at e
        omega
    have hpb := ((onB_setCell w6 B 8 (.slice (some ⟨g, 0, none⟩) (ma + 1) cap1)).block w.heap.size (fun e => by have h1 := H6.out.1.1; have h2 := H6.out.1.2; unfold PkB at h2; rw [e, h1] at h2; injection h2 with h2; injection h2 with _ h2; exact absurd h2 (by decide))).trans H6.out.1.2
    obtain ⟨w7, hw7⟩ : ∃ X, X = w6.setCell ⟨B, 8, none⟩ (.slice (some ⟨g, 0, none⟩) (ma + 1) cap1) := ⟨_, rfl⟩
    rw [← hw7] at hpn hfp hpb ⊢
    have H7 := Lib.hid (And.intro hpn (And.intro hfp (And.intro hnw hpb)))
    clear hw7 hnr hor6 hdd hpn hfp hnw hpb H6 H5 H4 HD HRo HBd HSz HS5
    obtain ⟨e0, e1, e2, e3, e4, e5, e6, e7, e8, hf1⟩ := H7.out.1.cells
    rw [hor] at e2
    go_wp2
    go_ret2
    obtain ⟨k1, k2⟩ := OKr.out { s with ac := s.ac ++ [(p.s, E9)] } (by unfold recvC; rw [HBf.out, if_neg (by decide), hcl, if_neg (by decide), HKa.out, if_neg (by decide), HBl.out, if_neg (by decide), HI.out.2.2, if_neg (by simp), if_neg (fun e => e HEq.out), if_neg (fun e => absurd (hor ▸ e.1) (by decide))]) (by rw [if_neg (by rw [hor]; decide)]; unfold recU; rw [ins_new _ _ _ HKa.out, HE9.out, HAkd.out])
    refine ⟨by rw [k2, ← HAkd.out, show recvC s s2 p x h = 0 by unfold recvC; rw [HBf.out, if_neg (by decide), hcl, if_neg (by decide), HKa.out, if_neg (by decide), HBl.out, if_neg (by decide), HI.out.2.2, if_neg (by simp), if_neg (fun e => e HEq.out), if_neg (fun e => absurd (hor ▸ e.1) (by decide))]] <;> rfl, Ac, mc, cc, some ⟨g, 0, none⟩, ma + 1, cap1, ?_, H7.out.2.1, fun k hk => .inl hk, H7.out.2.2.1⟩
    rw [k1]; exact H7.out.1
  by_cases hnk : p.s = s.rc
  rotate_left
  · have hnb : (p.s != s.rc) = true := by simp [hnk]
    have HNk := Lib.hid hnk
    clear hnk
    go_upto_region 12 with fail
    refine wp_region_held_drew (S := QO w p b0 B s Ac mc cc Aa ma ca b0 B2 s2 (some ⟨b9, off, none⟩) mc2 cc2 Aa2 ma2 ca2) (by kernel_rfl) (QO.drew H5.out) (fun hHeld => ?_)
    refine tk (i := 0) (v := ?_) rfl (by kernel_rfl) (fun _ _ _ h => h) (by rfl) ?_ (by assumption) ?_
    rotate_left
    · (intro W hSw; have hz := hSw.1.2.1.cells; obtain ⟨e0, e1, e2, e3, e4, e5, e6, e7, e8, hf1⟩ := hSw.1.2.2.cells; rw [hor] at e2; go_simp; try with_reducible rfl)
    try simp only [Act.put, gA, gZ, sA, sZ, sS]
    refine tk (i := 1) (v := ?_) rfl (by kernel_rfl) (fun _ _ _ h => h) (by rfl) ?_ (by assumption) ?_
    rotate_left
    · (intro W hSw; have hz := hSw.1.2.1.cells; obtain ⟨e0, e1, e2, e3, e4, e5, e6, e7, e8, hf1⟩ := hSw.1.2.2.cells; rw [hor] at e2; go_simp; try with_reducible rfl)
    try simp only [Act.put, gA, gS, gZ, sA, sZ, sS]
    refine tk (i := 2) (v := ?_) rfl (by kernel_rfl) (fun _ _ _ h => h) (by rfl) ?_ (by assumption) ?_
    rotate_left
    · (intro W hSw; have hz := hSw.1.2.1.cells; obtain ⟨e0, e1, e2, e3, e4, e5, e6, e7, e8, hf1⟩ := hSw.1.2.2.cells; rw [hor] at e2; go_simp; try with_reducible rfl)
    try simp only [Act.put, gA, gS, gZ, sA, sZ, sS]
    refine tk (i := 3) (v := ?_) rfl (by kernel_rfl) (fun _ _ _ h => h) (by rfl) ?_ (by assumption) ?_
    rotate_left
    · (intro W hSw; have hz := hSw.1.2.1.cells; obtain ⟨e0, e1, e2, e3, e4, e5, e6, e7, e8, hf1⟩ := hSw.1.2.2.cells; rw [hor] at e2; go_simp; try with_reducible rfl)
    try simp only [Act.put, gA, gS, gZ, sA, sZ, sS]
    refine tk (i := 4) (v := ?_) rfl (by kernel_rfl) (fun _ _ _ h => h) (by rfl) ?_ (by assumption) ?_
    rotate_left
    · (intro W hSw; have hz := hSw.1.2.1.cells; obtain ⟨e0, e1, e2, e3, e4, e5, e6, e7, e8, hf1⟩ := hSw.1.2.2.cells; rw [hor] at e2; go_simp; try with_reducible rfl)
    try simp only [Act.put, gA, gS, gZ, sA, sZ, sS]
    refine tk (i := 5) (v := ?_) rfl (by kernel_rfl) (fun _ _ _ h => h) (by rfl) ?_ (by assumption) ?_
    rotate_left
    · (intro W hSw; have hz := hSw.1.2.1.cells; obtain ⟨e0, e1, e2, e3, e4, e5, e6, e7, e8, hf1⟩ := hSw.1.2.2.cells; rw [hor] at e2; go_simp; try with_reducible rfl)
    try simp only [Act.put, gA, gS, gZ, sA, sZ, sS]
    refine tk (i := 6) (v := ?_) rfl (by kernel_rfl) (fun _ _ _ h => h) (by rfl) ?_ (by assumption) ?_
    rotate_left
    · (intro W hSw; have hz := hSw.1.2.1.cells; obtain ⟨e0, e1, e2, e3, e4, e5, e6, e7, e8, hf1⟩ := hSw.1.2.2.cells; rw [hor] at e2; go_simp; try with_reducible rfl)
    try simp only [Act.put, gA, gS, gZ, sA, sZ, sS]
    refine tk (i := 7) (v := ?_) rfl (by kernel_rfl) (fun _ _ _ h => h) (by rfl) ?_ (by assumption) ?_
    rotate_left
    · (intro W hSw; have hz := hSw.1.2.1.cells; obtain ⟨e0, e1, e2, e3, e4, e5, e6, e7, e8, hf1⟩ := hSw.1.2.2.cells; rw [hor] at e2; go_simp; try with_reducible rfl)
    try simp only [Act.put, gA, gS, gZ, sA, sZ, sS]
    refine tk (i := 8) (v := ?_) rfl (by kernel_rfl) (fun _ _ _ h => h) (by rfl) ?_ (by assumption) ?_
    rotate_left
    · (intro W hSw; have hz := hSw.1.2.1.cells; obtain ⟨e0, e1, e2, e3, e4, e5, e6, e7, e8, hf1⟩ := hSw.1.2.2.cells; rw [hor] at e2; go_simp; try with_reducible rfl)
    try simp only [Act.put, gA, gS, gZ, sA, sZ, sS]
    refine tk (i := 9) (v := ?_) rfl (by kernel_rfl) (fun _ _ _ h => h) (by rfl) ?_ (by assumption) ?_
    rotate_left
    · (intro W hSw; have hz := hSw.1.2.1.cells; obtain ⟨e0, e1, e2, e3, e4, e5, e6, e7, e8, hf1⟩ := hSw.1.2.2.cells; rw [hor] at e2; go_simp; try with_reducible rfl)
    try simp only [Act.put, gA, gS, gZ, sA, sZ, sS]
    refine tk (i := 10) (v := ?_) rfl (by kernel_rfl) (fun _ _ _ h => h) (by rfl) ?_ (by assumption) ?_
    rotate_left
    · (intro W hSw; have hz := hSw.1.2.1.cells; obtain ⟨e0, e1, e2, e3, e4, e5, e6, e7, e8, hf1⟩ := hSw.1.2.2.cells; rw [hor] at e2; go_simp; try with_reducible rfl)
    try simp only [Act.put, gA, gS, gZ, sA, sZ, sS]
    refine tk (i := 11) (v := ?_) rfl (by kernel_rfl) (fun _ _ _ h => h) (by rfl) ?_ (by assumption) ?_
    rotate_left
    · (intro W hSw; have hz := hSw.1.2.1.cells; obtain ⟨e0, e1, e2, e3, e4, e5, e6, e7, e8, hf1⟩ := hSw.1.2.2.cells; rw [hor] at e2; go_simp; try with_reducible rfl)
    try simp only [Act.put, gA, gS, gZ, sA, sZ, sS]
    refine tk (i := 12) (v := ?_) rfl (by kernel_rfl) (fun _ _ _ h => h) (by rfl) ?_ (by assumption) ?_
    rotate_left
    · (intro W hSw; have hz := hSw.1.2.1.cells; obtain ⟨e0, e1, e2, e3, e4, e5, e6, e7, e8, hf1⟩ := hSw.1.2.2.cells; rw [hor] at e2; go_simp; try with_reducible rfl)
    try simp only [Act.put, gA, gS, gZ, sA, sZ, sS]
    refine wpAnyH_done (by kernel_rfl) ?_ _
    have H6 := Lib.hid hHeld
    clear hHeld
    go_wp2
    go_ret2
    exact EK.out 19 _ (by decide) (by unfold recvC; rw [HBf.out, if_neg (by decide), hcl, if_neg (by decide), HKa.out, if_neg (by decide), HBl.out, if_neg (by decide), HI.out.2.2, if_neg (by simp), if_neg (fun e => e HEq.out), if_pos ⟨hor, HNk.out⟩]) H6.out.1.1
  have hnb : (p.s != s.rc) = false := by simp [hnk]
  obtain ⟨y, hy⟩ : ∃ y, y = s.rc + 1 := ⟨_, rfl⟩
  have hw : IntKind.u64.wrap (s.rc + 1) = y := by
    have h1 := HCc.out.1
    have h2 := HCc.out.2 (by rw [HI.out.2.2]; rfl)
    rw [hy]; exact IntWalk.u64_in _ ⟨by omega, by omega⟩
  have HNk := Lib.hid hnk
  have HY := Lib.hid hy
  have HW := Lib.hid hw
  clear hnk hy hw
  go_upto_region 12 with fail
  refine wp_region_held_drew (S := QO w p b0 B s Ac mc cc Aa ma ca b0 B2 s2 (some ⟨b9, off, none⟩) mc2 cc2 Aa2 ma2 ca2) (by kernel_rfl) (QO.drew H5.out) (fun hHeld => ?_)
  refine tk (i := 0) (v := ?_) rfl (by kernel_rfl) (fun _ _ _ h => h) (by rfl) ?_ (by assumption) ?_
  rotate_left
  · (intro W hSw; have hz := hSw.1.2.1.cells; obtain ⟨e0, e1, e2, e3, e4, e5, e6, e7, e8, hf1⟩ := hSw.1.2.2.cells; rw [hor] at e2; go_simp; try with_reducible rfl)
  try simp only [Act.put, gA, gZ, sA, sZ, sS]
  refine tk (i := 1) (v := ?_) rfl (by kernel_rfl) (fun _ _ _ h => h) (by rfl) ?_ (by assumption) ?_
  rotate_left
  · (intro W hSw; have hz := hSw.1.2.1.cells; obtain ⟨e0, e1, e2, e3, e4, e5, e6, e7, e8, hf1⟩ := hSw.1.2.2.cells; rw [hor] at e2; go_simp; try with_reducible rfl)
  try simp only [Act.put, gA, gS, gZ, sA, sZ, sS]
  refine tk (i := 2) (v := ?_) rfl (by kernel_rfl) (fun _ _ _ h => h) (by rfl) ?_ (by assumption) ?_
  rotate_left
  · (intro W hSw; have hz := hSw.1.2.1.cells; obtain ⟨e0, e1, e2, e3, e4, e5, e6, e7, e8, hf1⟩ := hSw.1.2.2.cells; rw [hor] at e2; go_simp; try with_reducible rfl)
  try simp only [Act.put, gA, gS, gZ, sA, sZ, sS]
  refine tk (i := 3) (v := ?_) rfl (by kernel_rfl) (fun _ _ _ h => h) (by rfl) ?_ (by assumption) ?_
  rotate_left
  · (intro W hSw; have hz := hSw.1.2.1.cells; obtain ⟨e0, e1, e2, e3, e4, e5, e6, e7, e8, hf1⟩ := hSw.1.2.2.cells; rw [hor] at e2; go_simp; try with_reducible rfl)
  try simp only [Act.put, gA, gS, gZ, sA, sZ, sS]
  refine tk (i := 4) (v := ?_) rfl (by kernel_rfl) (fun _ _ _ h => h) (by rfl) ?_ (by assumption) ?_
  rotate_left
  · (intro W hSw; have hz := hSw.1.2.1.cells; obtain ⟨e0, e1, e2, e3, e4, e5, e6, e7, e8, hf1⟩ := hSw.1.2.2.cells; rw [hor] at e2; go_simp; try with_reducible rfl)
  try simp only [Act.put, gA, gS, gZ, sA, sZ, sS]
  refine tk (i := 5) (v := ?_) rfl (by kernel_rfl) (fun _ _ _ h => h) (by rfl) ?_ (by assumption) ?_
  rotate_left
  · (intro W hSw; have hz := hSw.1.2.1.cells; obtain ⟨e0, e1, e2, e3, e4, e5, e6, e7, e8, hf1⟩ := hSw.1.2.2.cells; rw [hor] at e2; go_simp; try with_reducible rfl)
  try simp only [Act.put, gA, gS, gZ, sA, sZ, sS]
  refine tk (i := 6) (v := ?_) rfl (by kernel_rfl) (fun _ _ _ h => h) (by rfl) ?_ (by assumption) ?_
  rotate_left
  · (intro W hSw; have hz := hSw.1.2.1.cells; obtain ⟨e0, e1, e2, e3, e4, e5, e6, e7, e8, hf1⟩ := hSw.1.2.2.cells; rw [hor] at e2; go_simp; try with_reducible rfl)
  try simp only [Act.put, gA, gS, gZ, sA, sZ, sS]
  refine tk (i := 7) (v := ?_) rfl (by kernel_rfl) (fun _ _ _ h => h) (by rfl) ?_ (by assumption) ?_
  rotate_left
  · (intro W hSw; have hz := hSw.1.2.1.cells; obtain ⟨e0, e1, e2, e3, e4, e5, e6, e7, e8, hf1⟩ := hSw.1.2.2.cells; rw [hor] at e2; go_simp; try with_reducible rfl)
  try simp only [Act.put, gA, gS, gZ, sA, sZ, sS]
  refine tk (i := 8) (v := ?_) rfl (by kernel_rfl) (fun _ _ _ h => h) (by rfl) ?_ (by assumption) ?_
  rotate_left
  · (intro W hSw; have hz := hSw.1.2.1.cells; obtain ⟨e0, e1, e2, e3, e4, e5, e6, e7, e8, hf1⟩ := hSw.1.2.2.cells; rw [hor] at e2; go_simp; try with_reducible rfl)
  try simp only [Act.put, gA, gS, gZ, sA, sZ, sS]
  refine tk (i := 9) (v := ?_) rfl (by kernel_rfl) (fun _ _ _ h => h) (by rfl) ?_ (by assumption) ?_
  rotate_left
  · (intro W hSw; have hz := hSw.1.2.1.cells; obtain ⟨e0, e1, e2, e3, e4, e5, e6, e7, e8, hf1⟩ := hSw.1.2.2.cells; rw [hor] at e2; go_simp; try with_reducible rfl)
  try simp only [Act.put, gA, gS, gZ, sA, sZ, sS]
  refine tk (i := 10) (v := ?_) rfl (by kernel_rfl) (fun _ _ _ h => h) (by rfl) ?_ (by assumption) ?_
  rotate_left
  · (intro W hSw; have hz := hSw.1.2.1.cells; obtain ⟨e0, e1, e2, e3, e4, e5, e6, e7, e8, hf1⟩ := hSw.1.2.2.cells; rw [hor] at e2; go_simp; try with_reducible rfl)
  try simp only [Act.put, gA, gS, gZ, sA, sZ, sS]
  refine tk (i := 11) (v := ?_) rfl (by kernel_rfl) (fun _ _ _ h => h) (by rfl) ?_ (by assumption) ?_
  rotate_left
  · (intro W hSw; have hz := hSw.1.2.1.cells; obtain ⟨e0, e1, e2, e3, e4, e5, e6, e7, e8, hf1⟩ := hSw.1.2.2.cells; rw [hor] at e2; go_simp; try with_reducible rfl)
  try simp only [Act.put, gA, gS, gZ, sA, sZ, sS]
  refine tk (i := 12) (v := ?_) rfl (by kernel_rfl) (fun _ _ _ h => h) (by rfl) ?_ (by assumption) ?_
  rotate_left
  · (intro W hSw; have hz := hSw.1.2.1.cells; obtain ⟨e0, e1, e2, e3, e4, e5, e6, e7, e8, hf1⟩ := hSw.1.2.2.cells; rw [hor] at e2; go_simp; try with_reducible rfl)
  try simp only [Act.put, gA, gS, gZ, sA, sZ, sS]
  refine wpAnyH_done (by kernel_rfl) ?_ _
  have H6 := Lib.hid hHeld
  clear hHeld
  have HAk := Lib.hid (Sha.rack_any p (by have := HRt.out.2.2.2; omega))
  obtain ⟨ak, hak⟩ : ∃ ak, ak = Sha.ackS p.d := ⟨_, rfl⟩
  rw [← hak] at HAk
  have hOf := rof_g ak (by rw [hak, Sha.ackS_size]; decide)
  have HAkd := Lib.hid hak
  obtain ⟨E9, hE9⟩ : ∃ E, E = ackP ak := ⟨_, rfl⟩
  rw [← hE9] at hOf
  have HEk : Hid (SumOk E9) := Lib.hid (by rw [hE9]; exact ackP_ok _)
  have HE9 := Lib.hid hE9
  have HOf := Lib.hid hOf
  clear hak hOf hE9
  obtain ⟨h0, h1, h2, h3, h4, hf0⟩ := H6.out.1.2.1.cells
  obtain ⟨e0, e1, e2, e3, e4, e5, e6, e7, e8, hf1⟩ := H6.out.1.2.2.cells
  have hor6 := e2
  rw [hor] at hor6
  go_wp2_with fail
  refine (HAk.out _).mono ?_
  rintro _ w8 ⟨rfl, b8⟩
  have H8 := Lib.hid (QO.call H6.out b8)
  clear h0 h1 h2 h3 h4 hf0 e0 e1 e2 e3 e4 e5 e6 e7 e8 hf1 b8 hor6
  obtain ⟨h0, h1, h2, h3, h4, hf0⟩ := H8.out.1.2.1.cells
  obtain ⟨e0, e1, e2, e3, e4, e5, e6, e7, e8, hf1⟩ := H8.out.1.2.2.cells
  obtain ⟨i0, hi', hz0, hz1, hz2⟩ := info_partsT infoNt
  have HInf := Lib.hid (And.intro hi' (And.intro hz0 (And.intro hz1 hz2)))
  clear hi' hz0 hz1 hz2
  go_upto_region 15 with fail
  clear h0 h1 h2 h3 h4 hf0 e0 e1 e2 e3 e4 e5 e6 e7 e8 hf1
  refine wp_region_last (S := SB B s Ac mc cc Aa ma ca w.heap.size p) 14 (by kernel_rfl) ?_
  have HD : Hid (PN b0 w8.drew B s Ac mc cc Aa ma ca ∧ PkB w8.drew w.heap.size p ∧ FP B (Value.slice Ac mc cc).ownBlock (Value.slice Aa ma ca).ownBlock w w8.drew) := Lib.hid ⟨(H8.out.1.2.2).below (Below.refl _ _).drew, H8.out.1.2.1, FP.of_below H8.out.1.1.drew⟩
  obtain ⟨w3, hw3⟩ : ∃ X, X = w8.drew := ⟨_, rfl⟩
  rw [← hw3] at HD ⊢
  clear hw3
  have hHeld := HD.out.1.sb HD.out.2.1
  refine wpL_take (i := 0) (oi := _) (v := ?_) [13, 12] rfl (by kernel_rfl) (by kernel_rfl) (by kernel_rfl) (by kernel_rfl) (by kernel_rfl) (fun _ _ _ h => h) (Or.inl ⟨by rfl, ?_⟩) (by assumption) ?_
  rotate_left
  · (intro V hSw; have hz := hSw.2.cells; have hy := hSw.cells; go_simp; try with_reducible rfl)
  try simp only [Act.put, gA, gZ, sA, sZ, sS]
  refine wpL_take (i := 1) (oi := _) (v := ?_) [11, 4, 3, 2] rfl (by kernel_rfl) (by kernel_rfl) (by kernel_rfl) (by kernel_rfl) (by kernel_rfl) (fun _ _ _ h => h) (Or.inl ⟨by rfl, ?_⟩) (by assumption) ?_
  rotate_left
  · (intro V hSw; have hz := hSw.2.cells; have hy := hSw.cells; go_simp; try with_reducible rfl)
  try simp only [Act.put, gA, gS, gZ, sA, sZ, sS]
  refine wpL_take (i := 2) (oi := _) (v := ?_) [11, 4, 3] rfl (by kernel_rfl) (by kernel_rfl) (by kernel_rfl) (by kernel_rfl) (by kernel_rfl) (fun _ _ _ h => h) (Or.inl ⟨by rfl, ?_⟩) (by assumption) ?_
  rotate_left
  · (intro V hSw; have hz := hSw.2.cells; have hy := hSw.cells; go_simp; try with_reducible rfl)
  try simp only [Act.put, gA, gS, gZ, sA, sZ, sS]
  refine wpL_take (i := 3) (oi := _) (v := ?_) [11, 4] rfl (by kernel_rfl) (by kernel_rfl) (by kernel_rfl) (by kernel_rfl) (by kernel_rfl) (fun _ _ _ h => h) (Or.inl ⟨by rfl, ?_⟩) (by assumption) ?_
  rotate_left
  · (intro V hSw; have hz := hSw.2.cells; have hy := hSw.cells; go_simp; try with_reducible rfl)
  try simp only [Act.put, gA, gS, gZ, sA, sZ, sS]
  refine wpL_take (i := 4) (oi := _) (v := ?_) [11] rfl (by kernel_rfl) (by kernel_rfl) (by kernel_rfl) (by kernel_rfl) (by kernel_rfl) (fun _ _ _ h => h) (Or.inl ⟨by rfl, ?_⟩) (by assumption) ?_
  rotate_left
  · (intro V hSw; have hz := hSw.2.cells; have hy := hSw.cells; go_simp; try with_reducible rfl)
  try simp only [Act.put, gA, gS, gZ, sA, sZ, sS]
  refine wpL_take (i := 5) (oi := _) (v := ?_) [11, 10, 9, 6] rfl (by kernel_rfl) (by kernel_rfl) (by kernel_rfl) (by kernel_rfl) (by kernel_rfl) (fun _ _ _ h => h) (Or.inl ⟨by rfl, ?_⟩) (by assumption) ?_
  rotate_left
  · (intro V hSw; have hz := hSw.2.cells; have hy := hSw.cells; go_simp; try with_reducible rfl)
  try simp only [Act.put, gA, gS, gZ, sA, sZ, sS]
  refine wpL_take (i := 6) (oi := _) (v := ?_) [11, 10, 9] rfl (by kernel_rfl) (by kernel_rfl) (by kernel_rfl) (by kernel_rfl) (by kernel_rfl) (fun _ _ _ h => h) (Or.inl ⟨by rfl, ?_⟩) (by assumption) ?_
  rotate_left
  · (intro V hSw; have hz := hSw.2.cells; have hy := hSw.cells; go_simp; try with_reducible rfl)
  try simp only [Act.put, gA, gS, gZ, sA, sZ, sS]
  refine wpL_take (i := 7) (oi := _) (v := ?_) [11, 10, 9, 8] rfl (by kernel_rfl) (by kernel_rfl) (by kernel_rfl) (by kernel_rfl) (by kernel_rfl) (fun _ _ _ h => h) (Or.inl ⟨by rfl, ?_⟩) (by assumption) ?_
  rotate_left
  · (intro V hSw; have hz := hSw.2.cells; have hy := hSw.cells; go_simp; try with_reducible rfl)
  try simp only [Act.put, gA, gS, gZ, sA, sZ, sS]
  refine wpL_ready (rs := [8]) (by kernel_rfl) (by simp) ?_
  refine AllL.cons rfl (fun K hK => ?_) AllL.nil
  simp only [gA, gS, gZ]
  rw [if_pos (by rfl)]
  go_simp
  refine (HOf.out _).mono ?_
  rintro e w4 ⟨rfl, hb4⟩
  have hs4 := hHeld.below hb4
  have H4 : Hid (PN b0 w4 B s Ac mc cc Aa ma ca ∧ FP B (Value.slice Ac mc cc).ownBlock (Value.slice Aa ma ca).ownBlock w w4) := Lib.hid ⟨HD.out.1.below hb4, HD.out.2.2.call hb4⟩
  have HW34 := Lib.hid hb4.size
  clear hb4 hHeld
  go_wp2_with fail
  refine hK.out _ _ (Or.inr hs4) ?_
  clear hK K
  try simp only [Act.put, gA, gS, gZ, sA, sZ, sS]
  have hHeld := hs4
  refine wpL_take (i := 9) (oi := _) (v := ?_) [11, 10] rfl (by kernel_rfl) (by kernel_rfl) (by kernel_rfl) (by kernel_rfl) (by kernel_rfl) (fun _ _ _ h => h) (Or.inl ⟨by rfl, ?_⟩) (by assumption) ?_
  rotate_left
  · (intro V hSw; (refine yields_bld (n := p.s) (C := E9) (.tmp 79) (.tmp 81) ?_ ?_ ?_ HEk.out); rfl; rfl; rfl)
  try simp only [Act.put, gA, gS, gZ, sA, sZ, sS]
  refine wpL_ready (rs := [10]) (by kernel_rfl) (by simp) ?_
  refine AllL.cons rfl (fun K hK => ?_) AllL.nil
  simp only [gA, gS, gZ]
  rw [if_pos (by rfl)]
  refine wp_bsl (q := (p.s, E9)) _ rfl rfl HEk.out ?_
  have hbl := (Below.refl w4.heap.size w4).alloc (Nat.le_refl _) (.cells (ncl (p.s, E9)) TNt)
  have hs5 := hHeld.below hbl
  have H5 : Hid (PN b0 (w4.alloc (.cells (ncl (p.s, E9)) TNt)) B s Ac mc cc Aa ma ca ∧ FP B (Value.slice Ac mc cc).ownBlock (Value.slice Aa ma ca).ownBlock w (w4.alloc (.cells (ncl (p.s, E9)) TNt))) := Lib.hid ⟨H4.out.1.below hbl, H4.out.2.call hbl⟩
  have HS5 := Lib.hid hs5
  clear hHeld hs4 hbl
  refine hK.out _ _ (Or.inr hs5) ?_
  clear hK K hs5
  try simp only [Act.put, sA, sZ, sS]
  have hrow := H5.out.1.ra.1
  rw [← H5.out.1.ra.2] at hrow
  have HRo := Lib.hid hrow
  have hbd : ma ≤ 1000000 := by have := H5.out.1.ra.2; have := HMa.out; omega
  have HBd := Lib.hid hbd
  have HSz := Lib.hid (Nat.le_trans HB0.out H5.out.2.size)
  clear hrow hbd
  refine wpL_ready (rs := [11]) (by kernel_rfl) (by simp) ?_
  refine AllL.cons rfl (fun K hK => ?_) AllL.nil
  simp only [gA, gS, gZ]
  rw [if_pos (by rfl)]
  refine wp_append_lies _ _ _ 52 rfl b0 TNt i0 _ 33 40 Tryz.underlying52 HInf.out.1 HInf.out.2.1 HInf.out.2.2.1 HInf.out.2.2.2 rfl (by decide) _ _ _ rfl HRo.out ⟨w4.heap.size, 0, none⟩ 1 1 (ncl (p.s, E9)).toList rfl (len_nt (p.s, E9) HEk.out) (news_nt w4 (p.s, E9) HEk.out) (ones_nt (p.s, E9) HEk.out) (by decide) (by have := HBd.out; unfold maxLen; omega) (by have := HBd.out; omega) HSz.out _ rfl ?_
  intro g cap1 w6 hown hgr hat _
  have hs6 := HS5.out.grown H5.out.1.ra hgr
  rw [H5.out.1.ra.2, ← nct_snoc] at hown
  have H6 := Lib.hid (And.intro hs6 (And.intro hown (And.intro hgr hat)))
  clear hown hgr hat
  refine hK.out _ _ (Or.inr hs6) ?_
  clear hK K
  try simp only [Act.put, sA, sZ, sS]
  have hHeld := hs6
  refine wpL_take (i := 12) (oi := _) (v := ?_) [13] rfl (by kernel_rfl) (by kernel_rfl) (by kernel_rfl) (by kernel_rfl) (by kernel_rfl) (fun _ _ _ h => h) (Or.inl ⟨by rfl, ?_⟩) (by assumption) ?_
  rotate_left
  · (intro V hSw; have hz := hSw.2.cells; have hy := hSw.cells; go_simp; try with_reducible rfl)
  try simp only [Act.put, gA, gS, gZ, sA, sZ, sS]
  refine wpL_take (i := 13) (oi := _) (v := ?_) [] rfl (by kernel_rfl) (by kernel_rfl) (by kernel_rfl) (by kernel_rfl) (by kernel_rfl) (fun _ _ _ h => h) (Or.inl ⟨by rfl, ?_⟩) (by assumption) ?_
  rotate_left
  · (intro V hSw; have hz := hSw.2.cells; have hy := hSw.cells; go_simp; try with_reducible rfl)
  try simp only [Act.put, gA, gS, gZ, sA, sZ, sS]
  clear hHeld hs6
  refine wpL_ready (rs := [14]) (by kernel_rfl) (by simp) ?_
  refine AllL.cons rfl (fun K hK => ?_) AllL.nil
  simp only [gA, gS, gZ]
  rw [if_pos (by rfl)]
  obtain ⟨e0, e1, e2, e3, e4, e5, e6, e7, e8, hf1⟩ := H6.out.1.cells
  go_simp
  refine hK.out _ _ (Or.inl rfl) ?_
  clear hK K e0 e1 e2 e3 e4 e5 e6 e7 e8 hf1
  try simp only [Act.put, gA, gS, gZ, sA, sZ, sS]
  refine wpL_done (by kernel_rfl) ?_ _
  have hnr : OwnT b0 w6 (some ⟨g, 0, none⟩) (ma + 1) cap1 (s.ac ++ [(p.s, E9)]) := ⟨by rw [List.length_append, List.length_singleton]; have := H6.out.2.1; rw [← H5.out.1.ra.2] at this ⊢; exact this, by rw [List.length_append, List.length_singleton, H5.out.1.ra.2]⟩
  have hor6 : OwnT b0 w6 Ac mc cc s.cm := own_eqT H5.out.1.rc fun k hk => H6.out.2.2.1.block k (own_ltT H5.out.1.rc k hk) fun e => H5.out.1.d k hk e.symm
  have hdd : ∀ k, (Value.slice Ac mc cc).ownBlock = some k → (Value.slice (some ⟨g, 0, none⟩) (ma + 1) cap1).ownBlock ≠ some k := fun k hk2 hk => by
    have hk : some g = some k := hk
    injection hk with hk
    subst hk
    rcases H6.out.2.2.2 with e | e
    · exact H5.out.1.d g hk2 e
    · have := own_ltT H5.out.1.rc g hk2; simp only [World.size_alloc] at this e; omega
  have hpn := H6.out.1.setA hor6 hnr H5.out.1.cok (ok_snoc H5.out.1.aok HEk.out) hdd
  have hfp := (H5.out.2.grown H6.out.2.2.1 (fun k hk => .inr (.inl hk))).set 8 (.slice (some ⟨g, 0, none⟩) (ma + 1) cap1)
  have hnw : ∀ k, (Value.slice (some ⟨g, 0, none⟩) (ma + 1) cap1).ownBlock = some k → (Value.slice Aa ma ca).ownBlock = some k ∨ w.heap.size ≤ k := fun k hk => by
    have hk : some g = some k := hk
    injection hk with hk
    subst hk
    rcases H6.out.2.2.2 with e | e
    · exact .inl e
    · refine .inr ?_
      have := H4.out.2.size
      simp only [World.size_alloc] at e
      omega
  have hpb := ((onB_setCell w6 B 8 (.slice (some ⟨g, 0, none⟩) (ma + 1) cap1)).block w.heap.size (fun e => by have h1 := H6.out.1.1; have h2 := H6.out.1.2; unfold PkB at h2; rw [e, h1] at h2; injection h2 with h2; injection h2 with _ h2; exact absurd h2 (by decide))).trans H6.out.1.2
  obtain ⟨w7, hw7⟩ : ∃ X, X = w6.setCell ⟨B, 8, none⟩ (.slice (some ⟨g, 0, none⟩) (ma + 1) cap1) := ⟨_, rfl⟩
  rw [← hw7] at hpn hfp hpb ⊢
  have H7 := Lib.hid (And.intro hpn (And.intro hfp (And.intro hnw hpb)))
  clear hw7 hnr hor6 hdd hpn hfp hnw hpb H6 H5 H4 HD HRo HBd HSz HS5
  obtain ⟨e0, e1, e2, e3, e4, e5, e6, e7, e8, hf1⟩ := H7.out.1.cells
  rw [hor] at e2
  have hw := HW.out
  have hpn := H7.out.1.recd y
  have hfp := H7.out.2.1.set 5 (.int .u64 y)
  have H9 := Lib.hid (And.intro hpn hfp)
  clear hpn hfp
  go_wp2
  go_ret2
  obtain ⟨k1, k2⟩ := OKr.out { s with ac := s.ac ++ [(p.s, E9)], rc := y } (by unfold recvC; rw [HBf.out, if_neg (by decide), hcl, if_neg (by decide), HKa.out, if_neg (by decide), HBl.out, if_neg (by decide), HI.out.2.2, if_neg (by simp), if_neg (fun e => e HEq.out), if_neg (fun e => e.2 HNk.out)]) (by rw [if_pos hor]; unfold recO; rw [ins_new _ _ _ HKa.out, HY.out, HE9.out, HAkd.out])
  refine ⟨by rw [k2, ← HAkd.out, show recvC s s2 p x h = 0 by unfold recvC; rw [HBf.out, if_neg (by decide), hcl, if_neg (by decide), HKa.out, if_neg (by decide), HBl.out, if_neg (by decide), HI.out.2.2, if_neg (by simp), if_neg (fun e => e HEq.out), if_neg (fun e => e.2 HNk.out)]] <;> rfl, Ac, mc, cc, some ⟨g, 0, none⟩, ma + 1, cap1, ?_, H9.out.2, fun k hk => .inl hk, H7.out.2.2.1⟩
  rw [k1]; exact H9.out.1
end Go.Proofs.YtdljphbfbiganaaGreatDoor.Pl
