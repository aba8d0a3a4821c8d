import Derived.Test.YtdljphbfbiganaaGreatDoorTk
import Derived.Test.YtdljphbfbiganaaGreatDoorGPlNote
import Derived.Test.YtdljphbfbiganaaGreatDoorPlMine
/- The page's line: a packet is told not to have been received. -/
namespace Go.Proofs.YtdljphbfbiganaaGreatDoor.Pl
open Go Go.RowKit Packet Mg Lg Ln
set_option linter.unusedVariables false

/-- two ends, the packet's box -/
def QO (w : World) (p : P5) (b0 B : Nat) (s : St) (Ac : Option Addr) (mc cc : Nat) (Aa : Option Addr) (ma ca : Nat) (b1 B2 : Nat) (s2 : St) (Ac2 : Option Addr) (mc2 cc2 : Nat) (Aa2 : Option Addr) (ma2 ca2 : Nat) (W : World) : Prop := QL w w.heap.size p b0 B s Ac mc cc Aa ma ca W ∧ PN b1 W B2 s2 Ac2 mc2 cc2 Aa2 ma2 ca2
section
variable {w W V : World} {b0 b1 B B2 : Nat} {p : P5} {s s2 : St} {Ac Aa Ac2 Aa2 : Option Addr} {mc cc ma ca mc2 cc2 ma2 ca2 : Nat}
theorem QO.drew (h : QO w p b0 B s Ac mc cc Aa ma ca b1 B2 s2 Ac2 mc2 cc2 Aa2 ma2 ca2 W) : QO w p b0 B s Ac mc cc Aa ma ca b1 B2 s2 Ac2 mc2 cc2 Aa2 ma2 ca2 W.drew := ⟨h.1.drew, h.2.below (Below.refl _ _).drew⟩
theorem QO.call (h : QO w p b0 B s Ac mc cc Aa ma ca b1 B2 s2 Ac2 mc2 cc2 Aa2 ma2 ca2 W) (hb : Below W.heap.size W V) : QO w p b0 B s Ac mc cc Aa ma ca b1 B2 s2 Ac2 mc2 cc2 Aa2 ma2 ca2 V := ⟨h.1.call hb, h.2.below hb⟩
theorem QO.new (h : PN b0 w B s Ac mc cc Aa ma ca) (h2 : PN b1 w B2 s2 Ac2 mc2 cc2 Aa2 ma2 ca2) : QO w p b0 B s Ac mc cc Aa ma ca b1 B2 s2 Ac2 mc2 cc2 Aa2 ma2 ca2 (w.alloc (.cells #[.int .i64 p.c, .int .i64 p.f, .int .u64 p.s, .int .u64 p.t, .string p.d] TPk)) :=
  ⟨QL.new h, h2.below ((Below.refl _ _).alloc (Nat.le_refl _) _)⟩
end
set_option maxRecDepth 20000 in
set_option maxHeartbeats 4000000 in
theorem pex_err {w : World} {b0 B : Nat} {s : St} {Ac Aa : Option Addr} {mc cc ma ca : Nat} {B2 : Nat} {s2 : St} {Ac2 Aa2 : Option Addr} {mc2 cc2 ma2 ca2 : Nat} (p : P5) (h : Int) (hL : PN b0 w B s Ac mc cc Aa ma ca) (hO : PN b0 w B2 s2 Ac2 mc2 cc2 Aa2 ma2 ca2) (hb0 : b0 ≤ w.heap.size) (c : Int) (hc : (c != 0) = true) (hop : MnIs p b0 B s Ac mc cc Aa ma ca c) :
    Calls Tryz.prog 15 #[.pointer (some ⟨B, 0, none⟩), pkv p, .int .u64 h, .pointer (some ⟨B2, 0, none⟩)] w fun e w' => e = .returned (.int .i64 c) ∧ Below w.heap.size w w' := by
  have h0 : QO w p b0 B s Ac mc cc Aa ma ca b0 B2 s2 Ac2 mc2 cc2 Aa2 ma2 ca2 (w.alloc (.cells #[.int .i64 p.c, .int .i64 p.f, .int .u64 p.s, .int .u64 p.t, .string p.d] TPk)) := QO.new hL hO
  obtain ⟨V, hV⟩ : ∃ X, X = w.alloc (.cells #[.int .i64 p.c, .int .i64 p.f, .int .u64 p.s, .int .u64 p.t, .string p.d] TPk) := ⟨_, rfl⟩
  rw [← hV] at h0
  have hop1 := hop V h0.1.2.2
  have H0 := Lib.hid h0
  have HV := Lib.hid hV
  have HOp := Lib.hid hop1
  have HB0 := Lib.hid hb0
  clear h0 hV hop1 hop hL hO hb0
  obtain ⟨h0, h1, h2, h3, h4, hf0⟩ := H0.out.1.2.1.cells
  go_enter Tryz.func15, Tryz.ntmps15
  go_upto_region 1 with fail
  rw [← HV.out]
  go_wp2_with fail
  refine (HOp.out).mono ?_
  rintro _ w1 ⟨rfl, b1⟩
  have H1 := Lib.hid (QO.call H0.out b1)
  clear b1 h0 h1 h2 h3 h4 hf0
  obtain ⟨h0, h1, h2, h3, h4, hf0⟩ := H1.out.1.2.1.cells
  obtain ⟨e0, e1, e2, e3, e4, e5, e6, e7, e8, hf1⟩ := H1.out.1.2.2.cells
  go_wp2
  go_ret
  exact ⟨rfl, H1.out.1.1⟩
set_option maxRecDepth 20000 in
set_option maxHeartbeats 4000000 in
theorem pex_early {w : World} {b0 B : Nat} {s : St} {Ac Aa : Option Addr} {mc cc ma ca : Nat} {B2 : Nat} {s2 : St} {Ac2 Aa2 : Option Addr} {mc2 cc2 ma2 ca2 : Nat} (p : P5) (h : Int) (hL : PN b0 w B s Ac mc cc Aa ma ca) (hO : PN b0 w B2 s2 Ac2 mc2 cc2 Aa2 ma2 ca2) (hb0 : b0 ≤ w.heap.size) (hop : MnIs p b0 B s Ac mc cc Aa ma ca 0) (ht : 0 ≤ p.t) (hlt : lateB p h = false) :
    Calls Tryz.prog 15 #[.pointer (some ⟨B, 0, none⟩), pkv p, .int .u64 h, .pointer (some ⟨B2, 0, none⟩)] w fun e w' => e = .returned (.int .i64 21) ∧ Below w.heap.size w w' := by
  have HLt := Lib.hid (fun W => hlt ▸ plate_any p h W ht)
  clear hlt ht
  have h0 : QO w p b0 B s Ac mc cc Aa ma ca b0 B2 s2 Ac2 mc2 cc2 Aa2 ma2 ca2 (w.alloc (.cells #[.int .i64 p.c, .int .i64 p.f, .int .u64 p.s, .int .u64 p.t, .string p.d] TPk)) := QO.new hL hO
  obtain ⟨V, hV⟩ : ∃ X, X = w.alloc (.cells #[.int .i64 p.c, .int .i64 p.f, .int .u64 p.s, .int .u64 p.t, .string p.d] TPk) := ⟨_, rfl⟩
  rw [← hV] at h0
  have hop1 := hop V h0.1.2.2
  have H0 := Lib.hid h0
  have HV := Lib.hid hV
  have HOp := Lib.hid hop1
  have HB0 := Lib.hid hb0
  clear h0 hV hop1 hop hL hO hb0
  obtain ⟨h0, h1, h2, h3, h4, hf0⟩ := H0.out.1.2.1.cells
  go_enter Tryz.func15, Tryz.ntmps15
  go_upto_region 1 with fail
  rw [← HV.out]
  go_wp2_with fail
  refine (HOp.out).mono ?_
  rintro _ w1 ⟨rfl, b1⟩
  have H1 := Lib.hid (QO.call H0.out b1)
  clear b1 h0 h1 h2 h3 h4 hf0
  obtain ⟨h0, h1, h2, h3, h4, hf0⟩ := H1.out.1.2.1.cells
  obtain ⟨e0, e1, e2, e3, e4, e5, e6, e7, e8, hf1⟩ := H1.out.1.2.2.cells
  go_wp2_with fail
  refine (HLt.out _).mono ?_
  rintro _ w2 ⟨rfl, b2⟩
  have H2 := Lib.hid (QO.call H1.out b2)
  clear h0 h1 h2 h3 h4 hf0 e0 e1 e2 e3 e4 e5 e6 e7 e8 hf1 b2
  obtain ⟨h0, h1, h2, h3, h4, hf0⟩ := H2.out.1.2.1.cells
  obtain ⟨e0, e1, e2, e3, e4, e5, e6, e7, e8, hf1⟩ := H2.out.1.2.2.cells
  go_wp2
  go_ret
  exact ⟨rfl, H2.out.1.1⟩
set_option maxRecDepth 20000 in
set_option maxHeartbeats 4000000 in
theorem pex_state {w : World} {b0 B : Nat} {s : St} {Ac Aa : Option Addr} {mc cc ma ca : Nat} {B2 : Nat} {s2 : St} {Ac2 Aa2 : Option Addr} {mc2 cc2 ma2 ca2 : Nat} (p : P5) (h : Int) (hL : PN b0 w B s Ac mc cc Aa ma ca) (hO : PN b0 w B2 s2 Ac2 mc2 cc2 Aa2 ma2 ca2) (hb0 : b0 ≤ w.heap.size) (hop : MnIs p b0 B s Ac mc cc Aa ma ca 0) (ht : 0 ≤ p.t) (hlt : lateB p h = true) (hm2 : s2.ac.length ≤ 1000000) (hk2 : (Mg.lk p.s s2.ac).isSome = true) :
    Calls Tryz.prog 15 #[.pointer (some ⟨B, 0, none⟩), pkv p, .int .u64 h, .pointer (some ⟨B2, 0, none⟩)] w fun e w' => e = .returned (.int .i64 10) ∧ Below w.heap.size w w' := by
  have HLt := Lib.hid (fun W => hlt ▸ plate_any p h W ht)
  clear hlt ht
  have HM2 := Lib.hid hm2
  have HK2 := Lib.hid hk2
  clear hm2 hk2
  have h0 : QO w p b0 B s Ac mc cc Aa ma ca b0 B2 s2 Ac2 mc2 cc2 Aa2 ma2 ca2 (w.alloc (.cells #[.int .i64 p.c, .int .i64 p.f, .int .u64 p.s, .int .u64 p.t, .string p.d] TPk)) := QO.new hL hO
  obtain ⟨V, hV⟩ : ∃ X, X = w.alloc (.cells #[.int .i64 p.c, .int .i64 p.f, .int .u64 p.s, .int .u64 p.t, .string p.d] TPk) := ⟨_, rfl⟩
  rw [← hV] at h0
  have hop1 := hop V h0.1.2.2
  have H0 := Lib.hid h0
  have HV := Lib.hid hV
  have HOp := Lib.hid hop1
  have HB0 := Lib.hid hb0
  clear h0 hV hop1 hop hL hO hb0
  obtain ⟨h0, h1, h2, h3, h4, hf0⟩ := H0.out.1.2.1.cells
  go_enter Tryz.func15, Tryz.ntmps15
  go_upto_region 1 with fail
  rw [← HV.out]
  go_wp2_with fail
  refine (HOp.out).mono ?_
  rintro _ w1 ⟨rfl, b1⟩
  have H1 := Lib.hid (QO.call H0.out b1)
  clear b1 h0 h1 h2 h3 h4 hf0
  obtain ⟨h0, h1, h2, h3, h4, hf0⟩ := H1.out.1.2.1.cells
  obtain ⟨e0, e1, e2, e3, e4, e5, e6, e7, e8, hf1⟩ := H1.out.1.2.2.cells
  go_wp2_with fail
  refine (HLt.out _).mono ?_
  rintro _ w2 ⟨rfl, b2⟩
  have H2 := Lib.hid (QO.call H1.out b2)
  clear h0 h1 h2 h3 h4 hf0 e0 e1 e2 e3 e4 e5 e6 e7 e8 hf1 b2
  obtain ⟨h0, h1, h2, h3, h4, hf0⟩ := H2.out.1.2.1.cells
  obtain ⟨e0, e1, e2, e3, e4, e5, e6, e7, e8, hf1⟩ := H2.out.1.2.2.cells
  go_upto_region 6 with fail
  clear h0 h1 h2 h3 h4 hf0 e0 e1 e2 e3 e4 e5 e6 e7 e8 hf1
  refine wp_region_held_drew (S := QO w p b0 B s Ac mc cc Aa ma ca b0 B2 s2 Ac2 mc2 cc2 Aa2 ma2 ca2) (by kernel_rfl) (QO.drew H2.out) (fun hHeld => ?_)
  refine tk (i := 0) (v := ?_) rfl (by kernel_rfl) (fun _ _ _ h => h) (by rfl) ?_ (by assumption) ?_
  rotate_left
  · (intro W hSw; have hz := hSw.1.2.1.cells; have hy := hSw.2.cells; go_simp; try with_reducible rfl)
  try simp only [Act.put, gA, gZ, sA, sZ, sS]
  refine tk (i := 1) (v := ?_) rfl (by kernel_rfl) (fun _ _ _ h => h) (by rfl) ?_ (by assumption) ?_
  rotate_left
  · (intro W hSw; have hz := hSw.1.2.1.cells; have hy := hSw.2.cells; go_simp; try with_reducible rfl)
  try simp only [Act.put, gA, gS, gZ, sA, sZ, sS]
  refine tk (i := 2) (v := ?_) rfl (by kernel_rfl) (fun _ _ _ h => h) (by rfl) ?_ (by assumption) ?_
  rotate_left
  · (intro W hSw; have hz := hSw.1.2.1.cells; have hy := hSw.2.cells; go_simp; try with_reducible rfl)
  try simp only [Act.put, gA, gS, gZ, sA, sZ, sS]
  refine tk (i := 3) (v := ?_) rfl (by kernel_rfl) (fun _ _ _ h => h) (by rfl) ?_ (by assumption) ?_
  rotate_left
  · (intro W hSw; have hz := hSw.1.2.1.cells; have hy := hSw.2.cells; go_simp; try with_reducible rfl)
  try simp only [Act.put, gA, gS, gZ, sA, sZ, sS]
  refine tk (i := 4) (v := ?_) rfl (by kernel_rfl) (fun _ _ _ h => h) (by rfl) ?_ (by assumption) ?_
  rotate_left
  · (intro W hSw; have hz := hSw.1.2.1.cells; have hy := hSw.2.cells; go_simp; try with_reducible rfl)
  try simp only [Act.put, gA, gS, gZ, sA, sZ, sS]
  refine tk (i := 5) (v := ?_) rfl (by kernel_rfl) (fun _ _ _ h => h) (by rfl) ?_ (by assumption) ?_
  rotate_left
  · (intro W hSw; have hz := hSw.1.2.1.cells; have hy := hSw.2.cells; go_simp; try with_reducible rfl)
  try simp only [Act.put, gA, gS, gZ, sA, sZ, sS]
  refine wpAnyH_ready (rs := [6]) (by kernel_rfl) (by simp) ?_
  refine AllReadyH.cons rfl (fun K hK => ?_) AllReadyH.nil
  simp only [gA, gS, gZ]
  rw [if_pos (by rfl)]
  go_simp
  refine (find_any Aa2 ma2 ca2 s2.ac p.s _ (own_rdT hHeld.2.ra hHeld.2.aok) (by have := hHeld.2.ra.2; have := HM2.out; omega)).mono ?_
  rintro e w2 ⟨⟨z, rfl, hz⟩, hw⟩
  obtain rfl := hw.symm
  clear hw
  rcases hz with ⟨i, hi, rfl, hk1, hk2, -⟩ | ⟨rfl, hk2⟩
  rotate_left
  · exact absurd (HK2.out) (by rw [hk2]; simp)
  have HI := Lib.hid (And.intro hi (And.intro hk1 hk2))
  have hi0 : (0 : Int) ≤ (i : Int) := by omega
  clear hk1 hk2
  go_wp2_with fail
  refine hK.out _ _ hHeld (fun hHeld => ?_)
  clear hK K
  try simp only [Act.put, gA, gS, gZ, sA, sZ, sS]
  refine tk (i := 7) (v := ?_) rfl (by kernel_rfl) (fun _ _ _ h => h) (by rfl) ?_ (by assumption) ?_
  rotate_left
  · (intro W hSw; have hz := hSw.1.2.1.cells; have hy := hSw.2.cells; go_simp; try with_reducible rfl)
  try simp only [Act.put, gA, gS, gZ, sA, sZ, sS]
  refine wpAnyH_done (by kernel_rfl) ?_ _
  have H3 := Lib.hid hHeld
  clear hHeld
  go_wp2
  go_ret
  exact ⟨rfl, H3.out.1.1⟩
set_option maxRecDepth 20000 in
set_option maxHeartbeats 4000000 in
theorem pex_oku {w : World} {b0 B : Nat} {s : St} {Ac Aa : Option Addr} {mc cc ma ca : Nat} {B2 : Nat} {s2 : St} {Ac2 Aa2 : Option Addr} {mc2 cc2 ma2 ca2 : Nat} (p : P5) (h : Int) (hL : PN b0 w B s Ac mc cc Aa ma ca) (hO : PN b0 w B2 s2 Ac2 mc2 cc2 Aa2 ma2 ca2) (hb0 : b0 ≤ w.heap.size) (hop : MnIs p b0 B s Ac mc cc Aa ma ca 0) (ht : 0 ≤ p.t) (hlt : lateB p h = true) (hm : s.cm.length ≤ 1000000) (hk : (Mg.lk p.s s.cm).isSome = true) (hm2 : s2.ac.length ≤ 1000000) (hk2 : (Mg.lk p.s s2.ac).isSome = false) (hcl : s.cl = false) (hor : s.o = false) :
    Calls Tryz.prog 15 #[.pointer (some ⟨B, 0, none⟩), pkv p, .int .u64 h, .pointer (some ⟨B2, 0, none⟩)] w fun e w' => e = .returned (.int .i64 0) ∧ PX b0 B (Value.slice Ac mc cc).ownBlock (Value.slice Aa ma ca).ownBlock w (expS p s) w' := by
  have HLt := Lib.hid (fun W => hlt ▸ plate_any p h W ht)
  clear hlt ht
  have HM2 := Lib.hid hm2
  have HK2 := Lib.hid hk2
  have HM := Lib.hid hm
  have HK := Lib.hid hk
  have HOr := Lib.hid (And.intro hcl hor)
  clear hm2 hk2 hm hk hcl hor
  have h0 : QO w p b0 B s Ac mc cc Aa ma ca b0 B2 s2 Ac2 mc2 cc2 Aa2 ma2 ca2 (w.alloc (.cells #[.int .i64 p.c, .int .i64 p.f, .int .u64 p.s, .int .u64 p.t, .string p.d] TPk)) := QO.new hL hO
  obtain ⟨V, hV⟩ : ∃ X, X = w.alloc (.cells #[.int .i64 p.c, .int .i64 p.f, .int .u64 p.s, .int .u64 p.t, .string p.d] TPk) := ⟨_, rfl⟩
  rw [← hV] at h0
  have hop1 := hop V h0.1.2.2
  have H0 := Lib.hid h0
  have HV := Lib.hid hV
  have HOp := Lib.hid hop1
  have HB0 := Lib.hid hb0
  clear h0 hV hop1 hop hL hO hb0
  obtain ⟨h0, h1, h2, h3, h4, hf0⟩ := H0.out.1.2.1.cells
  go_enter Tryz.func15, Tryz.ntmps15
  go_upto_region 1 with fail
  rw [← HV.out]
  go_wp2_with fail
  refine (HOp.out).mono ?_
  rintro _ w1 ⟨rfl, b1⟩
  have H1 := Lib.hid (QO.call H0.out b1)
  clear b1 h0 h1 h2 h3 h4 hf0
  obtain ⟨h0, h1, h2, h3, h4, hf0⟩ := H1.out.1.2.1.cells
  obtain ⟨e0, e1, e2, e3, e4, e5, e6, e7, e8, hf1⟩ := H1.out.1.2.2.cells
  go_wp2_with fail
  refine (HLt.out _).mono ?_
  rintro _ w2 ⟨rfl, b2⟩
  have H2 := Lib.hid (QO.call H1.out b2)
  clear h0 h1 h2 h3 h4 hf0 e0 e1 e2 e3 e4 e5 e6 e7 e8 hf1 b2
  obtain ⟨h0, h1, h2, h3, h4, hf0⟩ := H2.out.1.2.1.cells
  obtain ⟨e0, e1, e2, e3, e4, e5, e6, e7, e8, hf1⟩ := H2.out.1.2.2.cells
  go_upto_region 6 with fail
  clear h0 h1 h2 h3 h4 hf0 e0 e1 e2 e3 e4 e5 e6 e7 e8 hf1
  refine wp_region_held_drew (S := QO w p b0 B s Ac mc cc Aa ma ca b0 B2 s2 Ac2 mc2 cc2 Aa2 ma2 ca2) (by kernel_rfl) (QO.drew H2.out) (fun hHeld => ?_)
  refine tk (i := 0) (v := ?_) rfl (by kernel_rfl) (fun _ _ _ h => h) (by rfl) ?_ (by assumption) ?_
  rotate_left
  · (intro W hSw; have hz := hSw.1.2.1.cells; have hy := hSw.2.cells; go_simp; try with_reducible rfl)
  try simp only [Act.put, gA, gZ, sA, sZ, sS]
  refine tk (i := 1) (v := ?_) rfl (by kernel_rfl) (fun _ _ _ h => h) (by rfl) ?_ (by assumption) ?_
  rotate_left
  · (intro W hSw; have hz := hSw.1.2.1.cells; have hy := hSw.2.cells; go_simp; try with_reducible rfl)
  try simp only [Act.put, gA, gS, gZ, sA, sZ, sS]
  refine tk (i := 2) (v := ?_) rfl (by kernel_rfl) (fun _ _ _ h => h) (by rfl) ?_ (by assumption) ?_
  rotate_left
  · (intro W hSw; have hz := hSw.1.2.1.cells; have hy := hSw.2.cells; go_simp; try with_reducible rfl)
  try simp only [Act.put, gA, gS, gZ, sA, sZ, sS]
  refine tk (i := 3) (v := ?_) rfl (by kernel_rfl) (fun _ _ _ h => h) (by rfl) ?_ (by assumption) ?_
  rotate_left
  · (intro W hSw; have hz := hSw.1.2.1.cells; have hy := hSw.2.cells; go_simp; try with_reducible rfl)
  try simp only [Act.put, gA, gS, gZ, sA, sZ, sS]
  refine tk (i := 4) (v := ?_) rfl (by kernel_rfl) (fun _ _ _ h => h) (by rfl) ?_ (by assumption) ?_
  rotate_left
  · (intro W hSw; have hz := hSw.1.2.1.cells; have hy := hSw.2.cells; go_simp; try with_reducible rfl)
  try simp only [Act.put, gA, gS, gZ, sA, sZ, sS]
  refine tk (i := 5) (v := ?_) rfl (by kernel_rfl) (fun _ _ _ h => h) (by rfl) ?_ (by assumption) ?_
  rotate_left
  · (intro W hSw; have hz := hSw.1.2.1.cells; have hy := hSw.2.cells; go_simp; try with_reducible rfl)
  try simp only [Act.put, gA, gS, gZ, sA, sZ, sS]
  refine wpAnyH_ready (rs := [6]) (by kernel_rfl) (by simp) ?_
  refine AllReadyH.cons rfl (fun K hK => ?_) AllReadyH.nil
  simp only [gA, gS, gZ]
  rw [if_pos (by rfl)]
  go_simp
  refine (find_any Aa2 ma2 ca2 s2.ac p.s _ (own_rdT hHeld.2.ra hHeld.2.aok) (by have := hHeld.2.ra.2; have := HM2.out; omega)).mono ?_
  rintro e w2 ⟨⟨z, rfl, hz⟩, hw⟩
  obtain rfl := hw.symm
  clear hw
  rcases hz with ⟨i, hi, rfl, hk1, hk2, -⟩ | ⟨rfl, hk2⟩
  · exact absurd (HK2.out) (by rw [hk2]; simp)
  clear hk2
  go_wp2_with fail
  refine hK.out _ _ hHeld (fun hHeld => ?_)
  clear hK K
  try simp only [Act.put, gA, gS, gZ, sA, sZ, sS]
  refine tk (i := 7) (v := ?_) rfl (by kernel_rfl) (fun _ _ _ h => h) (by rfl) ?_ (by assumption) ?_
  rotate_left
  · (intro W hSw; have hz := hSw.1.2.1.cells; have hy := hSw.2.cells; go_simp; try with_reducible rfl)
  try simp only [Act.put, gA, gS, gZ, sA, sZ, sS]
  refine wpAnyH_done (by kernel_rfl) ?_ _
  have H3 := Lib.hid hHeld
  clear hHeld
  go_upto_region 8 with fail
  refine wp_region_last (S := SB B s Ac mc cc Aa ma ca w.heap.size p) 15 (by kernel_rfl) ?_
  have HD : Hid (PN b0 w2.drew.drew B s Ac mc cc Aa ma ca ∧ PkB w2.drew.drew w.heap.size p ∧ FP B (Value.slice Ac mc cc).ownBlock (Value.slice Aa ma ca).ownBlock w w2.drew.drew) := Lib.hid ⟨H3.out.1.2.2.below (Below.refl _ _).drew, H3.out.1.2.1, FP.of_below H3.out.1.1.drew⟩
  obtain ⟨w3, hw3⟩ : ∃ X, X = w2.drew.drew := ⟨_, rfl⟩
  rw [← hw3] at HD ⊢
  clear hw3
  have hHeld := HD.out.1.sb HD.out.2.1
  refine wpL_take (i := 0) (oi := _) (v := ?_) [14, 13] rfl (by kernel_rfl) (by kernel_rfl) (by kernel_rfl) (by kernel_rfl) (by kernel_rfl) (fun _ _ _ h => h) (Or.inl ⟨by rfl, ?_⟩) (by assumption) ?_
  rotate_left
  · (intro V hSw; have hz := hSw.2.cells; have hy := hSw.cells; go_simp; try with_reducible rfl)
  try simp only [Act.put, gA, gZ, sA, sZ, sS]
  refine wpL_take (i := 1) (oi := _) (v := ?_) [12, 4, 3, 2] rfl (by kernel_rfl) (by kernel_rfl) (by kernel_rfl) (by kernel_rfl) (by kernel_rfl) (fun _ _ _ h => h) (Or.inl ⟨by rfl, ?_⟩) (by assumption) ?_
  rotate_left
  · (intro V hSw; have hz := hSw.2.cells; have hy := hSw.cells; go_simp; try with_reducible rfl)
  try simp only [Act.put, gA, gS, gZ, sA, sZ, sS]
  refine wpL_take (i := 2) (oi := _) (v := ?_) [12, 4, 3] rfl (by kernel_rfl) (by kernel_rfl) (by kernel_rfl) (by kernel_rfl) (by kernel_rfl) (fun _ _ _ h => h) (Or.inl ⟨by rfl, ?_⟩) (by assumption) ?_
  rotate_left
  · (intro V hSw; have hz := hSw.2.cells; have hy := hSw.cells; go_simp; try with_reducible rfl)
  try simp only [Act.put, gA, gS, gZ, sA, sZ, sS]
  refine wpL_take (i := 3) (oi := _) (v := ?_) [12, 4] rfl (by kernel_rfl) (by kernel_rfl) (by kernel_rfl) (by kernel_rfl) (by kernel_rfl) (fun _ _ _ h => h) (Or.inl ⟨by rfl, ?_⟩) (by assumption) ?_
  rotate_left
  · (intro V hSw; have hz := hSw.2.cells; have hy := hSw.cells; go_simp; try with_reducible rfl)
  try simp only [Act.put, gA, gS, gZ, sA, sZ, sS]
  refine wpL_take (i := 4) (oi := _) (v := ?_) [12] rfl (by kernel_rfl) (by kernel_rfl) (by kernel_rfl) (by kernel_rfl) (by kernel_rfl) (fun _ _ _ h => h) (Or.inl ⟨by rfl, ?_⟩) (by assumption) ?_
  rotate_left
  · (intro V hSw; have hz := hSw.2.cells; have hy := hSw.cells; go_simp; try with_reducible rfl)
  try simp only [Act.put, gA, gS, gZ, sA, sZ, sS]
  refine wpL_take (i := 5) (oi := _) (v := ?_) [12, 11, 8, 7, 6] rfl (by kernel_rfl) (by kernel_rfl) (by kernel_rfl) (by kernel_rfl) (by kernel_rfl) (fun _ _ _ h => h) (Or.inl ⟨by rfl, ?_⟩) (by assumption) ?_
  rotate_left
  · (intro V hSw; have hz := hSw.2.cells; have hy := hSw.cells; go_simp; try with_reducible rfl)
  try simp only [Act.put, gA, gS, gZ, sA, sZ, sS]
  refine wpL_take (i := 6) (oi := _) (v := ?_) [12, 11, 8, 7] rfl (by kernel_rfl) (by kernel_rfl) (by kernel_rfl) (by kernel_rfl) (by kernel_rfl) (fun _ _ _ h => h) (Or.inl ⟨by rfl, ?_⟩) (by assumption) ?_
  rotate_left
  · (intro V hSw; have hz := hSw.2.cells; have hy := hSw.cells; go_simp; try with_reducible rfl)
  try simp only [Act.put, gA, gS, gZ, sA, sZ, sS]
  refine wpL_take (i := 7) (oi := _) (v := ?_) [12, 11, 8] rfl (by kernel_rfl) (by kernel_rfl) (by kernel_rfl) (by kernel_rfl) (by kernel_rfl) (fun _ _ _ h => h) (Or.inl ⟨by rfl, ?_⟩) (by assumption) ?_
  rotate_left
  · (intro V hSw; have hz := hSw.2.cells; have hy := hSw.cells; go_simp; try with_reducible rfl)
  try simp only [Act.put, gA, gS, gZ, sA, sZ, sS]
  refine wpL_take (i := 8) (oi := _) (v := ?_) [12, 11] rfl (by kernel_rfl) (by kernel_rfl) (by kernel_rfl) (by kernel_rfl) (by kernel_rfl) (fun _ _ _ h => h) (Or.inl ⟨by rfl, ?_⟩) (by assumption) ?_
  rotate_left
  · (intro V hSw; have hz := hSw.2.cells; have hy := hSw.cells; go_simp; try with_reducible rfl)
  try simp only [Act.put, gA, gS, gZ, sA, sZ, sS]
  refine wpL_take (i := 9) (oi := _) (v := ?_) [12, 11, 10] rfl (by kernel_rfl) (by kernel_rfl) (by kernel_rfl) (by kernel_rfl) (by kernel_rfl) (fun _ _ _ h => h) (Or.inl ⟨by rfl, ?_⟩) (by assumption) ?_
  rotate_left
  · (intro V hSw; have hz := hSw.2.cells; have hy := hSw.cells; go_simp; try with_reducible rfl)
  try simp only [Act.put, gA, gS, gZ, sA, sZ, sS]
  refine wpL_take (i := 10) (oi := _) (v := ?_) [12, 11] rfl (by kernel_rfl) (by kernel_rfl) (by kernel_rfl) (by kernel_rfl) (by kernel_rfl) (fun _ _ _ h => h) (Or.inl ⟨by rfl, ?_⟩) (by assumption) ?_
  rotate_left
  · (intro V hSw; have hz := hSw.2.cells; have hy := hSw.cells; go_simp; try with_reducible rfl)
  try simp only [Act.put, gA, gS, gZ, sA, sZ, sS]
  refine wpL_ready (rs := [11]) (by kernel_rfl) (by simp) ?_
  refine AllL.cons rfl (fun K hK => ?_) AllL.nil
  simp only [gA, gS, gZ]
  rw [if_pos (by rfl)]
  go_simp
  refine (find_any Ac mc cc s.cm p.s _ (own_rdT HD.out.1.rc HD.out.1.cok) (by have := HD.out.1.rc.2; have := HM.out; omega)).mono ?_
  rintro e w4 ⟨⟨z, rfl, hz⟩, hw⟩
  obtain rfl := hw.symm
  clear hw
  rcases hz with ⟨i, hi, rfl, hk1, -, hk2⟩ | ⟨rfl, hk2⟩
  rotate_left
  · exact absurd HK.out (by rw [hk2]; simp)
  have hdel := del_erase s.cm p.s i hi hk1 hk2
  have HDl := Lib.hid (And.intro hi hdel)
  clear hk1 hk2 hdel hi
  go_wp2_with fail
  refine hK.out _ _ (Or.inr hHeld) ?_
  clear hK K
  try simp only [Act.put, gA, gS, gZ, sA, sZ, sS]
  refine wpL_ready (rs := [12]) (by kernel_rfl) (by simp) ?_
  refine AllL.cons rfl (fun K hK => ?_) AllL.nil
  simp only [gA, gS, gZ]
  rw [if_pos (by rfl)]
  go_simp
  refine (wo_any Ac mc cc s.cm i _ (own_rdT HD.out.1.rc HD.out.1.cok) (by have := HD.out.1.rc.2; have := HM.out; omega) (by have := HD.out.1.rc.2; have := HDl.out.1; omega)).mono ?_
  rintro e w4 ⟨A', m', c', rfl, ho, hb4⟩
  have hs4 := hHeld.below hb4
  have H4 : Hid (SB B s Ac mc cc Aa ma ca w.heap.size p w4 ∧ OwnT w3.heap.size w4 A' m' c' (del p.s s.cm) ∧ PN b0 w4 B s Ac mc cc Aa ma ca ∧ FP B (Value.slice Ac mc cc).ownBlock (Value.slice Aa ma ca).ownBlock w w4) := Lib.hid ⟨hs4, by rw [← HDl.out.2]; exact ho, HD.out.1.below hb4, HD.out.2.2.call hb4⟩
  clear ho hb4 hHeld
  go_wp2_with fail
  refine hK.out _ _ (Or.inr hs4) ?_
  clear hK K hs4
  try simp only [Act.put, gA, gS, gZ, sA, sZ, sS]
  have hHeld := H4.out.1
  refine wpL_take (i := 13) (oi := _) (v := ?_) [14] rfl (by kernel_rfl) (by kernel_rfl) (by kernel_rfl) (by kernel_rfl) (by kernel_rfl) (fun _ _ _ h => h) (Or.inl ⟨by rfl, ?_⟩) (by assumption) ?_
  rotate_left
  · (intro V hSw; have hz := hSw.2.cells; have hy := hSw.cells; go_simp; try with_reducible rfl)
  try simp only [Act.put, gA, gS, gZ, sA, sZ, sS]
  refine wpL_take (i := 14) (oi := _) (v := ?_) [] rfl (by kernel_rfl) (by kernel_rfl) (by kernel_rfl) (by kernel_rfl) (by kernel_rfl) (fun _ _ _ h => h) (Or.inl ⟨by rfl, ?_⟩) (by assumption) ?_
  rotate_left
  · (intro V hSw; have hz := hSw.2.cells; have hy := hSw.cells; go_simp; try with_reducible rfl)
  try simp only [Act.put, gA, gS, gZ, sA, sZ, sS]
  clear hHeld
  refine wpL_ready (rs := [15]) (by kernel_rfl) (by simp) ?_
  refine AllL.cons rfl (fun K hK => ?_) AllL.nil
  simp only [gA, gS, gZ]
  rw [if_pos (by rfl)]
  obtain ⟨e0, e1, e2, e3, e4, e5, e6, e7, e8, hf1⟩ := H4.out.1.cells
  go_simp
  refine hK.out _ _ (Or.inl rfl) ?_
  clear hK K e0 e1 e2 e3 e4 e5 e6 e7 e8 hf1
  try simp only [Act.put, gA, gS, gZ, sA, sZ, sS]
  refine wpL_done (by kernel_rfl) ?_ _
  have hnew : ∀ k, (Value.slice A' m' c').ownBlock = some k → w3.heap.size ≤ k := own_geT H4.out.2.1
  have hws : w.heap.size ≤ w3.heap.size := HD.out.2.2.size
  have hpn := H4.out.1.setC (own_baseT H4.out.2.1 (Nat.le_trans HB0.out hws)) H4.out.2.2.1.ra (by rw [← HDl.out.2]; exact ok_erase H4.out.2.2.1.cok) H4.out.2.2.1.aok (fun k hk hk2 => by have := hnew k hk; have := own_ltT HD.out.1.ra k hk2; omega)
  have hfp := H4.out.2.2.2.set 7 (.slice A' m' c')
  obtain ⟨w5, hw5⟩ : ∃ X, X = w4.setCell ⟨B, 7, none⟩ (.slice A' m' c') := ⟨_, rfl⟩
  rw [← hw5] at hpn hfp ⊢
  have H5 := Lib.hid (And.intro hpn (And.intro hfp (fun k (hk : (Value.slice A' m' c').ownBlock = some k) => Nat.le_trans hws (hnew k hk))))
  clear hw5 hnew hws hpn hfp H4 HDl HD
  have hor := HOr.out.2
  obtain ⟨e0, e1, e2, e3, e4, e5, e6, e7, e8, hf1⟩ := H5.out.1.cells
  rw [hor] at e2
  clear hor
  go_wp2
  go_ret
  exact ⟨rfl, A', m', c', Aa, ma, ca, by have h1 := H5.out.1; have h2 : expS p s = { s with cm := del p.s s.cm } := (by have h3 := HOr.out.1; have h4 := HOr.out.2; obtain ⟨x1, x2, x3, x4, x5, x6, x7, x8, x9⟩ := s; simp only at h3 h4; subst h3 h4; rfl); rw [h2]; exact h1, H5.out.2.1, fun k hk => .inr (H5.out.2.2 k hk), fun k hk => .inl hk⟩
set_option maxRecDepth 20000 in
set_option maxHeartbeats 4000000 in
theorem pex_oko {w : World} {b0 B : Nat} {s : St} {Ac Aa : Option Addr} {mc cc ma ca : Nat} {B2 : Nat} {s2 : St} {Ac2 Aa2 : Option Addr} {mc2 cc2 ma2 ca2 : Nat} (p : P5) (h : Int) (hL : PN b0 w B s Ac mc cc Aa ma ca) (hO : PN b0 w B2 s2 Ac2 mc2 cc2 Aa2 ma2 ca2) (hb0 : b0 ≤ w.heap.size) (hop : MnIs p b0 B s Ac mc cc Aa ma ca 0) (ht : 0 ≤ p.t) (hlt : lateB p h = true) (hm : s.cm.length ≤ 1000000) (hk : (Mg.lk p.s s.cm).isSome = true) (hm2 : s2.ac.length ≤ 1000000) (hk2 : (Mg.lk p.s s2.ac).isSome = false) (hcl : s.cl = false) (hor : s.o = true) :
    Calls Tryz.prog 15 #[.pointer (some ⟨B, 0, none⟩), pkv p, .int .u64 h, .pointer (some ⟨B2, 0, none⟩)] w fun e w' => e = .returned (.int .i64 0) ∧ PX b0 B (Value.slice Ac mc cc).ownBlock (Value.slice Aa ma ca).ownBlock w (expS p s) w' := by
  have HLt := Lib.hid (fun W => hlt ▸ plate_any p h W ht)
  clear hlt ht
  have HM2 := Lib.hid hm2
  have HK2 := Lib.hid hk2
  have HM := Lib.hid hm
  have HK := Lib.hid hk
  have HOr := Lib.hid (And.intro hcl hor)
  clear hm2 hk2 hm hk hcl hor
  have h0 : QO w p b0 B s Ac mc cc Aa ma ca b0 B2 s2 Ac2 mc2 cc2 Aa2 ma2 ca2 (w.alloc (.cells #[.int .i64 p.c, .int .i64 p.f, .int .u64 p.s, .int .u64 p.t, .string p.d] TPk)) := QO.new hL hO
  obtain ⟨V, hV⟩ : ∃ X, X = w.alloc (.cells #[.int .i64 p.c, .int .i64 p.f, .int .u64 p.s, .int .u64 p.t, .string p.d] TPk) := ⟨_, rfl⟩
  rw [← hV] at h0
  have hop1 := hop V h0.1.2.2
  have H0 := Lib.hid h0
  have HV := Lib.hid hV
  have HOp := Lib.hid hop1
  have HB0 := Lib.hid hb0
  clear h0 hV hop1 hop hL hO hb0
  obtain ⟨h0, h1, h2, h3, h4, hf0⟩ := H0.out.1.2.1.cells
  go_enter Tryz.func15, Tryz.ntmps15
  go_upto_region 1 with fail
  rw [← HV.out]
  go_wp2_with fail
  refine (HOp.out).mono ?_
  rintro _ w1 ⟨rfl, b1⟩
  have H1 := Lib.hid (QO.call H0.out b1)
  clear b1 h0 h1 h2 h3 h4 hf0
  obtain ⟨h0, h1, h2, h3, h4, hf0⟩ := H1.out.1.2.1.cells
  obtain ⟨e0, e1, e2, e3, e4, e5, e6, e7, e8, hf1⟩ := H1.out.1.2.2.cells
  go_wp2_with fail
  refine (HLt.out _).mono ?_
  rintro _ w2 ⟨rfl, b2⟩
  have H2 := Lib.hid (QO.call H1.out b2)
  clear h0 h1 h2 h3 h4 hf0 e0 e1 e2 e3 e4 e5 e6 e7 e8 hf1 b2
  obtain ⟨h0, h1, h2, h3, h4, hf0⟩ := H2.out.1.2.1.cells
  obtain ⟨e0, e1, e2, e3, e4, e5, e6, e7, e8, hf1⟩ := H2.out.1.2.2.cells
  go_upto_region 6 with fail
  clear h0 h1 h2 h3 h4 hf0 e0 e1 e2 e3 e4 e5 e6 e7 e8 hf1
  refine wp_region_held_drew (S := QO w p b0 B s Ac mc cc Aa ma ca b0 B2 s2 Ac2 mc2 cc2 Aa2 ma2 ca2) (by kernel_rfl) (QO.drew H2.out) (fun hHeld => ?_)
  refine tk (i := 0) (v := ?_) rfl (by kernel_rfl) (fun _ _ _ h => h) (by rfl) ?_ (by assumption) ?_
  rotate_left
  · (intro W hSw; have hz := hSw.1.2.1.cells; have hy := hSw.2.cells; go_simp; try with_reducible rfl)
  try simp only [Act.put, gA, gZ, sA, sZ, sS]
  refine tk (i := 1) (v := ?_) rfl (by kernel_rfl) (fun _ _ _ h => h) (by rfl) ?_ (by assumption) ?_
  rotate_left
  · (intro W hSw; have hz := hSw.1.2.1.cells; have hy := hSw.2.cells; go_simp; try with_reducible rfl)
  try simp only [Act.put, gA, gS, gZ, sA, sZ, sS]
  refine tk (i := 2) (v := ?_) rfl (by kernel_rfl) (fun _ _ _ h => h) (by rfl) ?_ (by assumption) ?_
  rotate_left
  · (intro W hSw; have hz := hSw.1.2.1.cells; have hy := hSw.2.cells; go_simp; try with_reducible rfl)
  try simp only [Act.put, gA, gS, gZ, sA, sZ, sS]
  refine tk (i := 3) (v := ?_) rfl (by kernel_rfl) (fun _ _ _ h => h) (by rfl) ?_ (by assumption) ?_
  rotate_left
  · (intro W hSw; have hz := hSw.1.2.1.cells; have hy := hSw.2.cells; go_simp; try with_reducible rfl)
  try simp only [Act.put, gA, gS, gZ, sA, sZ, sS]
  refine tk (i := 4) (v := ?_) rfl (by kernel_rfl) (fun _ _ _ h => h) (by rfl) ?_ (by assumption) ?_
  rotate_left
  · (intro W hSw; have hz := hSw.1.2.1.cells; have hy := hSw.2.cells; go_simp; try with_reducible rfl)
  try simp only [Act.put, gA, gS, gZ, sA, sZ, sS]
  refine tk (i := 5) (v := ?_) rfl (by kernel_rfl) (fun _ _ _ h => h) (by rfl) ?_ (by assumption) ?_
  rotate_left
  · (intro W hSw; have hz := hSw.1.2.1.cells; have hy := hSw.2.cells; go_simp; try with_reducible rfl)
  try simp only [Act.put, gA, gS, gZ, sA, sZ, sS]
  refine wpAnyH_ready (rs := [6]) (by kernel_rfl) (by simp) ?_
  refine AllReadyH.cons rfl (fun K hK => ?_) AllReadyH.nil
  simp only [gA, gS, gZ]
  rw [if_pos (by rfl)]
  go_simp
  refine (find_any Aa2 ma2 ca2 s2.ac p.s _ (own_rdT hHeld.2.ra hHeld.2.aok) (by have := hHeld.2.ra.2; have := HM2.out; omega)).mono ?_
  rintro e w2 ⟨⟨z, rfl, hz⟩, hw⟩
  obtain rfl := hw.symm
  clear hw
  rcases hz with ⟨i, hi, rfl, hk1, hk2, -⟩ | ⟨rfl, hk2⟩
  · exact absurd (HK2.out) (by rw [hk2]; simp)
  clear hk2
  go_wp2_with fail
  refine hK.out _ _ hHeld (fun hHeld => ?_)
  clear hK K
  try simp only [Act.put, gA, gS, gZ, sA, sZ, sS]
  refine tk (i := 7) (v := ?_) rfl (by kernel_rfl) (fun _ _ _ h => h) (by rfl) ?_ (by assumption) ?_
  rotate_left
  · (intro W hSw; have hz := hSw.1.2.1.cells; have hy := hSw.2.cells; go_simp; try with_reducible rfl)
  try simp only [Act.put, gA, gS, gZ, sA, sZ, sS]
  refine wpAnyH_done (by kernel_rfl) ?_ _
  have H3 := Lib.hid hHeld
  clear hHeld
  go_upto_region 8 with fail
  refine wp_region_last (S := SB B s Ac mc cc Aa ma ca w.heap.size p) 15 (by kernel_rfl) ?_
  have HD : Hid (PN b0 w2.drew.drew B s Ac mc cc Aa ma ca ∧ PkB w2.drew.drew w.heap.size p ∧ FP B (Value.slice Ac mc cc).ownBlock (Value.slice Aa ma ca).ownBlock w w2.drew.drew) := Lib.hid ⟨H3.out.1.2.2.below (Below.refl _ _).drew, H3.out.1.2.1, FP.of_below H3.out.1.1.drew⟩
  obtain ⟨w3, hw3⟩ : ∃ X, X = w2.drew.drew := ⟨_, rfl⟩
  rw [← hw3] at HD ⊢
  clear hw3
  have hHeld := HD.out.1.sb HD.out.2.1
  refine wpL_take (i := 0) (oi := _) (v := ?_) [14, 13] rfl (by kernel_rfl) (by kernel_rfl) (by kernel_rfl) (by kernel_rfl) (by kernel_rfl) (fun _ _ _ h => h) (Or.inl ⟨by rfl, ?_⟩) (by assumption) ?_
  rotate_left
  · (intro V hSw; have hz := hSw.2.cells; have hy := hSw.cells; go_simp; try with_reducible rfl)
  try simp only [Act.put, gA, gZ, sA, sZ, sS]
  refine wpL_take (i := 1) (oi := _) (v := ?_) [12, 4, 3, 2] rfl (by kernel_rfl) (by kernel_rfl) (by kernel_rfl) (by kernel_rfl) (by kernel_rfl) (fun _ _ _ h => h) (Or.inl ⟨by rfl, ?_⟩) (by assumption) ?_
  rotate_left
  · (intro V hSw; have hz := hSw.2.cells; have hy := hSw.cells; go_simp; try with_reducible rfl)
  try simp only [Act.put, gA, gS, gZ, sA, sZ, sS]
  refine wpL_take (i := 2) (oi := _) (v := ?_) [12, 4, 3] rfl (by kernel_rfl) (by kernel_rfl) (by kernel_rfl) (by kernel_rfl) (by kernel_rfl) (fun _ _ _ h => h) (Or.inl ⟨by rfl, ?_⟩) (by assumption) ?_
  rotate_left
  · (intro V hSw; have hz := hSw.2.cells; have hy := hSw.cells; go_simp; try with_reducible rfl)
  try simp only [Act.put, gA, gS, gZ, sA, sZ, sS]
  refine wpL_take (i := 3) (oi := _) (v := ?_) [12, 4] rfl (by kernel_rfl) (by kernel_rfl) (by kernel_rfl) (by kernel_rfl) (by kernel_rfl) (fun _ _ _ h => h) (Or.inl ⟨by rfl, ?_⟩) (by assumption) ?_
  rotate_left
  · (intro V hSw; have hz := hSw.2.cells; have hy := hSw.cells; go_simp; try with_reducible rfl)
  try simp only [Act.put, gA, gS, gZ, sA, sZ, sS]
  refine wpL_take (i := 4) (oi := _) (v := ?_) [12] rfl (by kernel_rfl) (by kernel_rfl) (by kernel_rfl) (by kernel_rfl) (by kernel_rfl) (fun _ _ _ h => h) (Or.inl ⟨by rfl, ?_⟩) (by assumption) ?_
  rotate_left
  · (intro V hSw; have hz := hSw.2.cells; have hy := hSw.cells; go_simp; try with_reducible rfl)
  try simp only [Act.put, gA, gS, gZ, sA, sZ, sS]
  refine wpL_take (i := 5) (oi := _) (v := ?_) [12, 11, 8, 7, 6] rfl (by kernel_rfl) (by kernel_rfl) (by kernel_rfl) (by kernel_rfl) (by kernel_rfl) (fun _ _ _ h => h) (Or.inl ⟨by rfl, ?_⟩) (by assumption) ?_
  rotate_left
  · (intro V hSw; have hz := hSw.2.cells; have hy := hSw.cells; go_simp; try with_reducible rfl)
  try simp only [Act.put, gA, gS, gZ, sA, sZ, sS]
  refine wpL_take (i := 6) (oi := _) (v := ?_) [12, 11, 8, 7] rfl (by kernel_rfl) (by kernel_rfl) (by kernel_rfl) (by kernel_rfl) (by kernel_rfl) (fun _ _ _ h => h) (Or.inl ⟨by rfl, ?_⟩) (by assumption) ?_
  rotate_left
  · (intro V hSw; have hz := hSw.2.cells; have hy := hSw.cells; go_simp; try with_reducible rfl)
  try simp only [Act.put, gA, gS, gZ, sA, sZ, sS]
  refine wpL_take (i := 7) (oi := _) (v := ?_) [12, 11, 8] rfl (by kernel_rfl) (by kernel_rfl) (by kernel_rfl) (by kernel_rfl) (by kernel_rfl) (fun _ _ _ h => h) (Or.inl ⟨by rfl, ?_⟩) (by assumption) ?_
  rotate_left
  · (intro V hSw; have hz := hSw.2.cells; have hy := hSw.cells; go_simp; try with_reducible rfl)
  try simp only [Act.put, gA, gS, gZ, sA, sZ, sS]
  refine wpL_take (i := 8) (oi := _) (v := ?_) [12, 11] rfl (by kernel_rfl) (by kernel_rfl) (by kernel_rfl) (by kernel_rfl) (by kernel_rfl) (fun _ _ _ h => h) (Or.inl ⟨by rfl, ?_⟩) (by assumption) ?_
  rotate_left
  · (intro V hSw; have hz := hSw.2.cells; have hy := hSw.cells; go_simp; try with_reducible rfl)
  try simp only [Act.put, gA, gS, gZ, sA, sZ, sS]
  refine wpL_take (i := 9) (oi := _) (v := ?_) [12, 11, 10] rfl (by kernel_rfl) (by kernel_rfl) (by kernel_rfl) (by kernel_rfl) (by kernel_rfl) (fun _ _ _ h => h) (Or.inl ⟨by rfl, ?_⟩) (by assumption) ?_
  rotate_left
  · (intro V hSw; have hz := hSw.2.cells; have hy := hSw.cells; go_simp; try with_reducible rfl)
  try simp only [Act.put, gA, gS, gZ, sA, sZ, sS]
  refine wpL_take (i := 10) (oi := _) (v := ?_) [12, 11] rfl (by kernel_rfl) (by kernel_rfl) (by kernel_rfl) (by kernel_rfl) (by kernel_rfl) (fun _ _ _ h => h) (Or.inl ⟨by rfl, ?_⟩) (by assumption) ?_
  rotate_left
  · (intro V hSw; have hz := hSw.2.cells; have hy := hSw.cells; go_simp; try with_reducible rfl)
  try simp only [Act.put, gA, gS, gZ, sA, sZ, sS]
  refine wpL_ready (rs := [11]) (by kernel_rfl) (by simp) ?_
  refine AllL.cons rfl (fun K hK => ?_) AllL.nil
  simp only [gA, gS, gZ]
  rw [if_pos (by rfl)]
  go_simp
  refine (find_any Ac mc cc s.cm p.s _ (own_rdT HD.out.1.rc HD.out.1.cok) (by have := HD.out.1.rc.2; have := HM.out; omega)).mono ?_
  rintro e w4 ⟨⟨z, rfl, hz⟩, hw⟩
  obtain rfl := hw.symm
  clear hw
  rcases hz with ⟨i, hi, rfl, hk1, -, hk2⟩ | ⟨rfl, hk2⟩
  rotate_left
  · exact absurd HK.out (by rw [hk2]; simp)
  have hdel := del_erase s.cm p.s i hi hk1 hk2
  have HDl := Lib.hid (And.intro hi hdel)
  clear hk1 hk2 hdel hi
  go_wp2_with fail
  refine hK.out _ _ (Or.inr hHeld) ?_
  clear hK K
  try simp only [Act.put, gA, gS, gZ, sA, sZ, sS]
  refine wpL_ready (rs := [12]) (by kernel_rfl) (by simp) ?_
  refine AllL.cons rfl (fun K hK => ?_) AllL.nil
  simp only [gA, gS, gZ]
  rw [if_pos (by rfl)]
  go_simp
  refine (wo_any Ac mc cc s.cm i _ (own_rdT HD.out.1.rc HD.out.1.cok) (by have := HD.out.1.rc.2; have := HM.out; omega) (by have := HD.out.1.rc.2; have := HDl.out.1; omega)).mono ?_
  rintro e w4 ⟨A', m', c', rfl, ho, hb4⟩
  have hs4 := hHeld.below hb4
  have H4 : Hid (SB B s Ac mc cc Aa ma ca w.heap.size p w4 ∧ OwnT w3.heap.size w4 A' m' c' (del p.s s.cm) ∧ PN b0 w4 B s Ac mc cc Aa ma ca ∧ FP B (Value.slice Ac mc cc).ownBlock (Value.slice Aa ma ca).ownBlock w w4) := Lib.hid ⟨hs4, by rw [← HDl.out.2]; exact ho, HD.out.1.below hb4, HD.out.2.2.call hb4⟩
  clear ho hb4 hHeld
  go_wp2_with fail
  refine hK.out _ _ (Or.inr hs4) ?_
  clear hK K hs4
  try simp only [Act.put, gA, gS, gZ, sA, sZ, sS]
  have hHeld := H4.out.1
  refine wpL_take (i := 13) (oi := _) (v := ?_) [14] rfl (by kernel_rfl) (by kernel_rfl) (by kernel_rfl) (by kernel_rfl) (by kernel_rfl) (fun _ _ _ h => h) (Or.inl ⟨by rfl, ?_⟩) (by assumption) ?_
  rotate_left
  · (intro V hSw; have hz := hSw.2.cells; have hy := hSw.cells; go_simp; try with_reducible rfl)
  try simp only [Act.put, gA, gS, gZ, sA, sZ, sS]
  refine wpL_take (i := 14) (oi := _) (v := ?_) [] rfl (by kernel_rfl) (by kernel_rfl) (by kernel_rfl) (by kernel_rfl) (by kernel_rfl) (fun _ _ _ h => h) (Or.inl ⟨by rfl, ?_⟩) (by assumption) ?_
  rotate_left
  · (intro V hSw; have hz := hSw.2.cells; have hy := hSw.cells; go_simp; try with_reducible rfl)
  try simp only [Act.put, gA, gS, gZ, sA, sZ, sS]
  clear hHeld
  refine wpL_ready (rs := [15]) (by kernel_rfl) (by simp) ?_
  refine AllL.cons rfl (fun K hK => ?_) AllL.nil
  simp only [gA, gS, gZ]
  rw [if_pos (by rfl)]
  obtain ⟨e0, e1, e2, e3, e4, e5, e6, e7, e8, hf1⟩ := H4.out.1.cells
  go_simp
  refine hK.out _ _ (Or.inl rfl) ?_
  clear hK K e0 e1 e2 e3 e4 e5 e6 e7 e8 hf1
  try simp only [Act.put, gA, gS, gZ, sA, sZ, sS]
  refine wpL_done (by kernel_rfl) ?_ _
  have hnew : ∀ k, (Value.slice A' m' c').ownBlock = some k → w3.heap.size ≤ k := own_geT H4.out.2.1
  have hws : w.heap.size ≤ w3.heap.size := HD.out.2.2.size
  have hpn := H4.out.1.setC (own_baseT H4.out.2.1 (Nat.le_trans HB0.out hws)) H4.out.2.2.1.ra (by rw [← HDl.out.2]; exact ok_erase H4.out.2.2.1.cok) H4.out.2.2.1.aok (fun k hk hk2 => by have := hnew k hk; have := own_ltT HD.out.1.ra k hk2; omega)
  have hfp := H4.out.2.2.2.set 7 (.slice A' m' c')
  obtain ⟨w5, hw5⟩ : ∃ X, X = w4.setCell ⟨B, 7, none⟩ (.slice A' m' c') := ⟨_, rfl⟩
  rw [← hw5] at hpn hfp ⊢
  have H5 := Lib.hid (And.intro hpn (And.intro hfp (fun k (hk : (Value.slice A' m' c').ownBlock = some k) => Nat.le_trans hws (hnew k hk))))
  clear hw5 hnew hws hpn hfp H4 HDl HD
  have hor := HOr.out.2
  obtain ⟨e0, e1, e2, e3, e4, e5, e6, e7, e8, hf1⟩ := H5.out.1.cells
  rw [hor] at e2
  clear hor
  have hpn := H5.out.1.closed true
  have hfp := H5.out.2.1.set 3 (.bool true)
  have H6 := Lib.hid (And.intro hpn hfp)
  clear hpn hfp
  go_wp2
  go_ret
  exact ⟨rfl, A', m', c', Aa, ma, ca, by have h1 := H6.out.1; have h2 : expS p s = { s with cm := del p.s s.cm, cl := true } := (by unfold expS; simp only [HOr.out.2]); rw [h2]; exact h1, H6.out.2, fun k hk => .inr (H5.out.2.2 k hk), fun k hk => .inl hk⟩
theorem openC_z {s : St} {p : P5} (h : openC s p = 0) : s.cl = false ∧ (Mg.lk p.s s.cm).isSome = true := by
  unfold openC at h
  cases h1 : fitG s p s.sd
  · rw [h1, if_pos rfl] at h; cases h
  cases h2 : s.cl
  · cases h3 : (Mg.lk p.s s.cm).isSome
    · rw [h1, h2, h3] at h; simp at h
    · exact ⟨rfl, rfl⟩
  · rw [h1, h2] at h; simp at h
theorem pex_any {w : World} {b0 B : Nat} {s : St} {Ac Aa : Option Addr} {mc cc ma ca : Nat} {B2 : Nat} {s2 : St} {Ac2 Aa2 : Option Addr} {mc2 cc2 ma2 ca2 : Nat} (p : P5) (h : Int) (hL : PN b0 w B s Ac mc cc Aa ma ca) (hO : PN b0 w B2 s2 Ac2 mc2 cc2 Aa2 ma2 ca2) (hb0 : b0 ≤ w.heap.size) (hp : p.ok) (hm : s.cm.length ≤ 1000000) (hm2 : s2.ac.length ≤ 1000000) :
    Calls Tryz.prog 15 #[.pointer (some ⟨B, 0, none⟩), pkv p, .int .u64 h, .pointer (some ⟨B2, 0, none⟩)] w fun e w' => e = .returned (.int .i64 (tmoC s s2 p h)) ∧ PX b0 B (Value.slice Ac mc cc).ownBlock (Value.slice Aa ma ca).ownBlock w (tmoS s s2 p h) w' := by
  have errk : ∀ c, c ≠ 0 → tmoC s s2 p h = c → (Calls Tryz.prog 15 #[.pointer (some ⟨B, 0, none⟩), pkv p, .int .u64 h, .pointer (some ⟨B2, 0, none⟩)] w fun e w' => e = .returned (.int .i64 c) ∧ Below w.heap.size w w') → Calls Tryz.prog 15 #[.pointer (some ⟨B, 0, none⟩), pkv p, .int .u64 h, .pointer (some ⟨B2, 0, none⟩)] w fun e w' => e = .returned (.int .i64 (tmoC s s2 p h)) ∧ PX b0 B (Value.slice Ac mc cc).ownBlock (Value.slice Aa ma ca).ownBlock w (tmoS s s2 p h) w' := fun c hc he H => H.mono fun e w' ⟨h1, h2⟩ =>
    ⟨by rw [he]; exact h1, by unfold tmoS; rw [he, if_neg hc]; exact PX.same hL h2⟩
  have hop := mine_any (b0 := b0) (B := B) (s := s) (Ac := Ac) (mc := mc) (cc := cc) (Aa := Aa) (ma := ma) (ca := ca) p hp hm
  by_cases h0 : openC s p = 0
  · rw [h0] at hop
    obtain ⟨hcl, hcm⟩ := openC_z h0
    cases h1 : lateB p h
    · exact errk 21 (by decide) (by simp [tmoC, h0, h1]) (pex_early p h hL hO hb0 hop hp.2.2.1 h1)
    · cases h2 : (Mg.lk p.s s2.ac).isSome
      · have hz : tmoC s s2 p h = 0 := by simp [tmoC, h0, h1, h2]
        cases h3 : s.o
        · refine (pex_oku p h hL hO hb0 hop hp.2.2.1 h1 hm hcm hm2 h2 hcl h3).mono fun e w' ⟨e1, e2⟩ => ⟨?_, ?_⟩
          · rw [hz]; exact e1
          · unfold tmoS; rw [hz, if_pos rfl]; exact e2
        · refine (pex_oko p h hL hO hb0 hop hp.2.2.1 h1 hm hcm hm2 h2 hcl h3).mono fun e w' ⟨e1, e2⟩ => ⟨?_, ?_⟩
          · rw [hz]; exact e1
          · unfold tmoS; rw [hz, if_pos rfl]; exact e2
      · exact errk 10 (by decide) (by simp [tmoC, h0, h1, h2]) (pex_state p h hL hO hb0 hop hp.2.2.1 h1 hm2 h2)
  · exact errk _ h0 (by simp [tmoC, h0]) (pex_err p h hL hO hb0 _ (by simpa using h0) hop)
end Go.Proofs.YtdljphbfbiganaaGreatDoor.Pl
