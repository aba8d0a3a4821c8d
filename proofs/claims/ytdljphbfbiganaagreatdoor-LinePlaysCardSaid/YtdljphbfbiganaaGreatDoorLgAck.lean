/- line: what an end does when a packet that it sent is acknowledged. -/
import Derived.Test.YtdljphbfbiganaaGreatDoorTk
import Derived.Test.YtdljphbfbiganaaGreatDoorLgTmo
namespace Go.Proofs.YtdljphbfbiganaaGreatDoor.Lg
open Go Go.RowKit Packet Ln Mg
set_option linter.unusedVariables false

/-- an acknowledgement's sum -/
def ackP (a : ByteArray) : Array Value := Sha.scells (Sha.ofSt a)
theorem ackP_ok (a : ByteArray) : SumOk (ackP a) := ⟨rfl, Sha.u8_one _, _, rfl⟩
theorem of_g (a : ByteArray) (ha : a.size ≤ 1000000) (bk : Nat) (W : World) (hW : Sha.Tab W) (hc : W.cell? ⟨bk, 0, none⟩ = some (.string a)) (hbk : bk < W.heap.size) : Calls Tryz.prog 27 #[.slice (some ⟨bk, 0, none⟩) 1 1] W fun r w' => r = .returned (.agg (ackP a)) ∧ Below W.heap.size W w' :=
  Sha.of_any bk 0 1 [a] a ha (Sha.join_one a) W hW (fun j x h => by
    match j, h with
    | 0, h => injection h with h; subst h; exact hc
    | (m + 1), h => simp at h) hbk (by simp) (by simp)
/-- the end behind an acknowledgement in order -/
def ackS (p : P5) (s : St) : St := { s with cm := del p.s s.cm, ak := s.ak + 1 }
set_option maxRecDepth 20000 in
set_option maxHeartbeats 4000000 in
theorem ack_err {w : World} {E M N E2 M2 N2 : Nat} {s s2 : St} (p : P5) (a : ByteArray) (hT : Sha.Tab w) (hL : LG w E M N s) (hO : LG w E2 M2 N2 s2) (c : Int) (hc : (c != 0) = true) (hop : OpIs p E M N s E2 M2 N2 s2 c) :
    Calls Tryz.prog 12 #[.pointer (some ⟨E, 0, none⟩), pkv p, .string a, .pointer (some ⟨E2, 0, none⟩)] w fun e w' => e = .returned (.int .i64 c) ∧ Below w.heap.size w w' := by
  have h0 := PO.new (p := p) hL hO
  obtain ⟨V, hV⟩ : ∃ X, X = w.alloc (.cells #[.int .i64 p.c, .int .i64 p.f, .int .u64 p.s, .int .u64 p.t, .string p.d] TPk) := ⟨_, rfl⟩
  rw [← hV] at h0
  have hop1 := hop V (Sha.tab_below hT h0.1.1) h0.1.2.2 h0.2
  have H0 := Lib.hid h0
  have HV := Lib.hid hV
  have HOp := Lib.hid hop1
  have HEl := Lib.hid (And.intro hL.lt (And.intro hL.em (And.intro hL.mn (And.intro hL.cok hL.aok))))
  have HT := Lib.hid hT
  clear h0 hV hop1 hop hL hO hT
  obtain ⟨h0, h1, h2, h3, h4, hf0⟩ := H0.out.1.2.1.cells
  go_enter Tryz.func12, Tryz.ntmps12
  go_upto_region 1 with fail
  rw [← HV.out]
  go_wp2_with fail
  refine (HOp.out).mono ?_
  rintro _ w1 ⟨rfl, b1⟩
  have H1 := Lib.hid (PO.call H0.out b1)
  clear b1 h0 h1 h2 h3 h4 hf0
  obtain ⟨h0, h1, h2, h3, h4, hf0⟩ := H1.out.1.2.1.cells
  obtain ⟨e0, e1, e2, e3, e4, e5, e6, e7, e8, hf1⟩ := H1.out.1.2.2.cells
  go_wp2
  go_ret
  exact ⟨rfl, H1.out.1.1⟩
set_option maxRecDepth 20000 in
set_option maxHeartbeats 4000000 in
theorem ack_none {w : World} {E M N E2 M2 N2 : Nat} {s s2 : St} (p : P5) (a : ByteArray) (hT : Sha.Tab w) (hL : LG w E M N s) (hO : LG w E2 M2 N2 s2) (hop : OpIs p E M N s E2 M2 N2 s2 0) (hk : (lk p.s s2.ac).isSome = false) :
    Calls Tryz.prog 12 #[.pointer (some ⟨E, 0, none⟩), pkv p, .string a, .pointer (some ⟨E2, 0, none⟩)] w fun e w' => e = .returned (.int .i64 18) ∧ Below w.heap.size w w' := by
  have hlk := fun W (hW : LG W E2 M2 N2 s2) => look_g p.s N2 s2.ac W hW.ack
  have hC := sumOf_ok (k := p.s) hO.aok
  simp only [hk] at hlk
  generalize sumOf p.s s2.ac = C at *
  have HLk := Lib.hid hlk
  have HC := Lib.hid hC
  clear hlk hC
  have h0 := PO.new (p := p) hL hO
  obtain ⟨V, hV⟩ : ∃ X, X = w.alloc (.cells #[.int .i64 p.c, .int .i64 p.f, .int .u64 p.s, .int .u64 p.t, .string p.d] TPk) := ⟨_, rfl⟩
  rw [← hV] at h0
  have hop1 := hop V (Sha.tab_below hT h0.1.1) h0.1.2.2 h0.2
  have H0 := Lib.hid h0
  have HV := Lib.hid hV
  have HOp := Lib.hid hop1
  have HEl := Lib.hid (And.intro hL.lt (And.intro hL.em (And.intro hL.mn (And.intro hL.cok hL.aok))))
  have HT := Lib.hid hT
  clear h0 hV hop1 hop hL hO hT
  obtain ⟨h0, h1, h2, h3, h4, hf0⟩ := H0.out.1.2.1.cells
  go_enter Tryz.func12, Tryz.ntmps12
  go_upto_region 1 with fail
  rw [← HV.out]
  go_wp2_with fail
  refine (HOp.out).mono ?_
  rintro _ w1 ⟨rfl, b1⟩
  have H1 := Lib.hid (PO.call H0.out b1)
  clear b1 h0 h1 h2 h3 h4 hf0
  obtain ⟨h0, h1, h2, h3, h4, hf0⟩ := H1.out.1.2.1.cells
  obtain ⟨e0, e1, e2, e3, e4, e5, e6, e7, e8, hf1⟩ := H1.out.1.2.2.cells
  go_upto_region 4 with fail
  clear h0 h1 h2 h3 h4 hf0 e0 e1 e2 e3 e4 e5 e6 e7 e8 hf1
  refine wp_region_held_drew (S := PO w p E M N s E2 M2 N2 s2) (by kernel_rfl) (PO.drew H1.out) (fun hHeld => ?_)
  refine tk (i := 0) (v := ?_) rfl (by kernel_rfl) (fun _ _ _ h => h) (by rfl) ?_ (by assumption) ?_
  rotate_left
  · (intro W hSw; have hz := hSw.1.2.1.cells; have hy := hSw.2.cells; have hlk := HLk.out _ hSw.2; go_simp; try with_reducible rfl)
  try simp only [Act.put, gA, gZ, sA, sZ, sS]
  refine tk (i := 1) (v := ?_) rfl (by kernel_rfl) (fun _ _ _ h => h) (by rfl) ?_ (by assumption) ?_
  rotate_left
  · (intro W hSw; have hz := hSw.1.2.1.cells; have hy := hSw.2.cells; have hlk := HLk.out _ hSw.2; go_simp; try with_reducible rfl)
  try simp only [Act.put, gA, gS, gZ, sA, sZ, sS]
  refine tk (i := 2) (v := ?_) rfl (by kernel_rfl) (fun _ _ _ h => h) (by rfl) ?_ (by assumption) ?_
  rotate_left
  · (intro W hSw; have hz := hSw.1.2.1.cells; have hy := hSw.2.cells; have hlk := HLk.out _ hSw.2; go_simp; try with_reducible rfl)
  try simp only [Act.put, gA, gS, gZ, sA, sZ, sS]
  refine tk (i := 3) (v := ?_) rfl (by kernel_rfl) (fun _ _ _ h => h) (by rfl) ?_ (by assumption) ?_
  rotate_left
  · (intro W hSw; have hz := hSw.1.2.1.cells; have hy := hSw.2.cells; have hlk := HLk.out _ hSw.2; go_simp; try with_reducible rfl)
  try simp only [Act.put, gA, gS, gZ, sA, sZ, sS]
  refine tk (i := 4) (v := ?_) rfl (by kernel_rfl) (fun _ _ _ h => h) (by rfl) ?_ (by assumption) ?_
  rotate_left
  · (intro W hSw; have hz := hSw.1.2.1.cells; have hy := hSw.2.cells; have hlk := HLk.out _ hSw.2; go_simp; try with_reducible rfl)
  try simp only [Act.put, gA, gS, gZ, sA, sZ, sS]
  refine tk (i := 5) (v := ?_) rfl (by kernel_rfl) (fun _ _ _ h => h) (by rfl) ?_ (by assumption) ?_
  rotate_left
  · (intro W hSw; have hz := hSw.1.2.1.cells; have hy := hSw.2.cells; have hlk := HLk.out _ hSw.2; go_simp; try with_reducible rfl)
  try simp only [Act.put, gA, gS, gZ, sA, sZ, sS]
  refine tk (i := 6) (v := ?_) rfl (by kernel_rfl) (fun _ _ _ h => h) (by rfl) ?_ (by assumption) ?_
  rotate_left
  · (intro W hSw; have hz := hSw.1.2.1.cells; have hy := hSw.2.cells; have hlk := HLk.out _ hSw.2; go_simp; try with_reducible rfl)
  try simp only [Act.put, gA, gS, gZ, sA, sZ, sS]
  refine tk (i := 7) (v := ?_) rfl (by kernel_rfl) (fun _ _ _ h => h) (by rfl) ?_ (by assumption) ?_
  rotate_left
  · (intro W hSw; have hz := hSw.1.2.1.cells; have hy := hSw.2.cells; have hlk := HLk.out _ hSw.2; go_simp; try with_reducible rfl)
  try simp only [Act.put, gA, gS, gZ, sA, sZ, sS]
  refine tk (i := 8) (v := ?_) rfl (by kernel_rfl) (fun _ _ _ h => h) (by rfl) ?_ (by assumption) ?_
  rotate_left
  · (intro W hSw; have hz := hSw.1.2.1.cells; have hy := hSw.2.cells; have hlk := HLk.out _ hSw.2; go_simp; try with_reducible rfl)
  try simp only [Act.put, gA, gS, gZ, sA, sZ, sS]
  refine tk (i := 9) (v := ?_) rfl (by kernel_rfl) (fun _ _ _ h => h) (by rfl) ?_ (by assumption) ?_
  rotate_left
  · (intro W hSw; have hz := hSw.1.2.1.cells; have hy := hSw.2.cells; have hlk := HLk.out _ hSw.2; go_simp; try with_reducible rfl)
  try simp only [Act.put, gA, gS, gZ, sA, sZ, sS]
  refine wpAnyH_ready (rs := [10]) (by kernel_rfl) (by simp) ?_
  refine AllReadyH.cons rfl (fun K hK => ?_) AllReadyH.nil
  simp only [gA, gS, gZ]
  rw [if_pos (by rfl)]
  go_simp
  refine hK.out _ _ (PO.call hHeld ((Below.refl _ _).alloc (Nat.le_refl _) _)) (fun hHeld => ?_)
  clear hK K
  try simp only [Act.put, gA, gS, gZ, sA, sZ, sS]
  have hst : (storeCells ⟨w1.heap.size, 0, none⟩ C.toList).run Tryz.prog (w1.alloc (.cells #[.int .u8 0, .int .u8 0, .int .u8 0, .int .u8 0, .int .u8 0, .int .u8 0, .int .u8 0, .int .u8 0, .int .u8 0, .int .u8 0, .int .u8 0, .int .u8 0, .int .u8 0, .int .u8 0, .int .u8 0, .int .u8 0, .int .u8 0, .int .u8 0, .int .u8 0, .int .u8 0, .int .u8 0, .int .u8 0, .int .u8 0, .int .u8 0, .int .u8 0, .int .u8 0, .int .u8 0, .int .u8 0, .int .u8 0, .int .u8 0, .int .u8 0, .int .u8 0] TSm)).drew = .ok () (w1.alloc (.cells C TSm)).drew := run_storeCells_new (P := Tryz.prog) w1.drew TSm #[.int .u8 0, .int .u8 0, .int .u8 0, .int .u8 0, .int .u8 0, .int .u8 0, .int .u8 0, .int .u8 0, .int .u8 0, .int .u8 0, .int .u8 0, .int .u8 0, .int .u8 0, .int .u8 0, .int .u8 0, .int .u8 0, .int .u8 0, .int .u8 0, .int .u8 0, .int .u8 0, .int .u8 0, .int .u8 0, .int .u8 0, .int .u8 0, .int .u8 0, .int .u8 0, .int .u8 0, .int .u8 0, .int .u8 0, .int .u8 0, .int .u8 0, .int .u8 0] C (i32 C HC.out.1) (by rw [HC.out.1]; rfl) HC.out.2.1
  have hCz := HC.out.1
  refine wpAnyH_ready (rs := [11]) (by kernel_rfl) (by simp) ?_
  refine AllReadyH.cons rfl (fun K hK => ?_) AllReadyH.nil
  simp only [gA, gS, gZ]
  rw [if_pos (by rfl)]
  go_simp
  refine hK.out _ _ (PO.call (PO.drew H1.out) ((Below.refl _ _).alloc (Nat.le_refl _) _)) (fun hHeld => ?_)
  clear hK K
  try simp only [Act.put, gA, gS, gZ, sA, sZ, sS]
  refine tk (i := 12) (v := ?_) rfl (by kernel_rfl) (fun _ _ _ h => h) (by rfl) ?_ (by assumption) ?_
  rotate_left
  · (intro W hSw; have hz := hSw.1.2.1.cells; have hy := hSw.2.cells; have hlk := HLk.out _ hSw.2; go_simp; try with_reducible rfl)
  try simp only [Act.put, gA, gS, gZ, sA, sZ, sS]
  refine wpAnyH_done (by kernel_rfl) ?_ _
  have H3 : Hid (PO w p E M N s E2 M2 N2 s2 ((w1.alloc (.cells C TSm)).drew) ∧ (w1.alloc (.cells C TSm)).drew.heap[w1.heap.size]? = some (.cells C TSm (0, 0))) := Lib.hid ⟨hHeld, heap_alloc_new w1.drew _⟩
  obtain ⟨w3, hw3⟩ : ∃ X, X = (w1.alloc (.cells C TSm)).drew := ⟨_, rfl⟩
  obtain ⟨G, hG⟩ : ∃ X, X = w1.heap.size := ⟨_, rfl⟩
  rw [← hw3] at H3 ⊢
  rw [← hG] at H3 ⊢
  clear hw3 hG hst hHeld H1
  obtain ⟨h0, h1, h2, h3, h4, hf0⟩ := H3.out.1.1.2.1.cells
  obtain ⟨e0, e1, e2, e3, e4, e5, e6, e7, e8, hf1⟩ := H3.out.1.1.2.2.cells
  go_wp2
  go_ret
  exact ⟨rfl, H3.out.1.1.1⟩
set_option maxRecDepth 20000 in
set_option maxHeartbeats 4000000 in
theorem ack_other {w : World} {E M N E2 M2 N2 : Nat} {s s2 : St} (p : P5) (a : ByteArray) (hT : Sha.Tab w) (hL : LG w E M N s) (hO : LG w E2 M2 N2 s2) (hop : OpIs p E M N s E2 M2 N2 s2 0) (ha : a.size ≤ 1000000) (hk : (lk p.s s2.ac).isSome = true) (hC2 : sumOf p.s s2.ac ≠ ackP a) :
    Calls Tryz.prog 12 #[.pointer (some ⟨E, 0, none⟩), pkv p, .string a, .pointer (some ⟨E2, 0, none⟩)] w fun e w' => e = .returned (.int .i64 18) ∧ Below w.heap.size w w' := by
  obtain ⟨b, hb, hne⟩ := neq_sum (sumOf p.s s2.ac) (ackP a) (sumOf_ok hO.aok) (ackP_ok a)
  have hbv : b = false := by cases b with | false => rfl | true => exact absurd (hb.1 rfl) hC2
  rw [hbv] at hne
  have hof := of_g a ha
  have hlk := fun W (hW : LG W E2 M2 N2 s2) => look_g p.s N2 s2.ac W hW.ack
  have hC := sumOf_ok (k := p.s) hO.aok
  simp only [hk] at hlk
  generalize sumOf p.s s2.ac = C at *
  generalize ackP a = D at *
  have HNe := Lib.hid hne
  have HOf := Lib.hid hof
  clear hne hof hb hbv hC2
  have HLk := Lib.hid hlk
  have HC := Lib.hid hC
  clear hlk hC
  have h0 := PO.new (p := p) hL hO
  obtain ⟨V, hV⟩ : ∃ X, X = w.alloc (.cells #[.int .i64 p.c, .int .i64 p.f, .int .u64 p.s, .int .u64 p.t, .string p.d] TPk) := ⟨_, rfl⟩
  rw [← hV] at h0
  have hop1 := hop V (Sha.tab_below hT h0.1.1) h0.1.2.2 h0.2
  have H0 := Lib.hid h0
  have HV := Lib.hid hV
  have HOp := Lib.hid hop1
  have HEl := Lib.hid (And.intro hL.lt (And.intro hL.em (And.intro hL.mn (And.intro hL.cok hL.aok))))
  have HT := Lib.hid hT
  clear h0 hV hop1 hop hL hO hT
  obtain ⟨h0, h1, h2, h3, h4, hf0⟩ := H0.out.1.2.1.cells
  go_enter Tryz.func12, Tryz.ntmps12
  go_upto_region 1 with fail
  rw [← HV.out]
  go_wp2_with fail
  refine (HOp.out).mono ?_
  rintro _ w1 ⟨rfl, b1⟩
  have H1 := Lib.hid (PO.call H0.out b1)
  clear b1 h0 h1 h2 h3 h4 hf0
  obtain ⟨h0, h1, h2, h3, h4, hf0⟩ := H1.out.1.2.1.cells
  obtain ⟨e0, e1, e2, e3, e4, e5, e6, e7, e8, hf1⟩ := H1.out.1.2.2.cells
  go_upto_region 4 with fail
  clear h0 h1 h2 h3 h4 hf0 e0 e1 e2 e3 e4 e5 e6 e7 e8 hf1
  refine wp_region_held_drew (S := PO w p E M N s E2 M2 N2 s2) (by kernel_rfl) (PO.drew H1.out) (fun hHeld => ?_)
  refine tk (i := 0) (v := ?_) rfl (by kernel_rfl) (fun _ _ _ h => h) (by rfl) ?_ (by assumption) ?_
  rotate_left
  · (intro W hSw; have hz := hSw.1.2.1.cells; have hy := hSw.2.cells; have hlk := HLk.out _ hSw.2; go_simp; try with_reducible rfl)
  try simp only [Act.put, gA, gZ, sA, sZ, sS]
  refine tk (i := 1) (v := ?_) rfl (by kernel_rfl) (fun _ _ _ h => h) (by rfl) ?_ (by assumption) ?_
  rotate_left
  · (intro W hSw; have hz := hSw.1.2.1.cells; have hy := hSw.2.cells; have hlk := HLk.out _ hSw.2; go_simp; try with_reducible rfl)
  try simp only [Act.put, gA, gS, gZ, sA, sZ, sS]
  refine tk (i := 2) (v := ?_) rfl (by kernel_rfl) (fun _ _ _ h => h) (by rfl) ?_ (by assumption) ?_
  rotate_left
  · (intro W hSw; have hz := hSw.1.2.1.cells; have hy := hSw.2.cells; have hlk := HLk.out _ hSw.2; go_simp; try with_reducible rfl)
  try simp only [Act.put, gA, gS, gZ, sA, sZ, sS]
  refine tk (i := 3) (v := ?_) rfl (by kernel_rfl) (fun _ _ _ h => h) (by rfl) ?_ (by assumption) ?_
  rotate_left
  · (intro W hSw; have hz := hSw.1.2.1.cells; have hy := hSw.2.cells; have hlk := HLk.out _ hSw.2; go_simp; try with_reducible rfl)
  try simp only [Act.put, gA, gS, gZ, sA, sZ, sS]
  refine tk (i := 4) (v := ?_) rfl (by kernel_rfl) (fun _ _ _ h => h) (by rfl) ?_ (by assumption) ?_
  rotate_left
  · (intro W hSw; have hz := hSw.1.2.1.cells; have hy := hSw.2.cells; have hlk := HLk.out _ hSw.2; go_simp; try with_reducible rfl)
  try simp only [Act.put, gA, gS, gZ, sA, sZ, sS]
  refine tk (i := 5) (v := ?_) rfl (by kernel_rfl) (fun _ _ _ h => h) (by rfl) ?_ (by assumption) ?_
  rotate_left
  · (intro W hSw; have hz := hSw.1.2.1.cells; have hy := hSw.2.cells; have hlk := HLk.out _ hSw.2; go_simp; try with_reducible rfl)
  try simp only [Act.put, gA, gS, gZ, sA, sZ, sS]
  refine tk (i := 6) (v := ?_) rfl (by kernel_rfl) (fun _ _ _ h => h) (by rfl) ?_ (by assumption) ?_
  rotate_left
  · (intro W hSw; have hz := hSw.1.2.1.cells; have hy := hSw.2.cells; have hlk := HLk.out _ hSw.2; go_simp; try with_reducible rfl)
  try simp only [Act.put, gA, gS, gZ, sA, sZ, sS]
  refine tk (i := 7) (v := ?_) rfl (by kernel_rfl) (fun _ _ _ h => h) (by rfl) ?_ (by assumption) ?_
  rotate_left
  · (intro W hSw; have hz := hSw.1.2.1.cells; have hy := hSw.2.cells; have hlk := HLk.out _ hSw.2; go_simp; try with_reducible rfl)
  try simp only [Act.put, gA, gS, gZ, sA, sZ, sS]
  refine tk (i := 8) (v := ?_) rfl (by kernel_rfl) (fun _ _ _ h => h) (by rfl) ?_ (by assumption) ?_
  rotate_left
  · (intro W hSw; have hz := hSw.1.2.1.cells; have hy := hSw.2.cells; have hlk := HLk.out _ hSw.2; go_simp; try with_reducible rfl)
  try simp only [Act.put, gA, gS, gZ, sA, sZ, sS]
  refine tk (i := 9) (v := ?_) rfl (by kernel_rfl) (fun _ _ _ h => h) (by rfl) ?_ (by assumption) ?_
  rotate_left
  · (intro W hSw; have hz := hSw.1.2.1.cells; have hy := hSw.2.cells; have hlk := HLk.out _ hSw.2; go_simp; try with_reducible rfl)
  try simp only [Act.put, gA, gS, gZ, sA, sZ, sS]
  refine wpAnyH_ready (rs := [10]) (by kernel_rfl) (by simp) ?_
  refine AllReadyH.cons rfl (fun K hK => ?_) AllReadyH.nil
  simp only [gA, gS, gZ]
  rw [if_pos (by rfl)]
  go_simp
  refine hK.out _ _ (PO.call hHeld ((Below.refl _ _).alloc (Nat.le_refl _) _)) (fun hHeld => ?_)
  clear hK K
  try simp only [Act.put, gA, gS, gZ, sA, sZ, sS]
  have hst : (storeCells ⟨w1.heap.size, 0, none⟩ C.toList).run Tryz.prog (w1.alloc (.cells #[.int .u8 0, .int .u8 0, .int .u8 0, .int .u8 0, .int .u8 0, .int .u8 0, .int .u8 0, .int .u8 0, .int .u8 0, .int .u8 0, .int .u8 0, .int .u8 0, .int .u8 0, .int .u8 0, .int .u8 0, .int .u8 0, .int .u8 0, .int .u8 0, .int .u8 0, .int .u8 0, .int .u8 0, .int .u8 0, .int .u8 0, .int .u8 0, .int .u8 0, .int .u8 0, .int .u8 0, .int .u8 0, .int .u8 0, .int .u8 0, .int .u8 0, .int .u8 0] TSm)).drew = .ok () (w1.alloc (.cells C TSm)).drew := run_storeCells_new (P := Tryz.prog) w1.drew TSm #[.int .u8 0, .int .u8 0, .int .u8 0, .int .u8 0, .int .u8 0, .int .u8 0, .int .u8 0, .int .u8 0, .int .u8 0, .int .u8 0, .int .u8 0, .int .u8 0, .int .u8 0, .int .u8 0, .int .u8 0, .int .u8 0, .int .u8 0, .int .u8 0, .int .u8 0, .int .u8 0, .int .u8 0, .int .u8 0, .int .u8 0, .int .u8 0, .int .u8 0, .int .u8 0, .int .u8 0, .int .u8 0, .int .u8 0, .int .u8 0, .int .u8 0, .int .u8 0] C (i32 C HC.out.1) (by rw [HC.out.1]; rfl) HC.out.2.1
  have hCz := HC.out.1
  refine wpAnyH_ready (rs := [11]) (by kernel_rfl) (by simp) ?_
  refine AllReadyH.cons rfl (fun K hK => ?_) AllReadyH.nil
  simp only [gA, gS, gZ]
  rw [if_pos (by rfl)]
  go_simp
  refine hK.out _ _ (PO.call (PO.drew H1.out) ((Below.refl _ _).alloc (Nat.le_refl _) _)) (fun hHeld => ?_)
  clear hK K
  try simp only [Act.put, gA, gS, gZ, sA, sZ, sS]
  refine tk (i := 12) (v := ?_) rfl (by kernel_rfl) (fun _ _ _ h => h) (by rfl) ?_ (by assumption) ?_
  rotate_left
  · (intro W hSw; have hz := hSw.1.2.1.cells; have hy := hSw.2.cells; have hlk := HLk.out _ hSw.2; go_simp; try with_reducible rfl)
  try simp only [Act.put, gA, gS, gZ, sA, sZ, sS]
  refine wpAnyH_done (by kernel_rfl) ?_ _
  have H3 : Hid (PO w p E M N s E2 M2 N2 s2 ((w1.alloc (.cells C TSm)).drew) ∧ (w1.alloc (.cells C TSm)).drew.heap[w1.heap.size]? = some (.cells C TSm (0, 0))) := Lib.hid ⟨hHeld, heap_alloc_new w1.drew _⟩
  obtain ⟨w3, hw3⟩ : ∃ X, X = (w1.alloc (.cells C TSm)).drew := ⟨_, rfl⟩
  obtain ⟨G, hG⟩ : ∃ X, X = w1.heap.size := ⟨_, rfl⟩
  rw [← hw3] at H3 ⊢
  rw [← hG] at H3 ⊢
  clear hw3 hG hst hHeld H1
  obtain ⟨h0, h1, h2, h3, h4, hf0⟩ := H3.out.1.1.2.1.cells
  obtain ⟨e0, e1, e2, e3, e4, e5, e6, e7, e8, hf1⟩ := H3.out.1.1.2.2.cells
  go_upto_region 6 with fail
  clear h0 h1 h2 h3 h4 hf0 e0 e1 e2 e3 e4 e5 e6 e7 e8 hf1
  refine wp_region_held_drew (S := fun W => PO w p E M N s E2 M2 N2 s2 W ∧ W.heap[G]? = some (.cells C TSm (0, 0))) (by kernel_rfl) ⟨PO.drew H3.out.1, H3.out.2⟩ (fun hHeld => ?_)
  refine tk (i := 0) (v := ?_) rfl (by kernel_rfl) (fun _ _ _ h => h) (by rfl) ?_ (by assumption) ?_
  rotate_left
  · (intro W hSw; (refine Sha.yields_row TSm (.tmp 10) ?_ G ?_ TSm C (0, 0) _ hSw.2 Tryz.underlying58 rfl (i32 C HC.out.1)); rfl; rfl)
  try simp only [Act.put, gA, gZ, sA, sZ, sS]
  refine tk (i := 1) (v := ?_) rfl (by kernel_rfl) (fun _ _ _ h => h) (by rfl) ?_ (by assumption) ?_
  rotate_left
  · (intro W hSw; skip; go_simp; try with_reducible rfl)
  try simp only [Act.put, gA, gS, gZ, sA, sZ, sS]
  refine wpAnyH_ready (rs := [2]) (by kernel_rfl) (by simp) ?_
  refine AllReadyH.cons rfl (fun K hK => ?_) AllReadyH.nil
  simp only [gA, gS, gZ]
  rw [if_pos (by rfl)]
  go_simp
  refine hK.out _ _ ⟨PO.call hHeld.1 ((Below.refl _ _).alloc (Nat.le_refl _) _), (Below.heap_alloc _ _ _ (lt_of hHeld.2)).trans hHeld.2⟩ (fun hHeld => ?_)
  clear hK K
  try simp only [Act.put, gA, gS, gZ, sA, sZ, sS]
  refine wpAnyH_ready (rs := [3]) (by kernel_rfl) (by simp) ?_
  refine AllReadyH.cons rfl (fun K hK => ?_) AllReadyH.nil
  simp only [gA, gS, gZ]
  rw [if_pos (by rfl)]
  go_simp
  (refine (HOf.out _ _ (Sha.tab_below HT.out hHeld.1.1.1) (by simp) (by simp)).mono ?_; rintro e w5 ⟨rfl, hb5⟩)
  go_wp2_with fail
  refine hK.out _ _ ⟨PO.call hHeld.1 hb5, (hb5.block _ (lt_of hHeld.2)).trans hHeld.2⟩ (fun hHeld => ?_)
  clear hK K
  try simp only [Act.put, gA, gS, gZ, sA, sZ, sS]
  have hneq := HNe.out
  refine tk (i := 4) (v := ?_) rfl (by kernel_rfl) (fun _ _ _ h => h) (by rfl) ?_ (by assumption) ?_
  rotate_left
  · (intro W hSw; skip; go_simp; try with_reducible rfl)
  try simp only [Act.put, gA, gS, gZ, sA, sZ, sS]
  refine tk (i := 5) (v := ?_) rfl (by kernel_rfl) (fun _ _ _ h => h) (by rfl) ?_ (by assumption) ?_
  rotate_left
  · (intro W hSw; skip; go_simp; try with_reducible rfl)
  try simp only [Act.put, gA, gS, gZ, sA, sZ, sS]
  refine wpAnyH_done (by kernel_rfl) ?_ _
  have H6 := Lib.hid hHeld.1
  clear hHeld hneq hb5 H3
  go_wp2
  go_ret
  exact ⟨rfl, H6.out.1.1⟩
set_option maxRecDepth 20000 in
set_option maxHeartbeats 4000000 in
theorem ack_order {w : World} {E M N E2 M2 N2 : Nat} {s s2 : St} (p : P5) (a : ByteArray) (hT : Sha.Tab w) (hL : LG w E M N s) (hO : LG w E2 M2 N2 s2) (hop : OpIs p E M N s E2 M2 N2 s2 0) (ha : a.size ≤ 1000000) (hk : (lk p.s s2.ac).isSome = true) (hC2 : sumOf p.s s2.ac = ackP a) (hor : s.o = true) (hne2 : (p.s != s.ak) = true) :
    Calls Tryz.prog 12 #[.pointer (some ⟨E, 0, none⟩), pkv p, .string a, .pointer (some ⟨E2, 0, none⟩)] w fun e w' => e = .returned (.int .i64 19) ∧ Below w.heap.size w w' := by
  obtain ⟨b, hb, hne⟩ := neq_sum (sumOf p.s s2.ac) (ackP a) (sumOf_ok hO.aok) (ackP_ok a)
  have hbv : b = true := hb.2 hC2
  rw [hbv] at hne
  have hof := of_g a ha
  have hlk := fun W (hW : LG W E2 M2 N2 s2) => look_g p.s N2 s2.ac W hW.ack
  have hC := sumOf_ok (k := p.s) hO.aok
  simp only [hk] at hlk
  generalize sumOf p.s s2.ac = C at *
  generalize ackP a = D at *
  have HNe := Lib.hid hne
  have HOf := Lib.hid hof
  clear hne hof hb hbv hC2
  have HLk := Lib.hid hlk
  have HC := Lib.hid hC
  clear hlk hC
  have HX := Lib.hid (And.intro hor hne2)
  clear hor hne2
  have h0 := PO.new (p := p) hL hO
  obtain ⟨V, hV⟩ : ∃ X, X = w.alloc (.cells #[.int .i64 p.c, .int .i64 p.f, .int .u64 p.s, .int .u64 p.t, .string p.d] TPk) := ⟨_, rfl⟩
  rw [← hV] at h0
  have hop1 := hop V (Sha.tab_below hT h0.1.1) h0.1.2.2 h0.2
  have H0 := Lib.hid h0
  have HV := Lib.hid hV
  have HOp := Lib.hid hop1
  have HEl := Lib.hid (And.intro hL.lt (And.intro hL.em (And.intro hL.mn (And.intro hL.cok hL.aok))))
  have HT := Lib.hid hT
  clear h0 hV hop1 hop hL hO hT
  obtain ⟨h0, h1, h2, h3, h4, hf0⟩ := H0.out.1.2.1.cells
  go_enter Tryz.func12, Tryz.ntmps12
  go_upto_region 1 with fail
  rw [← HV.out]
  go_wp2_with fail
  refine (HOp.out).mono ?_
  rintro _ w1 ⟨rfl, b1⟩
  have H1 := Lib.hid (PO.call H0.out b1)
  clear b1 h0 h1 h2 h3 h4 hf0
  obtain ⟨h0, h1, h2, h3, h4, hf0⟩ := H1.out.1.2.1.cells
  obtain ⟨e0, e1, e2, e3, e4, e5, e6, e7, e8, hf1⟩ := H1.out.1.2.2.cells
  go_upto_region 4 with fail
  clear h0 h1 h2 h3 h4 hf0 e0 e1 e2 e3 e4 e5 e6 e7 e8 hf1
  refine wp_region_held_drew (S := PO w p E M N s E2 M2 N2 s2) (by kernel_rfl) (PO.drew H1.out) (fun hHeld => ?_)
  refine tk (i := 0) (v := ?_) rfl (by kernel_rfl) (fun _ _ _ h => h) (by rfl) ?_ (by assumption) ?_
  rotate_left
  · (intro W hSw; have hz := hSw.1.2.1.cells; have hy := hSw.2.cells; have hlk := HLk.out _ hSw.2; go_simp; try with_reducible rfl)
  try simp only [Act.put, gA, gZ, sA, sZ, sS]
  refine tk (i := 1) (v := ?_) rfl (by kernel_rfl) (fun _ _ _ h => h) (by rfl) ?_ (by assumption) ?_
  rotate_left
  · (intro W hSw; have hz := hSw.1.2.1.cells; have hy := hSw.2.cells; have hlk := HLk.out _ hSw.2; go_simp; try with_reducible rfl)
  try simp only [Act.put, gA, gS, gZ, sA, sZ, sS]
  refine tk (i := 2) (v := ?_) rfl (by kernel_rfl) (fun _ _ _ h => h) (by rfl) ?_ (by assumption) ?_
  rotate_left
  · (intro W hSw; have hz := hSw.1.2.1.cells; have hy := hSw.2.cells; have hlk := HLk.out _ hSw.2; go_simp; try with_reducible rfl)
  try simp only [Act.put, gA, gS, gZ, sA, sZ, sS]
  refine tk (i := 3) (v := ?_) rfl (by kernel_rfl) (fun _ _ _ h => h) (by rfl) ?_ (by assumption) ?_
  rotate_left
  · (intro W hSw; have hz := hSw.1.2.1.cells; have hy := hSw.2.cells; have hlk := HLk.out _ hSw.2; go_simp; try with_reducible rfl)
  try simp only [Act.put, gA, gS, gZ, sA, sZ, sS]
  refine tk (i := 4) (v := ?_) rfl (by kernel_rfl) (fun _ _ _ h => h) (by rfl) ?_ (by assumption) ?_
  rotate_left
  · (intro W hSw; have hz := hSw.1.2.1.cells; have hy := hSw.2.cells; have hlk := HLk.out _ hSw.2; go_simp; try with_reducible rfl)
  try simp only [Act.put, gA, gS, gZ, sA, sZ, sS]
  refine tk (i := 5) (v := ?_) rfl (by kernel_rfl) (fun _ _ _ h => h) (by rfl) ?_ (by assumption) ?_
  rotate_left
  · (intro W hSw; have hz := hSw.1.2.1.cells; have hy := hSw.2.cells; have hlk := HLk.out _ hSw.2; go_simp; try with_reducible rfl)
  try simp only [Act.put, gA, gS, gZ, sA, sZ, sS]
  refine tk (i := 6) (v := ?_) rfl (by kernel_rfl) (fun _ _ _ h => h) (by rfl) ?_ (by assumption) ?_
  rotate_left
  · (intro W hSw; have hz := hSw.1.2.1.cells; have hy := hSw.2.cells; have hlk := HLk.out _ hSw.2; go_simp; try with_reducible rfl)
  try simp only [Act.put, gA, gS, gZ, sA, sZ, sS]
  refine tk (i := 7) (v := ?_) rfl (by kernel_rfl) (fun _ _ _ h => h) (by rfl) ?_ (by assumption) ?_
  rotate_left
  · (intro W hSw; have hz := hSw.1.2.1.cells; have hy := hSw.2.cells; have hlk := HLk.out _ hSw.2; go_simp; try with_reducible rfl)
  try simp only [Act.put, gA, gS, gZ, sA, sZ, sS]
  refine tk (i := 8) (v := ?_) rfl (by kernel_rfl) (fun _ _ _ h => h) (by rfl) ?_ (by assumption) ?_
  rotate_left
  · (intro W hSw; have hz := hSw.1.2.1.cells; have hy := hSw.2.cells; have hlk := HLk.out _ hSw.2; go_simp; try with_reducible rfl)
  try simp only [Act.put, gA, gS, gZ, sA, sZ, sS]
  refine tk (i := 9) (v := ?_) rfl (by kernel_rfl) (fun _ _ _ h => h) (by rfl) ?_ (by assumption) ?_
  rotate_left
  · (intro W hSw; have hz := hSw.1.2.1.cells; have hy := hSw.2.cells; have hlk := HLk.out _ hSw.2; go_simp; try with_reducible rfl)
  try simp only [Act.put, gA, gS, gZ, sA, sZ, sS]
  refine wpAnyH_ready (rs := [10]) (by kernel_rfl) (by simp) ?_
  refine AllReadyH.cons rfl (fun K hK => ?_) AllReadyH.nil
  simp only [gA, gS, gZ]
  rw [if_pos (by rfl)]
  go_simp
  refine hK.out _ _ (PO.call hHeld ((Below.refl _ _).alloc (Nat.le_refl _) _)) (fun hHeld => ?_)
  clear hK K
  try simp only [Act.put, gA, gS, gZ, sA, sZ, sS]
  have hst : (storeCells ⟨w1.heap.size, 0, none⟩ C.toList).run Tryz.prog (w1.alloc (.cells #[.int .u8 0, .int .u8 0, .int .u8 0, .int .u8 0, .int .u8 0, .int .u8 0, .int .u8 0, .int .u8 0, .int .u8 0, .int .u8 0, .int .u8 0, .int .u8 0, .int .u8 0, .int .u8 0, .int .u8 0, .int .u8 0, .int .u8 0, .int .u8 0, .int .u8 0, .int .u8 0, .int .u8 0, .int .u8 0, .int .u8 0, .int .u8 0, .int .u8 0, .int .u8 0, .int .u8 0, .int .u8 0, .int .u8 0, .int .u8 0, .int .u8 0, .int .u8 0] TSm)).drew = .ok () (w1.alloc (.cells C TSm)).drew := run_storeCells_new (P := Tryz.prog) w1.drew TSm #[.int .u8 0, .int .u8 0, .int .u8 0, .int .u8 0, .int .u8 0, .int .u8 0, .int .u8 0, .int .u8 0, .int .u8 0, .int .u8 0, .int .u8 0, .int .u8 0, .int .u8 0, .int .u8 0, .int .u8 0, .int .u8 0, .int .u8 0, .int .u8 0, .int .u8 0, .int .u8 0, .int .u8 0, .int .u8 0, .int .u8 0, .int .u8 0, .int .u8 0, .int .u8 0, .int .u8 0, .int .u8 0, .int .u8 0, .int .u8 0, .int .u8 0, .int .u8 0] C (i32 C HC.out.1) (by rw [HC.out.1]; rfl) HC.out.2.1
  have hCz := HC.out.1
  refine wpAnyH_ready (rs := [11]) (by kernel_rfl) (by simp) ?_
  refine AllReadyH.cons rfl (fun K hK => ?_) AllReadyH.nil
  simp only [gA, gS, gZ]
  rw [if_pos (by rfl)]
  go_simp
  refine hK.out _ _ (PO.call (PO.drew H1.out) ((Below.refl _ _).alloc (Nat.le_refl _) _)) (fun hHeld => ?_)
  clear hK K
  try simp only [Act.put, gA, gS, gZ, sA, sZ, sS]
  refine tk (i := 12) (v := ?_) rfl (by kernel_rfl) (fun _ _ _ h => h) (by rfl) ?_ (by assumption) ?_
  rotate_left
  · (intro W hSw; have hz := hSw.1.2.1.cells; have hy := hSw.2.cells; have hlk := HLk.out _ hSw.2; go_simp; try with_reducible rfl)
  try simp only [Act.put, gA, gS, gZ, sA, sZ, sS]
  refine wpAnyH_done (by kernel_rfl) ?_ _
  have H3 : Hid (PO w p E M N s E2 M2 N2 s2 ((w1.alloc (.cells C TSm)).drew) ∧ (w1.alloc (.cells C TSm)).drew.heap[w1.heap.size]? = some (.cells C TSm (0, 0))) := Lib.hid ⟨hHeld, heap_alloc_new w1.drew _⟩
  obtain ⟨w3, hw3⟩ : ∃ X, X = (w1.alloc (.cells C TSm)).drew := ⟨_, rfl⟩
  obtain ⟨G, hG⟩ : ∃ X, X = w1.heap.size := ⟨_, rfl⟩
  rw [← hw3] at H3 ⊢
  rw [← hG] at H3 ⊢
  clear hw3 hG hst hHeld H1
  obtain ⟨h0, h1, h2, h3, h4, hf0⟩ := H3.out.1.1.2.1.cells
  obtain ⟨e0, e1, e2, e3, e4, e5, e6, e7, e8, hf1⟩ := H3.out.1.1.2.2.cells
  go_upto_region 6 with fail
  clear h0 h1 h2 h3 h4 hf0 e0 e1 e2 e3 e4 e5 e6 e7 e8 hf1
  refine wp_region_held_drew (S := fun W => PO w p E M N s E2 M2 N2 s2 W ∧ W.heap[G]? = some (.cells C TSm (0, 0))) (by kernel_rfl) ⟨PO.drew H3.out.1, H3.out.2⟩ (fun hHeld => ?_)
  refine tk (i := 0) (v := ?_) rfl (by kernel_rfl) (fun _ _ _ h => h) (by rfl) ?_ (by assumption) ?_
  rotate_left
  · (intro W hSw; (refine Sha.yields_row TSm (.tmp 10) ?_ G ?_ TSm C (0, 0) _ hSw.2 Tryz.underlying58 rfl (i32 C HC.out.1)); rfl; rfl)
  try simp only [Act.put, gA, gZ, sA, sZ, sS]
  refine tk (i := 1) (v := ?_) rfl (by kernel_rfl) (fun _ _ _ h => h) (by rfl) ?_ (by assumption) ?_
  rotate_left
  · (intro W hSw; skip; go_simp; try with_reducible rfl)
  try simp only [Act.put, gA, gS, gZ, sA, sZ, sS]
  refine wpAnyH_ready (rs := [2]) (by kernel_rfl) (by simp) ?_
  refine AllReadyH.cons rfl (fun K hK => ?_) AllReadyH.nil
  simp only [gA, gS, gZ]
  rw [if_pos (by rfl)]
  go_simp
  refine hK.out _ _ ⟨PO.call hHeld.1 ((Below.refl _ _).alloc (Nat.le_refl _) _), (Below.heap_alloc _ _ _ (lt_of hHeld.2)).trans hHeld.2⟩ (fun hHeld => ?_)
  clear hK K
  try simp only [Act.put, gA, gS, gZ, sA, sZ, sS]
  refine wpAnyH_ready (rs := [3]) (by kernel_rfl) (by simp) ?_
  refine AllReadyH.cons rfl (fun K hK => ?_) AllReadyH.nil
  simp only [gA, gS, gZ]
  rw [if_pos (by rfl)]
  go_simp
  (refine (HOf.out _ _ (Sha.tab_below HT.out hHeld.1.1.1) (by simp) (by simp)).mono ?_; rintro e w5 ⟨rfl, hb5⟩)
  go_wp2_with fail
  refine hK.out _ _ ⟨PO.call hHeld.1 hb5, (hb5.block _ (lt_of hHeld.2)).trans hHeld.2⟩ (fun hHeld => ?_)
  clear hK K
  try simp only [Act.put, gA, gS, gZ, sA, sZ, sS]
  have hneq := HNe.out
  refine tk (i := 4) (v := ?_) rfl (by kernel_rfl) (fun _ _ _ h => h) (by rfl) ?_ (by assumption) ?_
  rotate_left
  · (intro W hSw; skip; go_simp; try with_reducible rfl)
  try simp only [Act.put, gA, gS, gZ, sA, sZ, sS]
  refine tk (i := 5) (v := ?_) rfl (by kernel_rfl) (fun _ _ _ h => h) (by rfl) ?_ (by assumption) ?_
  rotate_left
  · (intro W hSw; skip; go_simp; try with_reducible rfl)
  try simp only [Act.put, gA, gS, gZ, sA, sZ, sS]
  refine wpAnyH_done (by kernel_rfl) ?_ _
  have H6 := Lib.hid hHeld.1
  clear hHeld hneq hb5 H3
  obtain ⟨hor, hne2⟩ := HX.out
  go_upto_region 7 with fail
  refine wp_region_held_drew (S := PO w p E M N s E2 M2 N2 s2) (by kernel_rfl) (PO.drew H6.out) (fun hHeld => ?_)
  refine tk (i := 0) (v := ?_) rfl (by kernel_rfl) (fun _ _ _ h => h) (by rfl) ?_ (by assumption) ?_
  rotate_left
  · (intro W hSw; have hz := hSw.1.2.1.cells; have hy := hSw.1.2.2.cells; go_simp; try with_reducible rfl)
  try simp only [Act.put, gA, gZ, sA, sZ, sS]
  refine tk (i := 1) (v := ?_) rfl (by kernel_rfl) (fun _ _ _ h => h) (by rfl) ?_ (by assumption) ?_
  rotate_left
  · (intro W hSw; have hz := hSw.1.2.1.cells; have hy := hSw.1.2.2.cells; go_simp; try with_reducible rfl)
  try simp only [Act.put, gA, gS, gZ, sA, sZ, sS]
  refine tk (i := 2) (v := ?_) rfl (by kernel_rfl) (fun _ _ _ h => h) (by rfl) ?_ (by assumption) ?_
  rotate_left
  · (intro W hSw; have hz := hSw.1.2.1.cells; have hy := hSw.1.2.2.cells; go_simp; try with_reducible rfl)
  try simp only [Act.put, gA, gS, gZ, sA, sZ, sS]
  refine tk (i := 3) (v := ?_) rfl (by kernel_rfl) (fun _ _ _ h => h) (by rfl) ?_ (by assumption) ?_
  rotate_left
  · (intro W hSw; have hz := hSw.1.2.1.cells; have hy := hSw.1.2.2.cells; go_simp; try with_reducible rfl)
  try simp only [Act.put, gA, gS, gZ, sA, sZ, sS]
  refine tk (i := 4) (v := ?_) rfl (by kernel_rfl) (fun _ _ _ h => h) (by rfl) ?_ (by assumption) ?_
  rotate_left
  · (intro W hSw; have hz := hSw.1.2.1.cells; have hy := hSw.1.2.2.cells; go_simp; try with_reducible rfl)
  try simp only [Act.put, gA, gS, gZ, sA, sZ, sS]
  refine tk (i := 5) (v := ?_) rfl (by kernel_rfl) (fun _ _ _ h => h) (by rfl) ?_ (by assumption) ?_
  rotate_left
  · (intro W hSw; have hz := hSw.1.2.1.cells; have hy := hSw.1.2.2.cells; go_simp; try with_reducible rfl)
  try simp only [Act.put, gA, gS, gZ, sA, sZ, sS]
  refine tk (i := 6) (v := ?_) rfl (by kernel_rfl) (fun _ _ _ h => h) (by rfl) ?_ (by assumption) ?_
  rotate_left
  · (intro W hSw; have hz := hSw.1.2.1.cells; have hy := hSw.1.2.2.cells; go_simp; try with_reducible rfl)
  try simp only [Act.put, gA, gS, gZ, sA, sZ, sS]
  refine tk (i := 7) (v := ?_) rfl (by kernel_rfl) (fun _ _ _ h => h) (by rfl) ?_ (by assumption) ?_
  rotate_left
  · (intro W hSw; have hz := hSw.1.2.1.cells; have hy := hSw.1.2.2.cells; go_simp; try with_reducible rfl)
  try simp only [Act.put, gA, gS, gZ, sA, sZ, sS]
  refine tk (i := 8) (v := ?_) rfl (by kernel_rfl) (fun _ _ _ h => h) (by rfl) ?_ (by assumption) ?_
  rotate_left
  · (intro W hSw; have hz := hSw.1.2.1.cells; have hy := hSw.1.2.2.cells; go_simp; try with_reducible rfl)
  try simp only [Act.put, gA, gS, gZ, sA, sZ, sS]
  refine tk (i := 9) (v := ?_) rfl (by kernel_rfl) (fun _ _ _ h => h) (by rfl) ?_ (by assumption) ?_
  rotate_left
  · (intro W hSw; have hz := hSw.1.2.1.cells; have hy := hSw.1.2.2.cells; go_simp; try with_reducible rfl)
  try simp only [Act.put, gA, gS, gZ, sA, sZ, sS]
  refine tk (i := 10) (v := ?_) rfl (by kernel_rfl) (fun _ _ _ h => h) (by rfl) ?_ (by assumption) ?_
  rotate_left
  · (intro W hSw; have hz := hSw.1.2.1.cells; have hy := hSw.1.2.2.cells; go_simp; try with_reducible rfl)
  try simp only [Act.put, gA, gS, gZ, sA, sZ, sS]
  refine tk (i := 11) (v := ?_) rfl (by kernel_rfl) (fun _ _ _ h => h) (by rfl) ?_ (by assumption) ?_
  rotate_left
  · (intro W hSw; have hz := hSw.1.2.1.cells; have hy := hSw.1.2.2.cells; go_simp; try with_reducible rfl)
  try simp only [Act.put, gA, gS, gZ, sA, sZ, sS]
  refine tk (i := 12) (v := ?_) rfl (by kernel_rfl) (fun _ _ _ h => h) (by rfl) ?_ (by assumption) ?_
  rotate_left
  · (intro W hSw; have hz := hSw.1.2.1.cells; have hy := hSw.1.2.2.cells; go_simp; try with_reducible rfl)
  try simp only [Act.put, gA, gS, gZ, sA, sZ, sS]
  refine tk (i := 13) (v := ?_) rfl (by kernel_rfl) (fun _ _ _ h => h) (by rfl) ?_ (by assumption) ?_
  rotate_left
  · (intro W hSw; have hz := hSw.1.2.1.cells; have hy := hSw.1.2.2.cells; go_simp; try with_reducible rfl)
  try simp only [Act.put, gA, gS, gZ, sA, sZ, sS]
  refine wpAnyH_done (by kernel_rfl) ?_ _
  have H7 := Lib.hid (PO.drew H6.out)
  clear hHeld H6
  obtain ⟨w7, hw7⟩ : ∃ X, X = w5.drew := ⟨_, rfl⟩
  rw [← hw7] at H7 ⊢
  clear hw7
  go_wp2
  go_ret
  exact ⟨rfl, H7.out.1.1⟩
set_option maxRecDepth 20000 in
set_option maxHeartbeats 4000000 in
theorem ack_un {w : World} {E M N E2 M2 N2 : Nat} {s s2 : St} (p : P5) (a : ByteArray) (hT : Sha.Tab w) (hL : LG w E M N s) (hO : LG w E2 M2 N2 s2) (hop : OpIs p E M N s E2 M2 N2 s2 0) (ha : a.size ≤ 1000000) (hk : (lk p.s s2.ac).isSome = true) (hC2 : sumOf p.s s2.ac = ackP a) (hor : s.o = false) :
    Calls Tryz.prog 12 #[.pointer (some ⟨E, 0, none⟩), pkv p, .string a, .pointer (some ⟨E2, 0, none⟩)] w fun e w' => e = .returned (.int .i64 0) ∧ LG w' E M N (goneS p s) ∧ FrL E M N w w' := by
  obtain ⟨b, hb, hne⟩ := neq_sum (sumOf p.s s2.ac) (ackP a) (sumOf_ok hO.aok) (ackP_ok a)
  have hbv : b = true := hb.2 hC2
  rw [hbv] at hne
  have hof := of_g a ha
  have hlk := fun W (hW : LG W E2 M2 N2 s2) => look_g p.s N2 s2.ac W hW.ack
  have hC := sumOf_ok (k := p.s) hO.aok
  simp only [hk] at hlk
  generalize sumOf p.s s2.ac = C at *
  generalize ackP a = D at *
  have HNe := Lib.hid hne
  have HOf := Lib.hid hof
  clear hne hof hb hbv hC2
  have HLk := Lib.hid hlk
  have HC := Lib.hid hC
  clear hlk hC
  have HX := Lib.hid hor
  clear hor
  have h0 := PO.new (p := p) hL hO
  obtain ⟨V, hV⟩ : ∃ X, X = w.alloc (.cells #[.int .i64 p.c, .int .i64 p.f, .int .u64 p.s, .int .u64 p.t, .string p.d] TPk) := ⟨_, rfl⟩
  rw [← hV] at h0
  have hop1 := hop V (Sha.tab_below hT h0.1.1) h0.1.2.2 h0.2
  have H0 := Lib.hid h0
  have HV := Lib.hid hV
  have HOp := Lib.hid hop1
  have HEl := Lib.hid (And.intro hL.lt (And.intro hL.em (And.intro hL.mn (And.intro hL.cok hL.aok))))
  have HT := Lib.hid hT
  clear h0 hV hop1 hop hL hO hT
  obtain ⟨h0, h1, h2, h3, h4, hf0⟩ := H0.out.1.2.1.cells
  go_enter Tryz.func12, Tryz.ntmps12
  go_upto_region 1 with fail
  rw [← HV.out]
  go_wp2_with fail
  refine (HOp.out).mono ?_
  rintro _ w1 ⟨rfl, b1⟩
  have H1 := Lib.hid (PO.call H0.out b1)
  clear b1 h0 h1 h2 h3 h4 hf0
  obtain ⟨h0, h1, h2, h3, h4, hf0⟩ := H1.out.1.2.1.cells
  obtain ⟨e0, e1, e2, e3, e4, e5, e6, e7, e8, hf1⟩ := H1.out.1.2.2.cells
  go_upto_region 4 with fail
  clear h0 h1 h2 h3 h4 hf0 e0 e1 e2 e3 e4 e5 e6 e7 e8 hf1
  refine wp_region_held_drew (S := PO w p E M N s E2 M2 N2 s2) (by kernel_rfl) (PO.drew H1.out) (fun hHeld => ?_)
  refine tk (i := 0) (v := ?_) rfl (by kernel_rfl) (fun _ _ _ h => h) (by rfl) ?_ (by assumption) ?_
  rotate_left
  · (intro W hSw; have hz := hSw.1.2.1.cells; have hy := hSw.2.cells; have hlk := HLk.out _ hSw.2; go_simp; try with_reducible rfl)
  try simp only [Act.put, gA, gZ, sA, sZ, sS]
  refine tk (i := 1) (v := ?_) rfl (by kernel_rfl) (fun _ _ _ h => h) (by rfl) ?_ (by assumption) ?_
  rotate_left
  · (intro W hSw; have hz := hSw.1.2.1.cells; have hy := hSw.2.cells; have hlk := HLk.out _ hSw.2; go_simp; try with_reducible rfl)
  try simp only [Act.put, gA, gS, gZ, sA, sZ, sS]
  refine tk (i := 2) (v := ?_) rfl (by kernel_rfl) (fun _ _ _ h => h) (by rfl) ?_ (by assumption) ?_
  rotate_left
  · (intro W hSw; have hz := hSw.1.2.1.cells; have hy := hSw.2.cells; have hlk := HLk.out _ hSw.2; go_simp; try with_reducible rfl)
  try simp only [Act.put, gA, gS, gZ, sA, sZ, sS]
  refine tk (i := 3) (v := ?_) rfl (by kernel_rfl) (fun _ _ _ h => h) (by rfl) ?_ (by assumption) ?_
  rotate_left
  · (intro W hSw; have hz := hSw.1.2.1.cells; have hy := hSw.2.cells; have hlk := HLk.out _ hSw.2; go_simp; try with_reducible rfl)
  try simp only [Act.put, gA, gS, gZ, sA, sZ, sS]
  refine tk (i := 4) (v := ?_) rfl (by kernel_rfl) (fun _ _ _ h => h) (by rfl) ?_ (by assumption) ?_
  rotate_left
  · (intro W hSw; have hz := hSw.1.2.1.cells; have hy := hSw.2.cells; have hlk := HLk.out _ hSw.2; go_simp; try with_reducible rfl)
  try simp only [Act.put, gA, gS, gZ, sA, sZ, sS]
  refine tk (i := 5) (v := ?_) rfl (by kernel_rfl) (fun _ _ _ h => h) (by rfl) ?_ (by assumption) ?_
  rotate_left
  · (intro W hSw; have hz := hSw.1.2.1.cells; have hy := hSw.2.cells; have hlk := HLk.out _ hSw.2; go_simp; try with_reducible rfl)
  try simp only [Act.put, gA, gS, gZ, sA, sZ, sS]
  refine tk (i := 6) (v := ?_) rfl (by kernel_rfl) (fun _ _ _ h => h) (by rfl) ?_ (by assumption) ?_
  rotate_left
  · (intro W hSw; have hz := hSw.1.2.1.cells; have hy := hSw.2.cells; have hlk := HLk.out _ hSw.2; go_simp; try with_reducible rfl)
  try simp only [Act.put, gA, gS, gZ, sA, sZ, sS]
  refine tk (i := 7) (v := ?_) rfl (by kernel_rfl) (fun _ _ _ h => h) (by rfl) ?_ (by assumption) ?_
  rotate_left
  · (intro W hSw; have hz := hSw.1.2.1.cells; have hy := hSw.2.cells; have hlk := HLk.out _ hSw.2; go_simp; try with_reducible rfl)
  try simp only [Act.put, gA, gS, gZ, sA, sZ, sS]
  refine tk (i := 8) (v := ?_) rfl (by kernel_rfl) (fun _ _ _ h => h) (by rfl) ?_ (by assumption) ?_
  rotate_left
  · (intro W hSw; have hz := hSw.1.2.1.cells; have hy := hSw.2.cells; have hlk := HLk.out _ hSw.2; go_simp; try with_reducible rfl)
  try simp only [Act.put, gA, gS, gZ, sA, sZ, sS]
  refine tk (i := 9) (v := ?_) rfl (by kernel_rfl) (fun _ _ _ h => h) (by rfl) ?_ (by assumption) ?_
  rotate_left
  · (intro W hSw; have hz := hSw.1.2.1.cells; have hy := hSw.2.cells; have hlk := HLk.out _ hSw.2; go_simp; try with_reducible rfl)
  try simp only [Act.put, gA, gS, gZ, sA, sZ, sS]
  refine wpAnyH_ready (rs := [10]) (by kernel_rfl) (by simp) ?_
  refine AllReadyH.cons rfl (fun K hK => ?_) AllReadyH.nil
  simp only [gA, gS, gZ]
  rw [if_pos (by rfl)]
  go_simp
  refine hK.out _ _ (PO.call hHeld ((Below.refl _ _).alloc (Nat.le_refl _) _)) (fun hHeld => ?_)
  clear hK K
  try simp only [Act.put, gA, gS, gZ, sA, sZ, sS]
  have hst : (storeCells ⟨w1.heap.size, 0, none⟩ C.toList).run Tryz.prog (w1.alloc (.cells #[.int .u8 0, .int .u8 0, .int .u8 0, .int .u8 0, .int .u8 0, .int .u8 0, .int .u8 0, .int .u8 0, .int .u8 0, .int .u8 0, .int .u8 0, .int .u8 0, .int .u8 0, .int .u8 0, .int .u8 0, .int .u8 0, .int .u8 0, .int .u8 0, .int .u8 0, .int .u8 0, .int .u8 0, .int .u8 0, .int .u8 0, .int .u8 0, .int .u8 0, .int .u8 0, .int .u8 0, .int .u8 0, .int .u8 0, .int .u8 0, .int .u8 0, .int .u8 0] TSm)).drew = .ok () (w1.alloc (.cells C TSm)).drew := run_storeCells_new (P := Tryz.prog) w1.drew TSm #[.int .u8 0, .int .u8 0, .int .u8 0, .int .u8 0, .int .u8 0, .int .u8 0, .int .u8 0, .int .u8 0, .int .u8 0, .int .u8 0, .int .u8 0, .int .u8 0, .int .u8 0, .int .u8 0, .int .u8 0, .int .u8 0, .int .u8 0, .int .u8 0, .int .u8 0, .int .u8 0, .int .u8 0, .int .u8 0, .int .u8 0, .int .u8 0, .int .u8 0, .int .u8 0, .int .u8 0, .int .u8 0, .int .u8 0, .int .u8 0, .int .u8 0, .int .u8 0] C (i32 C HC.out.1) (by rw [HC.out.1]; rfl) HC.out.2.1
  have hCz := HC.out.1
  refine wpAnyH_ready (rs := [11]) (by kernel_rfl) (by simp) ?_
  refine AllReadyH.cons rfl (fun K hK => ?_) AllReadyH.nil
  simp only [gA, gS, gZ]
  rw [if_pos (by rfl)]
  go_simp
  refine hK.out _ _ (PO.call (PO.drew H1.out) ((Below.refl _ _).alloc (Nat.le_refl _) _)) (fun hHeld => ?_)
  clear hK K
  try simp only [Act.put, gA, gS, gZ, sA, sZ, sS]
  refine tk (i := 12) (v := ?_) rfl (by kernel_rfl) (fun _ _ _ h => h) (by rfl) ?_ (by assumption) ?_
  rotate_left
  · (intro W hSw; have hz := hSw.1.2.1.cells; have hy := hSw.2.cells; have hlk := HLk.out _ hSw.2; go_simp; try with_reducible rfl)
  try simp only [Act.put, gA, gS, gZ, sA, sZ, sS]
  refine wpAnyH_done (by kernel_rfl) ?_ _
  have H3 : Hid (PO w p E M N s E2 M2 N2 s2 ((w1.alloc (.cells C TSm)).drew) ∧ (w1.alloc (.cells C TSm)).drew.heap[w1.heap.size]? = some (.cells C TSm (0, 0))) := Lib.hid ⟨hHeld, heap_alloc_new w1.drew _⟩
  obtain ⟨w3, hw3⟩ : ∃ X, X = (w1.alloc (.cells C TSm)).drew := ⟨_, rfl⟩
  obtain ⟨G, hG⟩ : ∃ X, X = w1.heap.size := ⟨_, rfl⟩
  rw [← hw3] at H3 ⊢
  rw [← hG] at H3 ⊢
  clear hw3 hG hst hHeld H1
  obtain ⟨h0, h1, h2, h3, h4, hf0⟩ := H3.out.1.1.2.1.cells
  obtain ⟨e0, e1, e2, e3, e4, e5, e6, e7, e8, hf1⟩ := H3.out.1.1.2.2.cells
  go_upto_region 6 with fail
  clear h0 h1 h2 h3 h4 hf0 e0 e1 e2 e3 e4 e5 e6 e7 e8 hf1
  refine wp_region_held_drew (S := fun W => PO w p E M N s E2 M2 N2 s2 W ∧ W.heap[G]? = some (.cells C TSm (0, 0))) (by kernel_rfl) ⟨PO.drew H3.out.1, H3.out.2⟩ (fun hHeld => ?_)
  refine tk (i := 0) (v := ?_) rfl (by kernel_rfl) (fun _ _ _ h => h) (by rfl) ?_ (by assumption) ?_
  rotate_left
  · (intro W hSw; (refine Sha.yields_row TSm (.tmp 10) ?_ G ?_ TSm C (0, 0) _ hSw.2 Tryz.underlying58 rfl (i32 C HC.out.1)); rfl; rfl)
  try simp only [Act.put, gA, gZ, sA, sZ, sS]
  refine tk (i := 1) (v := ?_) rfl (by kernel_rfl) (fun _ _ _ h => h) (by rfl) ?_ (by assumption) ?_
  rotate_left
  · (intro W hSw; skip; go_simp; try with_reducible rfl)
  try simp only [Act.put, gA, gS, gZ, sA, sZ, sS]
  refine wpAnyH_ready (rs := [2]) (by kernel_rfl) (by simp) ?_
  refine AllReadyH.cons rfl (fun K hK => ?_) AllReadyH.nil
  simp only [gA, gS, gZ]
  rw [if_pos (by rfl)]
  go_simp
  refine hK.out _ _ ⟨PO.call hHeld.1 ((Below.refl _ _).alloc (Nat.le_refl _) _), (Below.heap_alloc _ _ _ (lt_of hHeld.2)).trans hHeld.2⟩ (fun hHeld => ?_)
  clear hK K
  try simp only [Act.put, gA, gS, gZ, sA, sZ, sS]
  refine wpAnyH_ready (rs := [3]) (by kernel_rfl) (by simp) ?_
  refine AllReadyH.cons rfl (fun K hK => ?_) AllReadyH.nil
  simp only [gA, gS, gZ]
  rw [if_pos (by rfl)]
  go_simp
  (refine (HOf.out _ _ (Sha.tab_below HT.out hHeld.1.1.1) (by simp) (by simp)).mono ?_; rintro e w5 ⟨rfl, hb5⟩)
  go_wp2_with fail
  refine hK.out _ _ ⟨PO.call hHeld.1 hb5, (hb5.block _ (lt_of hHeld.2)).trans hHeld.2⟩ (fun hHeld => ?_)
  clear hK K
  try simp only [Act.put, gA, gS, gZ, sA, sZ, sS]
  have hneq := HNe.out
  refine tk (i := 4) (v := ?_) rfl (by kernel_rfl) (fun _ _ _ h => h) (by rfl) ?_ (by assumption) ?_
  rotate_left
  · (intro W hSw; skip; go_simp; try with_reducible rfl)
  try simp only [Act.put, gA, gS, gZ, sA, sZ, sS]
  refine tk (i := 5) (v := ?_) rfl (by kernel_rfl) (fun _ _ _ h => h) (by rfl) ?_ (by assumption) ?_
  rotate_left
  · (intro W hSw; skip; go_simp; try with_reducible rfl)
  try simp only [Act.put, gA, gS, gZ, sA, sZ, sS]
  refine wpAnyH_done (by kernel_rfl) ?_ _
  have H6 := Lib.hid hHeld.1
  clear hHeld hneq hb5 H3
  have hor := HX.out
  go_upto_region 7 with fail
  refine wp_region_held_drew (S := PO w p E M N s E2 M2 N2 s2) (by kernel_rfl) (PO.drew H6.out) (fun hHeld => ?_)
  refine tk (i := 0) (v := ?_) rfl (by kernel_rfl) (fun _ _ _ h => h) (by rfl) ?_ (by assumption) ?_
  rotate_left
  · (intro W hSw; have hz := hSw.1.2.1.cells; have hy := hSw.1.2.2.cells; go_simp; try with_reducible rfl)
  try simp only [Act.put, gA, gZ, sA, sZ, sS]
  refine tk (i := 1) (v := ?_) rfl (by kernel_rfl) (fun _ _ _ h => h) (by rfl) ?_ (by assumption) ?_
  rotate_left
  · (intro W hSw; have hz := hSw.1.2.1.cells; have hy := hSw.1.2.2.cells; go_simp; try with_reducible rfl)
  try simp only [Act.put, gA, gS, gZ, sA, sZ, sS]
  refine tk (i := 2) (v := ?_) rfl (by kernel_rfl) (fun _ _ _ h => h) (by rfl) ?_ (by assumption) ?_
  rotate_left
  · (intro W hSw; have hz := hSw.1.2.1.cells; have hy := hSw.1.2.2.cells; go_simp; try with_reducible rfl)
  try simp only [Act.put, gA, gS, gZ, sA, sZ, sS]
  refine tk (i := 3) (v := ?_) rfl (by kernel_rfl) (fun _ _ _ h => h) (by rfl) ?_ (by assumption) ?_
  rotate_left
  · (intro W hSw; have hz := hSw.1.2.1.cells; have hy := hSw.1.2.2.cells; go_simp; try with_reducible rfl)
  try simp only [Act.put, gA, gS, gZ, sA, sZ, sS]
  refine tk (i := 4) (v := ?_) rfl (by kernel_rfl) (fun _ _ _ h => h) (by rfl) ?_ (by assumption) ?_
  rotate_left
  · (intro W hSw; have hz := hSw.1.2.1.cells; have hy := hSw.1.2.2.cells; go_simp; try with_reducible rfl)
  try simp only [Act.put, gA, gS, gZ, sA, sZ, sS]
  refine tn (i := 5) rfl (by kernel_rfl) (fun _ _ _ h => h) (by rfl) rfl (by assumption) ?_
  try simp only [Act.put, gA, gS, gZ, sA, sZ, sS]
  refine tn (i := 6) rfl (by kernel_rfl) (fun _ _ _ h => h) (by rfl) rfl (by assumption) ?_
  try simp only [Act.put, gA, gS, gZ, sA, sZ, sS]
  refine tn (i := 7) rfl (by kernel_rfl) (fun _ _ _ h => h) (by rfl) rfl (by assumption) ?_
  try simp only [Act.put, gA, gS, gZ, sA, sZ, sS]
  refine tn (i := 8) rfl (by kernel_rfl) (fun _ _ _ h => h) (by rfl) rfl (by assumption) ?_
  try simp only [Act.put, gA, gS, gZ, sA, sZ, sS]
  refine tn (i := 9) rfl (by kernel_rfl) (fun _ _ _ h => h) (by rfl) rfl (by assumption) ?_
  try simp only [Act.put, gA, gS, gZ, sA, sZ, sS]
  refine tn (i := 10) rfl (by kernel_rfl) (fun _ _ _ h => h) (by rfl) rfl (by assumption) ?_
  try simp only [Act.put, gA, gS, gZ, sA, sZ, sS]
  refine tn (i := 11) rfl (by kernel_rfl) (fun _ _ _ h => h) (by rfl) rfl (by assumption) ?_
  try simp only [Act.put, gA, gS, gZ, sA, sZ, sS]
  refine tk (i := 12) (v := ?_) rfl (by kernel_rfl) (fun _ _ _ h => h) (by rfl) ?_ (by assumption) ?_
  rotate_left
  · (intro W hSw; have hz := hSw.1.2.1.cells; have hy := hSw.1.2.2.cells; go_simp; try with_reducible rfl)
  try simp only [Act.put, gA, gS, gZ, sA, sZ, sS]
  refine tk (i := 13) (v := ?_) rfl (by kernel_rfl) (fun _ _ _ h => h) (by rfl) ?_ (by assumption) ?_
  rotate_left
  · (intro W hSw; have hz := hSw.1.2.1.cells; have hy := hSw.1.2.2.cells; go_simp; try with_reducible rfl)
  try simp only [Act.put, gA, gS, gZ, sA, sZ, sS]
  refine wpAnyH_done (by kernel_rfl) ?_ _
  have H7 := Lib.hid (PO.drew H6.out)
  clear hHeld H6
  obtain ⟨w7, hw7⟩ : ∃ X, X = w5.drew := ⟨_, rfl⟩
  rw [← hw7] at H7 ⊢
  clear hw7
  obtain ⟨h0, h1, h2, h3, h4, hf0⟩ := H7.out.1.2.1.cells
  obtain ⟨e0, e1, e2, e3, e4, e5, e6, e7, e8, hf1⟩ := H7.out.1.2.2.cells
  go_upto_region 12 with fail
  clear h0 h1 h2 h3 h4 hf0 e0 e1 e2 e3 e4 e5 e6 e7 e8 hf1 hor
  obtain ⟨wd, hdel, hmg, hon⟩ := del_run ks_ok ⟨#[]⟩ p.s M s.cm 0 w7.drew ((H7.out.1.2.2).com.below (Below.refl _ _).drew)
  have hdel' : (Builtin.delete_ #[TMp, 31] 0 #[.map (some M), .int .u64 p.s]).run Tryz.prog w7.drew = .ok (.tuple #[]) wd := hdel
  have HG := Lib.hid hmg
  have HO := Lib.hid hon
  have HZ : Hid (PD w p E M N s w7) := Lib.hid ⟨FrL.of_below H7.out.1.1, H7.out.1.2.1, (H7.out.1.2.2).box, (H7.out.1.2.2).ack⟩
  clear hdel hmg hon
  refine wp_region_held_drew (S := PD w p E M N s) (by kernel_rfl) (PD.drew HZ.out) (fun hHeld => ?_)
  refine tk (i := 0) (v := ?_) rfl (by kernel_rfl) (fun _ _ _ h => h) (by rfl) ?_ (by assumption) ?_
  rotate_left
  · (intro W hSw; have hz := hSw.2.1.cells; obtain ⟨e2, e3, e6, e7, hf1⟩ := hSw.cells; go_simp; try with_reducible rfl)
  try simp only [Act.put, gA, gZ, sA, sZ, sS]
  refine tk (i := 1) (v := ?_) rfl (by kernel_rfl) (fun _ _ _ h => h) (by rfl) ?_ (by assumption) ?_
  rotate_left
  · (intro W hSw; have hz := hSw.2.1.cells; obtain ⟨e2, e3, e6, e7, hf1⟩ := hSw.cells; go_simp; try with_reducible rfl)
  try simp only [Act.put, gA, gS, gZ, sA, sZ, sS]
  refine tk (i := 2) (v := ?_) rfl (by kernel_rfl) (fun _ _ _ h => h) (by rfl) ?_ (by assumption) ?_
  rotate_left
  · (intro W hSw; have hz := hSw.2.1.cells; obtain ⟨e2, e3, e6, e7, hf1⟩ := hSw.cells; go_simp; try with_reducible rfl)
  try simp only [Act.put, gA, gS, gZ, sA, sZ, sS]
  refine tk (i := 3) (v := ?_) rfl (by kernel_rfl) (fun _ _ _ h => h) (by rfl) ?_ (by assumption) ?_
  rotate_left
  · (intro W hSw; have hz := hSw.2.1.cells; obtain ⟨e2, e3, e6, e7, hf1⟩ := hSw.cells; go_simp; try with_reducible rfl)
  try simp only [Act.put, gA, gS, gZ, sA, sZ, sS]
  refine tk (i := 4) (v := ?_) rfl (by kernel_rfl) (fun _ _ _ h => h) (by rfl) ?_ (by assumption) ?_
  rotate_left
  · (intro W hSw; have hz := hSw.2.1.cells; obtain ⟨e2, e3, e6, e7, hf1⟩ := hSw.cells; go_simp; try with_reducible rfl)
  try simp only [Act.put, gA, gS, gZ, sA, sZ, sS]
  refine tk (i := 5) (v := ?_) rfl (by kernel_rfl) (fun _ _ _ h => h) (by rfl) ?_ (by assumption) ?_
  rotate_left
  · (intro W hSw; have hz := hSw.2.1.cells; obtain ⟨e2, e3, e6, e7, hf1⟩ := hSw.cells; go_simp; try with_reducible rfl)
  try simp only [Act.put, gA, gS, gZ, sA, sZ, sS]
  refine wpAnyH_ready (rs := [6]) (by kernel_rfl) (by simp) ?_
  refine AllReadyH.cons rfl (fun K hK => ?_) AllReadyH.nil
  simp only [gA, gS, gZ]
  rw [if_pos (by rfl)]
  go_simp
  refine hK.out _ _ (PD.on hHeld HO.out HEl.out.1.2.1 HEl.out.2.1 HEl.out.2.2.1) (fun hHeld => ?_)
  clear hK K
  try simp only [Act.put, gA, gS, gZ, sA, sZ, sS]
  refine wpAnyH_done (by kernel_rfl) ?_ _
  have H5 := Lib.hid hHeld
  clear hdel' hHeld HZ
  go_wp2
  go_ret
  exact ⟨rfl, ⟨H5.out.2.2.1, HG.out, H5.out.2.2.2, HEl.out.2.2.1, fun x hx => HEl.out.2.2.2.1 x (mem_del hx), HEl.out.2.2.2.2⟩, H5.out.1⟩
set_option maxRecDepth 20000 in
set_option maxHeartbeats 4000000 in
theorem ack_or {w : World} {E M N E2 M2 N2 : Nat} {s s2 : St} (p : P5) (a : ByteArray) (hT : Sha.Tab w) (hL : LG w E M N s) (hO : LG w E2 M2 N2 s2) (hop : OpIs p E M N s E2 M2 N2 s2 0) (ha : a.size ≤ 1000000) (hk : (lk p.s s2.ac).isSome = true) (hC2 : sumOf p.s s2.ac = ackP a) (hor : s.o = true) (hne2 : (p.s != s.ak) = false) (hk0 : 0 ≤ s.ak) (hk1 : s.ak + 1 < 18446744073709551616) :
    Calls Tryz.prog 12 #[.pointer (some ⟨E, 0, none⟩), pkv p, .string a, .pointer (some ⟨E2, 0, none⟩)] w fun e w' => e = .returned (.int .i64 0) ∧ LG w' E M N (ackS p s) ∧ FrL E M N w w' := by
  obtain ⟨b, hb, hne⟩ := neq_sum (sumOf p.s s2.ac) (ackP a) (sumOf_ok hO.aok) (ackP_ok a)
  have hbv : b = true := hb.2 hC2
  rw [hbv] at hne
  have hof := of_g a ha
  have hlk := fun W (hW : LG W E2 M2 N2 s2) => look_g p.s N2 s2.ac W hW.ack
  have hC := sumOf_ok (k := p.s) hO.aok
  simp only [hk] at hlk
  generalize sumOf p.s s2.ac = C at *
  generalize ackP a = D at *
  have HNe := Lib.hid hne
  have HOf := Lib.hid hof
  clear hne hof hb hbv hC2
  have HLk := Lib.hid hlk
  have HC := Lib.hid hC
  clear hlk hC
  obtain ⟨y, hy⟩ : ∃ y, y = s.ak + 1 := ⟨_, rfl⟩
  have hw : IntKind.u64.wrap (s.ak + 1) = y := by rw [hy]; exact IntWalk.u64_in _ ⟨by omega, by omega⟩
  have HX := Lib.hid (And.intro hor hne2)
  have HY := Lib.hid (And.intro hy hw)
  clear hor hne2 hk0 hk1 hy hw
  have h0 := PO.new (p := p) hL hO
  obtain ⟨V, hV⟩ : ∃ X, X = w.alloc (.cells #[.int .i64 p.c, .int .i64 p.f, .int .u64 p.s, .int .u64 p.t, .string p.d] TPk) := ⟨_, rfl⟩
  rw [← hV] at h0
  have hop1 := hop V (Sha.tab_below hT h0.1.1) h0.1.2.2 h0.2
  have H0 := Lib.hid h0
  have HV := Lib.hid hV
  have HOp := Lib.hid hop1
  have HEl := Lib.hid (And.intro hL.lt (And.intro hL.em (And.intro hL.mn (And.intro hL.cok hL.aok))))
  have HT := Lib.hid hT
  clear h0 hV hop1 hop hL hO hT
  obtain ⟨h0, h1, h2, h3, h4, hf0⟩ := H0.out.1.2.1.cells
  go_enter Tryz.func12, Tryz.ntmps12
  go_upto_region 1 with fail
  rw [← HV.out]
  go_wp2_with fail
  refine (HOp.out).mono ?_
  rintro _ w1 ⟨rfl, b1⟩
  have H1 := Lib.hid (PO.call H0.out b1)
  clear b1 h0 h1 h2 h3 h4 hf0
  obtain ⟨h0, h1, h2, h3, h4, hf0⟩ := H1.out.1.2.1.cells
  obtain ⟨e0, e1, e2, e3, e4, e5, e6, e7, e8, hf1⟩ := H1.out.1.2.2.cells
  go_upto_region 4 with fail
  clear h0 h1 h2 h3 h4 hf0 e0 e1 e2 e3 e4 e5 e6 e7 e8 hf1
  refine wp_region_held_drew (S := PO w p E M N s E2 M2 N2 s2) (by kernel_rfl) (PO.drew H1.out) (fun hHeld => ?_)
  refine tk (i := 0) (v := ?_) rfl (by kernel_rfl) (fun _ _ _ h => h) (by rfl) ?_ (by assumption) ?_
  rotate_left
  · (intro W hSw; have hz := hSw.1.2.1.cells; have hy := hSw.2.cells; have hlk := HLk.out _ hSw.2; go_simp; try with_reducible rfl)
  try simp only [Act.put, gA, gZ, sA, sZ, sS]
  refine tk (i := 1) (v := ?_) rfl (by kernel_rfl) (fun _ _ _ h => h) (by rfl) ?_ (by assumption) ?_
  rotate_left
  · (intro W hSw; have hz := hSw.1.2.1.cells; have hy := hSw.2.cells; have hlk := HLk.out _ hSw.2; go_simp; try with_reducible rfl)
  try simp only [Act.put, gA, gS, gZ, sA, sZ, sS]
  refine tk (i := 2) (v := ?_) rfl (by kernel_rfl) (fun _ _ _ h => h) (by rfl) ?_ (by assumption) ?_
  rotate_left
  · (intro W hSw; have hz := hSw.1.2.1.cells; have hy := hSw.2.cells; have hlk := HLk.out _ hSw.2; go_simp; try with_reducible rfl)
  try simp only [Act.put, gA, gS, gZ, sA, sZ, sS]
  refine tk (i := 3) (v := ?_) rfl (by kernel_rfl) (fun _ _ _ h => h) (by rfl) ?_ (by assumption) ?_
  rotate_left
  · (intro W hSw; have hz := hSw.1.2.1.cells; have hy := hSw.2.cells; have hlk := HLk.out _ hSw.2; go_simp; try with_reducible rfl)
  try simp only [Act.put, gA, gS, gZ, sA, sZ, sS]
  refine tk (i := 4) (v := ?_) rfl (by kernel_rfl) (fun _ _ _ h => h) (by rfl) ?_ (by assumption) ?_
  rotate_left
  · (intro W hSw; have hz := hSw.1.2.1.cells; have hy := hSw.2.cells; have hlk := HLk.out _ hSw.2; go_simp; try with_reducible rfl)
  try simp only [Act.put, gA, gS, gZ, sA, sZ, sS]
  refine tk (i := 5) (v := ?_) rfl (by kernel_rfl) (fun _ _ _ h => h) (by rfl) ?_ (by assumption) ?_
  rotate_left
  · (intro W hSw; have hz := hSw.1.2.1.cells; have hy := hSw.2.cells; have hlk := HLk.out _ hSw.2; go_simp; try with_reducible rfl)
  try simp only [Act.put, gA, gS, gZ, sA, sZ, sS]
  refine tk (i := 6) (v := ?_) rfl (by kernel_rfl) (fun _ _ _ h => h) (by rfl) ?_ (by assumption) ?_
  rotate_left
  · (intro W hSw; have hz := hSw.1.2.1.cells; have hy := hSw.2.cells; have hlk := HLk.out _ hSw.2; go_simp; try with_reducible rfl)
  try simp only [Act.put, gA, gS, gZ, sA, sZ, sS]
  refine tk (i := 7) (v := ?_) rfl (by kernel_rfl) (fun _ _ _ h => h) (by rfl) ?_ (by assumption) ?_
  rotate_left
  · (intro W hSw; have hz := hSw.1.2.1.cells; have hy := hSw.2.cells; have hlk := HLk.out _ hSw.2; go_simp; try with_reducible rfl)
  try simp only [Act.put, gA, gS, gZ, sA, sZ, sS]
  refine tk (i := 8) (v := ?_) rfl (by kernel_rfl) (fun _ _ _ h => h) (by rfl) ?_ (by assumption) ?_
  rotate_left
  · (intro W hSw; have hz := hSw.1.2.1.cells; have hy := hSw.2.cells; have hlk := HLk.out _ hSw.2; go_simp; try with_reducible rfl)
  try simp only [Act.put, gA, gS, gZ, sA, sZ, sS]
  refine tk (i := 9) (v := ?_) rfl (by kernel_rfl) (fun _ _ _ h => h) (by rfl) ?_ (by assumption) ?_
  rotate_left
  · (intro W hSw; have hz := hSw.1.2.1.cells; have hy := hSw.2.cells; have hlk := HLk.out _ hSw.2; go_simp; try with_reducible rfl)
  try simp only [Act.put, gA, gS, gZ, sA, sZ, sS]
  refine wpAnyH_ready (rs := [10]) (by kernel_rfl) (by simp) ?_
  refine AllReadyH.cons rfl (fun K hK => ?_) AllReadyH.nil
  simp only [gA, gS, gZ]
  rw [if_pos (by rfl)]
  go_simp
  refine hK.out _ _ (PO.call hHeld ((Below.refl _ _).alloc (Nat.le_refl _) _)) (fun hHeld => ?_)
  clear hK K
  try simp only [Act.put, gA, gS, gZ, sA, sZ, sS]
  have hst : (storeCells ⟨w1.heap.size, 0, none⟩ C.toList).run Tryz.prog (w1.alloc (.cells #[.int .u8 0, .int .u8 0, .int .u8 0, .int .u8 0, .int .u8 0, .int .u8 0, .int .u8 0, .int .u8 0, .int .u8 0, .int .u8 0, .int .u8 0, .int .u8 0, .int .u8 0, .int .u8 0, .int .u8 0, .int .u8 0, .int .u8 0, .int .u8 0, .int .u8 0, .int .u8 0, .int .u8 0, .int .u8 0, .int .u8 0, .int .u8 0, .int .u8 0, .int .u8 0, .int .u8 0, .int .u8 0, .int .u8 0, .int .u8 0, .int .u8 0, .int .u8 0] TSm)).drew = .ok () (w1.alloc (.cells C TSm)).drew := run_storeCells_new (P := Tryz.prog) w1.drew TSm #[.int .u8 0, .int .u8 0, .int .u8 0, .int .u8 0, .int .u8 0, .int .u8 0, .int .u8 0, .int .u8 0, .int .u8 0, .int .u8 0, .int .u8 0, .int .u8 0, .int .u8 0, .int .u8 0, .int .u8 0, .int .u8 0, .int .u8 0, .int .u8 0, .int .u8 0, .int .u8 0, .int .u8 0, .int .u8 0, .int .u8 0, .int .u8 0, .int .u8 0, .int .u8 0, .int .u8 0, .int .u8 0, .int .u8 0, .int .u8 0, .int .u8 0, .int .u8 0] C (i32 C HC.out.1) (by rw [HC.out.1]; rfl) HC.out.2.1
  have hCz := HC.out.1
  refine wpAnyH_ready (rs := [11]) (by kernel_rfl) (by simp) ?_
  refine AllReadyH.cons rfl (fun K hK => ?_) AllReadyH.nil
  simp only [gA, gS, gZ]
  rw [if_pos (by rfl)]
  go_simp
  refine hK.out _ _ (PO.call (PO.drew H1.out) ((Below.refl _ _).alloc (Nat.le_refl _) _)) (fun hHeld => ?_)
  clear hK K
  try simp only [Act.put, gA, gS, gZ, sA, sZ, sS]
  refine tk (i := 12) (v := ?_) rfl (by kernel_rfl) (fun _ _ _ h => h) (by rfl) ?_ (by assumption) ?_
  rotate_left
  · (intro W hSw; have hz := hSw.1.2.1.cells; have hy := hSw.2.cells; have hlk := HLk.out _ hSw.2; go_simp; try with_reducible rfl)
  try simp only [Act.put, gA, gS, gZ, sA, sZ, sS]
  refine wpAnyH_done (by kernel_rfl) ?_ _
  have H3 : Hid (PO w p E M N s E2 M2 N2 s2 ((w1.alloc (.cells C TSm)).drew) ∧ (w1.alloc (.cells C TSm)).drew.heap[w1.heap.size]? = some (.cells C TSm (0, 0))) := Lib.hid ⟨hHeld, heap_alloc_new w1.drew _⟩
  obtain ⟨w3, hw3⟩ : ∃ X, X = (w1.alloc (.cells C TSm)).drew := ⟨_, rfl⟩
  obtain ⟨G, hG⟩ : ∃ X, X = w1.heap.size := ⟨_, rfl⟩
  rw [← hw3] at H3 ⊢
  rw [← hG] at H3 ⊢
  clear hw3 hG hst hHeld H1
  obtain ⟨h0, h1, h2, h3, h4, hf0⟩ := H3.out.1.1.2.1.cells
  obtain ⟨e0, e1, e2, e3, e4, e5, e6, e7, e8, hf1⟩ := H3.out.1.1.2.2.cells
  go_upto_region 6 with fail
  clear h0 h1 h2 h3 h4 hf0 e0 e1 e2 e3 e4 e5 e6 e7 e8 hf1
  refine wp_region_held_drew (S := fun W => PO w p E M N s E2 M2 N2 s2 W ∧ W.heap[G]? = some (.cells C TSm (0, 0))) (by kernel_rfl) ⟨PO.drew H3.out.1, H3.out.2⟩ (fun hHeld => ?_)
  refine tk (i := 0) (v := ?_) rfl (by kernel_rfl) (fun _ _ _ h => h) (by rfl) ?_ (by assumption) ?_
  rotate_left
  · (intro W hSw; (refine Sha.yields_row TSm (.tmp 10) ?_ G ?_ TSm C (0, 0) _ hSw.2 Tryz.underlying58 rfl (i32 C HC.out.1)); rfl; rfl)
  try simp only [Act.put, gA, gZ, sA, sZ, sS]
  refine tk (i := 1) (v := ?_) rfl (by kernel_rfl) (fun _ _ _ h => h) (by rfl) ?_ (by assumption) ?_
  rotate_left
  · (intro W hSw; skip; go_simp; try with_reducible rfl)
  try simp only [Act.put, gA, gS, gZ, sA, sZ, sS]
  refine wpAnyH_ready (rs := [2]) (by kernel_rfl) (by simp) ?_
  refine AllReadyH.cons rfl (fun K hK => ?_) AllReadyH.nil
  simp only [gA, gS, gZ]
  rw [if_pos (by rfl)]
  go_simp
  refine hK.out _ _ ⟨PO.call hHeld.1 ((Below.refl _ _).alloc (Nat.le_refl _) _), (Below.heap_alloc _ _ _ (lt_of hHeld.2)).trans hHeld.2⟩ (fun hHeld => ?_)
  clear hK K
  try simp only [Act.put, gA, gS, gZ, sA, sZ, sS]
  refine wpAnyH_ready (rs := [3]) (by kernel_rfl) (by simp) ?_
  refine AllReadyH.cons rfl (fun K hK => ?_) AllReadyH.nil
  simp only [gA, gS, gZ]
  rw [if_pos (by rfl)]
  go_simp
  (refine (HOf.out _ _ (Sha.tab_below HT.out hHeld.1.1.1) (by simp) (by simp)).mono ?_; rintro e w5 ⟨rfl, hb5⟩)
  go_wp2_with fail
  refine hK.out _ _ ⟨PO.call hHeld.1 hb5, (hb5.block _ (lt_of hHeld.2)).trans hHeld.2⟩ (fun hHeld => ?_)
  clear hK K
  try simp only [Act.put, gA, gS, gZ, sA, sZ, sS]
  have hneq := HNe.out
  refine tk (i := 4) (v := ?_) rfl (by kernel_rfl) (fun _ _ _ h => h) (by rfl) ?_ (by assumption) ?_
  rotate_left
  · (intro W hSw; skip; go_simp; try with_reducible rfl)
  try simp only [Act.put, gA, gS, gZ, sA, sZ, sS]
  refine tk (i := 5) (v := ?_) rfl (by kernel_rfl) (fun _ _ _ h => h) (by rfl) ?_ (by assumption) ?_
  rotate_left
  · (intro W hSw; skip; go_simp; try with_reducible rfl)
  try simp only [Act.put, gA, gS, gZ, sA, sZ, sS]
  refine wpAnyH_done (by kernel_rfl) ?_ _
  have H6 := Lib.hid hHeld.1
  clear hHeld hneq hb5 H3
  obtain ⟨hor, hne2⟩ := HX.out
  go_upto_region 7 with fail
  refine wp_region_held_drew (S := PO w p E M N s E2 M2 N2 s2) (by kernel_rfl) (PO.drew H6.out) (fun hHeld => ?_)
  refine tk (i := 0) (v := ?_) rfl (by kernel_rfl) (fun _ _ _ h => h) (by rfl) ?_ (by assumption) ?_
  rotate_left
  · (intro W hSw; have hz := hSw.1.2.1.cells; have hy := hSw.1.2.2.cells; go_simp; try with_reducible rfl)
  try simp only [Act.put, gA, gZ, sA, sZ, sS]
  refine tk (i := 1) (v := ?_) rfl (by kernel_rfl) (fun _ _ _ h => h) (by rfl) ?_ (by assumption) ?_
  rotate_left
  · (intro W hSw; have hz := hSw.1.2.1.cells; have hy := hSw.1.2.2.cells; go_simp; try with_reducible rfl)
  try simp only [Act.put, gA, gS, gZ, sA, sZ, sS]
  refine tk (i := 2) (v := ?_) rfl (by kernel_rfl) (fun _ _ _ h => h) (by rfl) ?_ (by assumption) ?_
  rotate_left
  · (intro W hSw; have hz := hSw.1.2.1.cells; have hy := hSw.1.2.2.cells; go_simp; try with_reducible rfl)
  try simp only [Act.put, gA, gS, gZ, sA, sZ, sS]
  refine tk (i := 3) (v := ?_) rfl (by kernel_rfl) (fun _ _ _ h => h) (by rfl) ?_ (by assumption) ?_
  rotate_left
  · (intro W hSw; have hz := hSw.1.2.1.cells; have hy := hSw.1.2.2.cells; go_simp; try with_reducible rfl)
  try simp only [Act.put, gA, gS, gZ, sA, sZ, sS]
  refine tk (i := 4) (v := ?_) rfl (by kernel_rfl) (fun _ _ _ h => h) (by rfl) ?_ (by assumption) ?_
  rotate_left
  · (intro W hSw; have hz := hSw.1.2.1.cells; have hy := hSw.1.2.2.cells; go_simp; try with_reducible rfl)
  try simp only [Act.put, gA, gS, gZ, sA, sZ, sS]
  refine tk (i := 5) (v := ?_) rfl (by kernel_rfl) (fun _ _ _ h => h) (by rfl) ?_ (by assumption) ?_
  rotate_left
  · (intro W hSw; have hz := hSw.1.2.1.cells; have hy := hSw.1.2.2.cells; go_simp; try with_reducible rfl)
  try simp only [Act.put, gA, gS, gZ, sA, sZ, sS]
  refine tk (i := 6) (v := ?_) rfl (by kernel_rfl) (fun _ _ _ h => h) (by rfl) ?_ (by assumption) ?_
  rotate_left
  · (intro W hSw; have hz := hSw.1.2.1.cells; have hy := hSw.1.2.2.cells; go_simp; try with_reducible rfl)
  try simp only [Act.put, gA, gS, gZ, sA, sZ, sS]
  refine tk (i := 7) (v := ?_) rfl (by kernel_rfl) (fun _ _ _ h => h) (by rfl) ?_ (by assumption) ?_
  rotate_left
  · (intro W hSw; have hz := hSw.1.2.1.cells; have hy := hSw.1.2.2.cells; go_simp; try with_reducible rfl)
  try simp only [Act.put, gA, gS, gZ, sA, sZ, sS]
  refine tk (i := 8) (v := ?_) rfl (by kernel_rfl) (fun _ _ _ h => h) (by rfl) ?_ (by assumption) ?_
  rotate_left
  · (intro W hSw; have hz := hSw.1.2.1.cells; have hy := hSw.1.2.2.cells; go_simp; try with_reducible rfl)
  try simp only [Act.put, gA, gS, gZ, sA, sZ, sS]
  refine tk (i := 9) (v := ?_) rfl (by kernel_rfl) (fun _ _ _ h => h) (by rfl) ?_ (by assumption) ?_
  rotate_left
  · (intro W hSw; have hz := hSw.1.2.1.cells; have hy := hSw.1.2.2.cells; go_simp; try with_reducible rfl)
  try simp only [Act.put, gA, gS, gZ, sA, sZ, sS]
  refine tk (i := 10) (v := ?_) rfl (by kernel_rfl) (fun _ _ _ h => h) (by rfl) ?_ (by assumption) ?_
  rotate_left
  · (intro W hSw; have hz := hSw.1.2.1.cells; have hy := hSw.1.2.2.cells; go_simp; try with_reducible rfl)
  try simp only [Act.put, gA, gS, gZ, sA, sZ, sS]
  refine tk (i := 11) (v := ?_) rfl (by kernel_rfl) (fun _ _ _ h => h) (by rfl) ?_ (by assumption) ?_
  rotate_left
  · (intro W hSw; have hz := hSw.1.2.1.cells; have hy := hSw.1.2.2.cells; go_simp; try with_reducible rfl)
  try simp only [Act.put, gA, gS, gZ, sA, sZ, sS]
  refine tk (i := 12) (v := ?_) rfl (by kernel_rfl) (fun _ _ _ h => h) (by rfl) ?_ (by assumption) ?_
  rotate_left
  · (intro W hSw; have hz := hSw.1.2.1.cells; have hy := hSw.1.2.2.cells; go_simp; try with_reducible rfl)
  try simp only [Act.put, gA, gS, gZ, sA, sZ, sS]
  refine tk (i := 13) (v := ?_) rfl (by kernel_rfl) (fun _ _ _ h => h) (by rfl) ?_ (by assumption) ?_
  rotate_left
  · (intro W hSw; have hz := hSw.1.2.1.cells; have hy := hSw.1.2.2.cells; go_simp; try with_reducible rfl)
  try simp only [Act.put, gA, gS, gZ, sA, sZ, sS]
  refine wpAnyH_done (by kernel_rfl) ?_ _
  have H7 := Lib.hid (PO.drew H6.out)
  clear hHeld H6
  obtain ⟨w7, hw7⟩ : ∃ X, X = w5.drew := ⟨_, rfl⟩
  rw [← hw7] at H7 ⊢
  clear hw7
  obtain ⟨h0, h1, h2, h3, h4, hf0⟩ := H7.out.1.2.1.cells
  obtain ⟨e0, e1, e2, e3, e4, e5, e6, e7, e8, hf1⟩ := H7.out.1.2.2.cells
  have hw := HY.out.2
  go_upto_region 12 with fail
  clear h0 h1 h2 h3 h4 hf0 e0 e1 e2 e3 e4 e5 e6 e7 e8 hf1 hor hne2 hw
  have ho := onB_setCell w7 E 6 (.int .u64 y)
  have hE := HEl.out
  have hl8 : LG (w7.setCell ⟨E, 6, none⟩ (.int .u64 y)) E M N { s with ak := s.ak + 1 } := by
    refine ⟨?_, H7.out.1.2.2.com.of_eq (ho.block _ hE.2.1.symm), H7.out.1.2.2.ack.of_eq (ho.block _ H7.out.1.2.2.en.symm), hE.2.2.1, hE.2.2.2.1, hE.2.2.2.2⟩
    have := set_at (i := 6) (.int .u64 y) H7.out.1.2.2.box
    rw [HY.out.1] at this
    rw [HY.out.1]
    exact this
  have hfr : FrL E M N w (w7.setCell ⟨E, 6, none⟩ (.int .u64 y)) := (FrL.of_below H7.out.1.1).onB ho (.inl rfl)
  have hpk : PkB (w7.setCell ⟨E, 6, none⟩ (.int .u64 y)) w.heap.size p := (ho.block _ (by have := hE.1.1; omega)).trans H7.out.1.2.1
  obtain ⟨w8, hw8⟩ : ∃ X, X = w7.setCell ⟨E, 6, none⟩ (.int .u64 y) := ⟨_, rfl⟩
  rw [← hw8] at hl8 hfr hpk ⊢
  have H8 := Lib.hid (And.intro hl8 (And.intro hfr hpk))
  clear hw8 ho hE hl8 hfr hpk
  obtain ⟨wd, hdel, hmg, hon⟩ := del_run ks_ok ⟨#[]⟩ p.s M s.cm 0 w8.drew ((H8.out.1).com.below (Below.refl _ _).drew)
  have hdel' : (Builtin.delete_ #[TMp, 31] 0 #[.map (some M), .int .u64 p.s]).run Tryz.prog w8.drew = .ok (.tuple #[]) wd := hdel
  have HG := Lib.hid hmg
  have HO := Lib.hid hon
  have HZ : Hid (PD w p E M N { s with ak := s.ak + 1 } w8) := Lib.hid ⟨H8.out.2.1, H8.out.2.2, (H8.out.1).box, (H8.out.1).ack⟩
  clear hdel hmg hon
  refine wp_region_held_drew (S := PD w p E M N { s with ak := s.ak + 1 }) (by kernel_rfl) (PD.drew HZ.out) (fun hHeld => ?_)
  refine tk (i := 0) (v := ?_) rfl (by kernel_rfl) (fun _ _ _ h => h) (by rfl) ?_ (by assumption) ?_
  rotate_left
  · (intro W hSw; have hz := hSw.2.1.cells; obtain ⟨e2, e3, e6, e7, hf1⟩ := hSw.cells; go_simp; try with_reducible rfl)
  try simp only [Act.put, gA, gZ, sA, sZ, sS]
  refine tk (i := 1) (v := ?_) rfl (by kernel_rfl) (fun _ _ _ h => h) (by rfl) ?_ (by assumption) ?_
  rotate_left
  · (intro W hSw; have hz := hSw.2.1.cells; obtain ⟨e2, e3, e6, e7, hf1⟩ := hSw.cells; go_simp; try with_reducible rfl)
  try simp only [Act.put, gA, gS, gZ, sA, sZ, sS]
  refine tk (i := 2) (v := ?_) rfl (by kernel_rfl) (fun _ _ _ h => h) (by rfl) ?_ (by assumption) ?_
  rotate_left
  · (intro W hSw; have hz := hSw.2.1.cells; obtain ⟨e2, e3, e6, e7, hf1⟩ := hSw.cells; go_simp; try with_reducible rfl)
  try simp only [Act.put, gA, gS, gZ, sA, sZ, sS]
  refine tk (i := 3) (v := ?_) rfl (by kernel_rfl) (fun _ _ _ h => h) (by rfl) ?_ (by assumption) ?_
  rotate_left
  · (intro W hSw; have hz := hSw.2.1.cells; obtain ⟨e2, e3, e6, e7, hf1⟩ := hSw.cells; go_simp; try with_reducible rfl)
  try simp only [Act.put, gA, gS, gZ, sA, sZ, sS]
  refine tk (i := 4) (v := ?_) rfl (by kernel_rfl) (fun _ _ _ h => h) (by rfl) ?_ (by assumption) ?_
  rotate_left
  · (intro W hSw; have hz := hSw.2.1.cells; obtain ⟨e2, e3, e6, e7, hf1⟩ := hSw.cells; go_simp; try with_reducible rfl)
  try simp only [Act.put, gA, gS, gZ, sA, sZ, sS]
  refine tk (i := 5) (v := ?_) rfl (by kernel_rfl) (fun _ _ _ h => h) (by rfl) ?_ (by assumption) ?_
  rotate_left
  · (intro W hSw; have hz := hSw.2.1.cells; obtain ⟨e2, e3, e6, e7, hf1⟩ := hSw.cells; go_simp; try with_reducible rfl)
  try simp only [Act.put, gA, gS, gZ, sA, sZ, sS]
  refine wpAnyH_ready (rs := [6]) (by kernel_rfl) (by simp) ?_
  refine AllReadyH.cons rfl (fun K hK => ?_) AllReadyH.nil
  simp only [gA, gS, gZ]
  rw [if_pos (by rfl)]
  go_simp
  refine hK.out _ _ (PD.on hHeld HO.out HEl.out.1.2.1 HEl.out.2.1 HEl.out.2.2.1) (fun hHeld => ?_)
  clear hK K
  try simp only [Act.put, gA, gS, gZ, sA, sZ, sS]
  refine wpAnyH_done (by kernel_rfl) ?_ _
  have H5 := Lib.hid hHeld
  clear hdel' hHeld HZ
  go_wp2
  go_ret
  exact ⟨rfl, ⟨H5.out.2.2.1, HG.out, H5.out.2.2.2, HEl.out.2.2.1, fun x hx => HEl.out.2.2.2.1 x (mem_del hx), HEl.out.2.2.2.2⟩, H5.out.1⟩
end Go.Proofs.YtdljphbfbiganaaGreatDoor.Lg
