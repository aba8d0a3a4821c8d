/- A reader's texts: Text. -/
import Derived.Test.YthamemaomedldaaReader
import Derived.Deep.RegionHeld3
namespace Go.Proofs.Ythamemaomedldaa.Rd
open Go Go.RowKit Num Texts

theorem cell_off {w : World} {g i b k : Nat} {x : Value} {u : Value} (h : w.cell? ⟨b, k, none⟩ = some x) (hne : b ≠ g) : (w.setCell ⟨g, i, none⟩ u).cell? ⟨b, k, none⟩ = some x := by
  unfold World.cell? at h ⊢
  rw [Below.heap_setCell _ _ _ _ (fun e => hne e)]; exact h
theorem limit_any (m : Nat) (hm : m < 9223372036854775808) (w : World) : Calls Try.prog 51 #[.int .i64 (m : Int)] w fun e w' => e = .returned (.int .u64 (m : Int)) ∧ w' = w := by
  have h0 : (0 : Int) ≤ (m : Int) := by omega
  have h1 : (m : Int) < 9223372036854775808 := by omega
  go_enter Try.func51, Try.ntmps51
  go_wp2
  go_ret
  exact ⟨rfl, rfl⟩

/-- the closure that Text gives read: captured are the boxes of the reader, of the bound and of the result -/
def cloT (A : Nat) : Value := .func (.func 55) #[] #[.pointer (some ⟨A, 0, none⟩), .pointer (some ⟨A + 1, 0, none⟩), .pointer (some ⟨A + 1 + 1, 0, none⟩)]

set_option maxRecDepth 20000 in
set_option maxHeartbeats 1000000 in
theorem clot_any (R A : Nat) (r : R2) (m : Nat) (hm : m < 9223372036854775808) (hs : r.s.size ≤ 1099511627776) (W : World) (hR : Lies W R r) (hlt : R < A)
    (hA : W.heap[A]? = some (.cells #[.pointer (some ⟨R, 0, none⟩)] 60 (0, 0))) (hB : W.heap[A + 1]? = some (.cells #[.int .i64 (m : Int)] 3 (0, 0))) (hC : W.heap[A + 1 + 1]? = some (.cells #[.string ⟨#[]⟩] 9 (0, 0))) :
    Calls Try.prog 55 #[.pointer (some ⟨A, 0, none⟩), .pointer (some ⟨A + 1, 0, none⟩), .pointer (some ⟨A + 1 + 1, 0, none⟩)] W
      fun e w' => e = .returned (.int .i64 (textR m r.s).2.1) ∧ ∃ w1, w' = w1.setCell ⟨A + 1 + 1, 0, none⟩ (.string (textR m r.s).1) ∧ Lies w1 R ⟨(textR m r.s).2.2, r.b⟩ ∧ Only R W w1 := by
  have HN := Lib.hid (show Calls Try.prog 56 #[.pointer (some ⟨R, 0, none⟩), .int .u64 (m : Int)] W.drew fun e w' => e = .returned (.tuple #[.string (textR m r.s).1, .int .i64 (textR m r.s).2.1]) ∧ Lies w' R ⟨(textR m r.s).2.2, r.b⟩ ∧ Only R W.drew w' from text_any R r m hs W.drew hR)
  have a0 := cell_at hA 0
  have b0 := cell_at hB 0
  have hzA := (Array.getElem?_eq_some_iff.1 hA).1
  have hzB := (Array.getElem?_eq_some_iff.1 hB).1
  have hzC := (Array.getElem?_eq_some_iff.1 hC).1
  have HC := Lib.hid hC
  have HS := Lib.hid (show ∀ W', Only R W.drew W' → W'.cell? ⟨A, 0, none⟩ = some (.pointer (some ⟨R, 0, none⟩)) ∧ W'.cell? ⟨A + 1, 0, none⟩ = some (.int .i64 (m : Int)) from fun W' h => ⟨cell_at ((h.block _ hzA (by omega)).trans hA) 0, cell_at ((h.block _ hzB (by omega)).trans hB) 0⟩)
  have a1 : W.drew.cell? ⟨A, 0, none⟩ = some (.pointer (some ⟨R, 0, none⟩)) := a0
  have b1 : W.drew.cell? ⟨A + 1, 0, none⟩ = some (.int .i64 (m : Int)) := b0
  clear a0 b0 hA hB hC hR
  go_enter Try.func55, Try.ntmps55
  go_upto_region 1 with fail
  refine wp_region_held_drew (S := (fun W' => W'.cell? ⟨A, 0, none⟩ = some (.pointer (some ⟨R, 0, none⟩)) ∧ W'.cell? ⟨A + 1, 0, none⟩ = some (.int .i64 (m : Int)))) (by kernel_rfl) ⟨a1, b1⟩ (fun hHeld => ?_)
  refine wpAnyH_take (i := 0) (oi := _) (v := ?_) rfl (by kernel_rfl) (by kernel_rfl) (by kernel_rfl) (fun _ _ _ h => h) (Or.inl ⟨by rfl, ?_⟩) (by assumption) ?_
  rotate_left
  · (intro W' hSw; have hq := hSw.1; clear hSw; go_simp; try with_reducible rfl)
  try simp only [Act.put, List.getElem_toArray, List.getElem_cons_zero, List.setIfInBounds_toArray, List.set_cons_zero, List.set_cons_succ]
  refine wpAnyH_take (i := 1) (oi := _) (v := ?_) rfl (by kernel_rfl) (by kernel_rfl) (by kernel_rfl) (fun _ _ _ h => h) (Or.inl ⟨by rfl, ?_⟩) (by assumption) ?_
  rotate_left
  · (intro W' hSw; have hq := hSw.2; clear hSw; go_simp; try with_reducible rfl)
  try simp only [Act.put, List.getElem_toArray, List.getElem_cons_succ, List.getElem_cons_zero, List.setIfInBounds_toArray, List.set_cons_zero, List.set_cons_succ]
  refine wpAnyH_ready (rs := [2]) (by kernel_rfl) (by simp) ?_
  refine AllReadyH.cons rfl (fun K hK => ?_) AllReadyH.nil
  simp only [List.getElem_toArray, List.getElem_cons_succ, List.getElem_cons_zero]
  rw [if_pos (by rfl)]
  go_simp
  (go_at_call 51; refine (limit_any m hm _).mono ?_; rintro e w1 ⟨rfl, rfl⟩)
  go_wp2_with fail
  refine hK.out _ _ hHeld (fun hHeld => ?_)
  clear hK K
  try simp only [Act.put, List.getElem_toArray, List.getElem_cons_succ, List.getElem_cons_zero, List.setIfInBounds_toArray, List.set_cons_zero, List.set_cons_succ]
  refine wpAnyH_ready (rs := [3]) (by kernel_rfl) (by simp) ?_
  refine AllReadyH.cons rfl (fun K hK => ?_) AllReadyH.nil
  simp only [List.getElem_toArray, List.getElem_cons_succ, List.getElem_cons_zero]
  rw [if_pos (by rfl)]
  go_simp
  (go_at_call 56; refine (HN.out).mono ?_; rintro e w1 ⟨rfl, hR1, hO⟩; have hS1 := HS.out w1 hO)
  go_wp2_with fail
  refine hK.out _ _ hS1 (fun hHeld => ?_)
  clear hK K
  try simp only [Act.put, List.getElem_toArray, List.getElem_cons_succ, List.getElem_cons_zero, List.setIfInBounds_toArray, List.set_cons_zero, List.set_cons_succ]
  refine wpAnyH_take (i := 4) (oi := _) (v := ?_) rfl (by kernel_rfl) (by kernel_rfl) (by kernel_rfl) (fun _ _ _ h => h) (Or.inl ⟨by rfl, ?_⟩) (by assumption) ?_
  rotate_left
  · (intro W hSw; (try dsimp only at hSw); go_simp; try with_reducible rfl)
  try simp only [Act.put, List.getElem_toArray, List.getElem_cons_succ, List.getElem_cons_zero, List.setIfInBounds_toArray, List.set_cons_zero, List.set_cons_succ]
  refine wpAnyH_take (i := 5) (oi := _) (v := ?_) rfl (by kernel_rfl) (by kernel_rfl) (by kernel_rfl) (fun _ _ _ h => h) (Or.inl ⟨by rfl, ?_⟩) (by assumption) ?_
  rotate_left
  · (intro W hSw; (try dsimp only at hSw); go_simp; try with_reducible rfl)
  try simp only [Act.put, List.getElem_toArray, List.getElem_cons_succ, List.getElem_cons_zero, List.setIfInBounds_toArray, List.set_cons_zero, List.set_cons_succ]
  refine wpAnyH_take (i := 6) (oi := _) (v := ?_) rfl (by kernel_rfl) (by kernel_rfl) (by kernel_rfl) (fun _ _ _ h => h) (Or.inl ⟨by rfl, ?_⟩) (by assumption) ?_
  rotate_left
  · (intro W hSw; (try dsimp only at hSw); go_simp; try with_reducible rfl)
  try simp only [Act.put, List.getElem_toArray, List.getElem_cons_succ, List.getElem_cons_zero, List.setIfInBounds_toArray, List.set_cons_zero, List.set_cons_succ]
  have hC1 := (hO.block _ hzC (by omega)).trans HC.out
  have c1 : w1.cell? ⟨A + 1 + 1, 0, none⟩ = some (.string ⟨#[]⟩) := cell_at hC1 0
  have f1 := free_at hC1 0
  refine wpAnyH_ready (rs := [7]) (by kernel_rfl) (by simp) ?_
  refine AllReadyH.cons rfl (fun K hK => ?_) AllReadyH.nil
  simp only [List.getElem_toArray, List.getElem_cons_succ, List.getElem_cons_zero]
  rw [if_pos (by rfl)]
  go_simp
  refine hK.out _ _ (by have h2 := HS.out w1 hO; exact ⟨(cell_off h2.1 (by omega)), (cell_off h2.2 (by omega))⟩) (fun hHeld => ?_)
  clear hK K
  try simp only [Act.put, List.getElem_toArray, List.getElem_cons_succ, List.getElem_cons_zero, List.setIfInBounds_toArray, List.set_cons_zero, List.set_cons_succ]
  refine wpAnyH_take (i := 8) (oi := _) (v := ?_) rfl (by kernel_rfl) (by kernel_rfl) (by kernel_rfl) (fun _ _ _ h => h) (Or.inl ⟨by rfl, ?_⟩) (by assumption) ?_
  rotate_left
  · (intro W hSw; (try dsimp only at hSw); go_simp; try with_reducible rfl)
  try simp only [Act.put, List.getElem_toArray, List.getElem_cons_succ, List.getElem_cons_zero, List.setIfInBounds_toArray, List.set_cons_zero, List.set_cons_succ]
  refine wpAnyH_done (by kernel_rfl) ?_ _
  go_wp2
  go_ret
  exact ⟨rfl, w1, rfl, hR1, ((Only.refl R W).drew).trans hO⟩

set_option maxRecDepth 20000 in
set_option maxHeartbeats 1000000 in
theorem readt_any {w0 : World} (R A : Nat) (r : R2) (m : Nat) (hm : m < 9223372036854775808) (hs : r.s.size ≤ 1099511627776) (W : World) (hR : Lies W R r) (hlt : R < A) (hw : w0.heap.size ≤ A) (h0 : Only R w0 W)
    (hA : W.heap[A]? = some (.cells #[.pointer (some ⟨R, 0, none⟩)] 60 (0, 0))) (hB : W.heap[A + 1]? = some (.cells #[.int .i64 (m : Int)] 3 (0, 0))) (hC : W.heap[A + 1 + 1]? = some (.cells #[.string ⟨#[]⟩] 9 (0, 0))) :
    Calls Try.prog 48 #[.pointer (some ⟨R, 0, none⟩), cloT A] W
      fun e w' => e = .returned (.tuple #[]) ∧ Lies w' R (r.text m).2 ∧ w'.heap[A + 1 + 1]? = some (.cells #[.string (r.text m).1] 9 (0, 0)) ∧ Only R w0 w' := by
  have HN := Lib.hid (clot_any R A r m hm hs W hR hlt hA hB hC)
  have HC := Lib.hid hC
  have HR := Lib.hid hR
  have H0 := Lib.hid h0
  have hzC := (Array.getElem?_eq_some_iff.1 hC).1
  obtain ⟨s, b⟩ := r
  have c0 : W.cell? ⟨R, 0, none⟩ = some (.string s) := cell_at hR 0
  have c1 : W.cell? ⟨R, 1, none⟩ = some (.int .i64 b) := cell_at hR 1
  clear hA hB hC hR h0
  unfold cloT
  by_cases hb : b = 0
  · subst hb
    have hnum : (⟨s, 0⟩ : R2).text m = ((textR m s).1, R2.after (textR m s).2.1 (textR m s).2.2) := by unfold R2.text; rw [if_pos rfl]
    dsimp only at HN
    generalize textR m s = x at *
    obtain ⟨n, e, s1⟩ := x
    dsimp only at HN hnum
    have HX := Lib.hid hnum
    clear hnum
    go_enter Try.func48, Try.ntmps48
    go_wp2_with fail
    refine HN.out.mono ?_
    rintro e1 w1 ⟨rfl, w2, rfl, hR2, hO2⟩
    clear c0 c1
    have hC2 := (hO2.block _ hzC (by omega)).trans HC.out
    have hne : R ≠ A + 1 + 1 := by omega
    have hR3 := set_off (i := 0) hR2 hne (.string n)
    have hC3 := set_at hC2 0 (.string n)
    have hO3 : Only R w0 (w2.setCell ⟨A + 1 + 1, 0, none⟩ (.string n)) := (H0.out.trans hO2).setNew (by omega) _ _
    obtain ⟨w3, hw3⟩ : ∃ w3, w3 = w2.setCell ⟨A + 1 + 1, 0, none⟩ (.string n) := ⟨_, rfl⟩
    rw [← hw3] at hR3 hC3 hO3 ⊢
    have c1 : w3.cell? ⟨R, 1, none⟩ = some (.int .i64 0) := cell_at hR3 1
    have c0 : w3.cell? ⟨R, 0, none⟩ = some (.string s1) := cell_at hR3 0
    have f1 := free_at hR3 1
    have f0 := free_at hR3 0
    have HR3 := Lib.hid hR3
    have HC3 := Lib.hid (show w3.heap[A + 1 + 1]? = some (.cells #[.string n] 9 (0, 0)) from hC3)
    have HO3 := Lib.hid hO3
    clear hw3 hR3 hC3 hO3 hC2 hR2 hO2 HC HR HN
    by_cases he : e = 0
    · subst he
      go_wp2
      refine bodyPost_end (results_none rfl _ _ _) rfl ?_
      exact ⟨rfl, by rw [HX.out]; exact set_at HR3.out 1 _, by rw [HX.out]; exact set_off HC3.out (by omega) _, HO3.out.set 1 _⟩
    · have he2 : (e == 0) = false := by simpa using he
      go_wp2
      refine bodyPost_end (results_none rfl _ _ _) rfl ?_
      refine ⟨rfl, ?_, ?_, (HO3.out.set 1 _).set 0 _⟩
      · rw [HX.out, show R2.after e s1 = ⟨⟨#[]⟩, e⟩ by unfold R2.after; rw [if_neg he]]
        exact set_at (set_at HR3.out 1 _) 0 _
      · rw [HX.out]
        exact set_off (set_off HC3.out (by omega) _) (by omega) _
  · have hb2 : (b == 0) = false := by simpa using hb
    have hnum : (⟨s, b⟩ : R2).text m = (⟨#[]⟩, ⟨s, b⟩) := by unfold R2.text; rw [if_neg hb]
    have HX := Lib.hid hnum
    clear hnum
    go_enter Try.func48, Try.ntmps48
    go_wp2
    refine bodyPost_ret (results_none rfl _ _ _) rfl ?_
    exact ⟨rfl, by rw [HX.out]; exact HR.out, by rw [HX.out]; exact HC.out, H0.out⟩

set_option maxRecDepth 20000 in
set_option maxHeartbeats 1000000 in
/-- Text of a reader -/
theorem rtext_any (R : Nat) (r : R2) (m : Nat) (hm : m < 9223372036854775808) (hs : r.s.size ≤ 1099511627776) (W : World) (hR : Lies W R r) :
    Calls Try.prog 38 #[.pointer (some ⟨R, 0, none⟩), .int .i64 (m : Int)] W
      fun e w' => e = .returned (.string (r.text m).1) ∧ Lies w' R (r.text m).2 ∧ Only R W w' := by
  have hlt := (Array.getElem?_eq_some_iff.1 hR).1
  obtain ⟨W3, hW3⟩ : ∃ W3, W3 = ((W.alloc (.cells #[.pointer (some ⟨R, 0, none⟩)] 60)).alloc (.cells #[.int .i64 (m : Int)] 3)).alloc (.cells #[.string ⟨#[]⟩] 9) := ⟨_, rfl⟩
  have hA : W3.heap[W.heap.size]? = some (.cells #[.pointer (some ⟨R, 0, none⟩)] 60 (0, 0)) := by
    rw [hW3, Below.heap_alloc _ _ _ (by simp; omega), Below.heap_alloc _ _ _ (by simp)]; exact heap_alloc_new _ _
  have hB : W3.heap[W.heap.size + 1]? = some (.cells #[.int .i64 (m : Int)] 3 (0, 0)) := by
    rw [hW3, Below.heap_alloc _ _ _ (by simp)]
    have := heap_alloc_new (W.alloc (.cells #[.pointer (some ⟨R, 0, none⟩)] 60)) (.cells #[.int .i64 (m : Int)] 3)
    simpa using this
  have hC : W3.heap[W.heap.size + 1 + 1]? = some (.cells #[.string ⟨#[]⟩] 9 (0, 0)) := by
    have := heap_alloc_new ((W.alloc (.cells #[.pointer (some ⟨R, 0, none⟩)] 60)).alloc (.cells #[.int .i64 (m : Int)] 3)) (.cells #[.string ⟨#[]⟩] 9)
    rw [hW3]
    simpa using this
  have hO : Only R W W3 := by rw [hW3]; exact (((Only.refl R W).alloc _).alloc _).alloc _
  have hR3 : Lies W3 R r := by
    rw [hW3]; unfold Lies
    rw [Below.heap_alloc _ _ _ (by simp; omega), Below.heap_alloc _ _ _ (by simp; omega), Below.heap_alloc _ _ _ hlt]; exact hR
  have HN := Lib.hid (readt_any (w0 := W) R W.heap.size r m hm hs W3 hR3 hlt (Nat.le_refl _) hO hA hB hC)
  have ca : W3.cell? ⟨W.heap.size, 0, none⟩ = some (.pointer (some ⟨R, 0, none⟩)) := cell_at hA 0
  have CA := Lib.hid ca
  clear hA hB hC hO hR3 ca hR
  unfold cloT at HN
  go_enter Try.func38, Try.ntmps38
  go_upto_region 1 with fail
  rw [← hW3]
  have ca := CA.out
  clear hW3 CA
  go_wp2_with fail
  refine HN.out.mono ?_
  rintro e w1 ⟨rfl, hR1, hC1, hO1⟩
  have c1 : w1.cell? ⟨W.heap.size + 1 + 1, 0, none⟩ = some (.string (r.text m).1) := cell_at hC1 0
  have f1 := free_at hC1 0
  have HR1 := Lib.hid hR1
  have HC1 := Lib.hid hC1
  have HO1 := Lib.hid hO1
  clear hR1 hC1 hO1 ca HN
  go_wp2_with fail
  have c2 : (w1.setCell ⟨W.heap.size + 1 + 1, 0, none⟩ (.string (r.text m).1)).cell? ⟨W.heap.size + 1 + 1, 0, none⟩ = some (.string (r.text m).1) := cell_at (set_at HC1.out 0 _) 0
  refine bodyPost_ret (v := .string (r.text m).1) (by simp [results, Try.results38, go_sem, c2]) rfl ?_
  exact ⟨rfl, set_off HR1.out (by omega) _, HO1.out.setNew (by omega) _ _⟩
end Go.Proofs.Ythamemaomedldaa.Rd
