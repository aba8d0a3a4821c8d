/- A reader's List. -/
import Derived.Test.YthamemaomedldaaReadList
namespace Go.Proofs.Ythamemaomedldaa.Rd
open Go Go.RowKit Num Texts

def R2.list (r : R2) (m : Nat) : List ByteArray × R2 := if r.b = 0 then ((listR m r.s).1, R2.after (listR m r.s).2.1 (listR m r.s).2.2) else ([], r)
/-- the closure that List gives read: captured are the boxes of the reader, of the bound and of the result -/
def cloL (A : Nat) : Value := .func (.func 49) #[] #[.pointer (some ⟨A, 0, none⟩), .pointer (some ⟨A + 1, 0, none⟩), .pointer (some ⟨A + 1 + 1, 0, none⟩)]

set_option maxRecDepth 20000 in
set_option maxHeartbeats 1000000 in
theorem clol_any (R A : Nat) (r : R2) (m : Nat) (hm : m ≤ 1000000) (hs : r.s.size ≤ 1099511627776) (W : World) (hR : Lies W R r) (hlt : R < A)
    (hA : W.heap[A]? = some (.cells #[.pointer (some ⟨R, 0, none⟩)] 60 (0, 0))) (hB : W.heap[A + 1]? = some (.cells #[.int .i64 (m : Int)] 3 (0, 0))) (hC : W.heap[A + 1 + 1]? = some (.cells #[.slice none 0 0] 24 (0, 0))) :
    Calls Try.prog 49 #[.pointer (some ⟨A, 0, none⟩), .pointer (some ⟨A + 1, 0, none⟩), .pointer (some ⟨A + 1 + 1, 0, none⟩)] W
      fun e w' => e = .returned (.int .i64 (listR m r.s).2.1) ∧ ∃ v w1, w' = w1.setCell ⟨A + 1 + 1, 0, none⟩ v ∧ w1.ownsRow W.heap.size 9 1 v (listR m r.s).1.length ((listR m r.s).1.map Value.string) ∧ Lies w1 R ⟨(listR m r.s).2.2, r.b⟩ ∧ Only R W w1 := by
  have HN := Lib.hid (show Calls Try.prog 50 #[.pointer (some ⟨R, 0, none⟩), .int .u64 (m : Int)] W.drew fun e w' => (∃ v, e = .returned (.tuple #[v, .int .i64 (listR m r.s).2.1]) ∧ w'.ownsRow W.heap.size 9 1 v (listR m r.s).1.length ((listR m r.s).1.map Value.string)) ∧ Lies w' R ⟨(listR m r.s).2.2, r.b⟩ ∧ Only R W.drew w' from list_any R r m hm hs W.drew hR)
  have a0 := cell_at hA 0
  have b0 := cell_at hB 0
  have hzA := (Array.getElem?_eq_some_iff.1 hA).1
  have hzB := (Array.getElem?_eq_some_iff.1 hB).1
  have hzC := (Array.getElem?_eq_some_iff.1 hC).1
  have HC := Lib.hid hC
  have HS := Lib.hid (show ∀ W', Only R W.drew W' → W'.cell? ⟨A, 0, none⟩ = some (.pointer (some ⟨R, 0, none⟩)) ∧ W'.cell? ⟨A + 1, 0, none⟩ = some (.int .i64 (m : Int)) from fun W' h => ⟨cell_at ((h.block _ hzA (by omega)).trans hA) 0, cell_at ((h.block _ hzB (by omega)).trans hB) 0⟩)
  have a1 : W.drew.cell? ⟨A, 0, none⟩ = some (.pointer (some ⟨R, 0, none⟩)) := a0
  have b1 : W.drew.cell? ⟨A + 1, 0, none⟩ = some (.int .i64 (m : Int)) := b0
  clear a0 b0 hA hB hC hR
  go_enter Try.func49, Try.ntmps49
  go_upto_region 1 with fail
  refine wp_region_held_drew (S := (fun W' => W'.cell? ⟨A, 0, none⟩ = some (.pointer (some ⟨R, 0, none⟩)) ∧ W'.cell? ⟨A + 1, 0, none⟩ = some (.int .i64 (m : Int)))) (by kernel_rfl) ⟨a1, b1⟩ (fun hHeld => ?_)
  refine wpAnyH_take (i := 0) (oi := _) (v := ?_) rfl (by kernel_rfl) (by kernel_rfl) (by kernel_rfl) (fun _ _ _ h => h) (Or.inl ⟨by rfl, ?_⟩) (by assumption) ?_
  rotate_left
  · (intro W' hSw; have hq := hSw.1; clear hSw; go_simp; try with_reducible rfl)
  try simp only [Act.put, List.getElem_toArray, List.getElem_cons_zero, List.setIfInBounds_toArray, List.set_cons_zero, List.set_cons_succ]
  refine wpAnyH_take (i := 1) (oi := _) (v := ?_) rfl (by kernel_rfl) (by kernel_rfl) (by kernel_rfl) (fun _ _ _ h => h) (Or.inl ⟨by rfl, ?_⟩) (by assumption) ?_
  rotate_left
  · (intro W' hSw; have hq := hSw.2; clear hSw; go_simp; try with_reducible rfl)
  try simp only [Act.put, List.getElem_toArray, List.getElem_cons_succ, List.getElem_cons_zero, List.setIfInBounds_toArray, List.set_cons_zero, List.set_cons_succ]
  refine wpAnyH_ready (rs := [2]) (by kernel_rfl) (by simp) ?_
  refine AllReadyH.cons rfl (fun K hK => ?_) AllReadyH.nil
  simp only [List.getElem_toArray, List.getElem_cons_succ, List.getElem_cons_zero]
  rw [if_pos (by rfl)]
  go_simp
  (go_at_call 51; refine (limit_any m (by omega) _).mono ?_; rintro e w1 ⟨rfl, rfl⟩)
  go_wp2_with fail
  refine hK.out _ _ hHeld (fun hHeld => ?_)
  clear hK K
  try simp only [Act.put, List.getElem_toArray, List.getElem_cons_succ, List.getElem_cons_zero, List.setIfInBounds_toArray, List.set_cons_zero, List.set_cons_succ]
  refine wpAnyH_ready (rs := [3]) (by kernel_rfl) (by simp) ?_
  refine AllReadyH.cons rfl (fun K hK => ?_) AllReadyH.nil
  simp only [List.getElem_toArray, List.getElem_cons_succ, List.getElem_cons_zero]
  rw [if_pos (by rfl)]
  go_simp
  (go_at_call 50; refine (HN.out).mono ?_; rintro e w1 ⟨⟨v, rfl, hown⟩, hR1, hO⟩; obtain ⟨Av, cv, rfl⟩ := own_form hown; have hS1 := HS.out w1 hO)
  go_wp2_with fail
  refine hK.out _ _ hS1 (fun hHeld => ?_)
  clear hK K
  try simp only [Act.put, List.getElem_toArray, List.getElem_cons_succ, List.getElem_cons_zero, List.setIfInBounds_toArray, List.set_cons_zero, List.set_cons_succ]
  refine wpAnyH_take (i := 4) (oi := _) (v := ?_) rfl (by kernel_rfl) (by kernel_rfl) (by kernel_rfl) (fun _ _ _ h => h) (Or.inl ⟨by rfl, ?_⟩) (by assumption) ?_
  rotate_left
  · (intro W hSw; (try dsimp only at hSw); go_simp; try with_reducible rfl)
  try simp only [Act.put, List.getElem_toArray, List.getElem_cons_succ, List.getElem_cons_zero, List.setIfInBounds_toArray, List.set_cons_zero, List.set_cons_succ]
  refine wpAnyH_take (i := 5) (oi := _) (v := ?_) rfl (by kernel_rfl) (by kernel_rfl) (by kernel_rfl) (fun _ _ _ h => h) (Or.inl ⟨by rfl, ?_⟩) (by assumption) ?_
  rotate_left
  · (intro W hSw; (try dsimp only at hSw); go_simp; try with_reducible rfl)
  try simp only [Act.put, List.getElem_toArray, List.getElem_cons_succ, List.getElem_cons_zero, List.setIfInBounds_toArray, List.set_cons_zero, List.set_cons_succ]
  refine wpAnyH_take (i := 6) (oi := _) (v := ?_) rfl (by kernel_rfl) (by kernel_rfl) (by kernel_rfl) (fun _ _ _ h => h) (Or.inl ⟨by rfl, ?_⟩) (by assumption) ?_
  rotate_left
  · (intro W hSw; (try dsimp only at hSw); go_simp; try with_reducible rfl)
  try simp only [Act.put, List.getElem_toArray, List.getElem_cons_succ, List.getElem_cons_zero, List.setIfInBounds_toArray, List.set_cons_zero, List.set_cons_succ]
  have hC1 := (hO.block _ hzC (by omega)).trans HC.out
  have c1 : w1.cell? ⟨A + 1 + 1, 0, none⟩ = some (.slice none 0 0) := cell_at hC1 0
  have f1 := free_at hC1 0
  refine wpAnyH_ready (rs := [7]) (by kernel_rfl) (by simp) ?_
  refine AllReadyH.cons rfl (fun K hK => ?_) AllReadyH.nil
  simp only [List.getElem_toArray, List.getElem_cons_succ, List.getElem_cons_zero]
  rw [if_pos (by rfl)]
  go_simp
  refine hK.out _ _ (by have h2 := HS.out w1 hO; exact ⟨(cell_off h2.1 (by omega)), (cell_off h2.2 (by omega))⟩) (fun hHeld => ?_)
  clear hK K
  try simp only [Act.put, List.getElem_toArray, List.getElem_cons_succ, List.getElem_cons_zero, List.setIfInBounds_toArray, List.set_cons_zero, List.set_cons_succ]
  refine wpAnyH_take (i := 8) (oi := _) (v := ?_) rfl (by kernel_rfl) (by kernel_rfl) (by kernel_rfl) (fun _ _ _ h => h) (Or.inl ⟨by rfl, ?_⟩) (by assumption) ?_
  rotate_left
  · (intro W hSw; (try dsimp only at hSw); go_simp; try with_reducible rfl)
  try simp only [Act.put, List.getElem_toArray, List.getElem_cons_succ, List.getElem_cons_zero, List.setIfInBounds_toArray, List.set_cons_zero, List.set_cons_succ]
  refine wpAnyH_done (by kernel_rfl) ?_ _
  go_wp2
  go_ret
  exact ⟨rfl, _, w1, rfl, hown, hR1, ((Only.refl R W).drew).trans hO⟩

set_option maxRecDepth 20000 in
set_option maxHeartbeats 1000000 in
theorem readl_any {w0 : World} (R A : Nat) (r : R2) (m : Nat) (hm : m ≤ 1000000) (hs : r.s.size ≤ 1099511627776) (W : World) (hR : Lies W R r) (hlt : R < A) (hw : w0.heap.size ≤ A) (h0 : Only R w0 W)
    (hA : W.heap[A]? = some (.cells #[.pointer (some ⟨R, 0, none⟩)] 60 (0, 0))) (hB : W.heap[A + 1]? = some (.cells #[.int .i64 (m : Int)] 3 (0, 0))) (hC : W.heap[A + 1 + 1]? = some (.cells #[.slice none 0 0] 24 (0, 0))) :
    Calls Try.prog 48 #[.pointer (some ⟨R, 0, none⟩), cloL A] W
      fun e w' => e = .returned (.tuple #[]) ∧ Lies w' R (r.list m).2 ∧ (∃ v, w'.heap[A + 1 + 1]? = some (.cells #[v] 24 (0, 0)) ∧ w'.ownsRow A 9 1 v (r.list m).1.length ((r.list m).1.map Value.string)) ∧ Only R w0 w' := by
  have HN := Lib.hid (clol_any R A r m hm hs W hR hlt hA hB hC)
  have HC := Lib.hid hC
  have HR := Lib.hid hR
  have H0 := Lib.hid h0
  have hzC := (Array.getElem?_eq_some_iff.1 hC).1
  obtain ⟨s, b⟩ := r
  have c0 : W.cell? ⟨R, 0, none⟩ = some (.string s) := cell_at hR 0
  have c1 : W.cell? ⟨R, 1, none⟩ = some (.int .i64 b) := cell_at hR 1
  clear hA hB hC hR h0
  unfold cloL
  by_cases hb : b = 0
  · subst hb
    have hnum : (⟨s, 0⟩ : R2).list m = ((listR m s).1, R2.after (listR m s).2.1 (listR m s).2.2) := by unfold R2.list; rw [if_pos rfl]
    dsimp only at HN
    generalize listR m s = x at *
    obtain ⟨n, e, s1⟩ := x
    dsimp only at HN hnum
    have HX := Lib.hid hnum
    clear hnum
    go_enter Try.func48, Try.ntmps48
    go_wp2_with fail
    refine HN.out.mono ?_
    rintro e1 w1 ⟨rfl, v, w2, rfl, hown2, hR2, hO2⟩
    obtain ⟨Av, cv, rfl⟩ := own_form hown2
    clear c0 c1
    have hC2 := (hO2.block _ hzC (by omega)).trans HC.out
    have hne : R ≠ A + 1 + 1 := by omega
    have hW3 := Msg.own_setblk (i := 0) (u := .slice Av n.length cv) (Msg.own_base hown2 (show A ≤ W.heap.size by omega)) hC2 (by decide)
    have hR3 := set_off (i := 0) hR2 hne (.slice Av n.length cv)
    have hC3 := set_at hC2 0 (.slice Av n.length cv)
    have hO3 : Only R w0 (w2.setCell ⟨A + 1 + 1, 0, none⟩ (.slice Av n.length cv)) := (H0.out.trans hO2).setNew (by omega) _ _
    obtain ⟨w3, hw3⟩ : ∃ w3, w3 = w2.setCell ⟨A + 1 + 1, 0, none⟩ (.slice Av n.length cv) := ⟨_, rfl⟩
    rw [← hw3] at hR3 hC3 hO3 hW3 ⊢
    have c1 : w3.cell? ⟨R, 1, none⟩ = some (.int .i64 0) := cell_at hR3 1
    have c0 : w3.cell? ⟨R, 0, none⟩ = some (.string s1) := cell_at hR3 0
    have f1 := free_at hR3 1
    have f0 := free_at hR3 0
    have HR3 := Lib.hid hR3
    have HC3 := Lib.hid (show w3.heap[A + 1 + 1]? = some (.cells #[.slice Av n.length cv] 24 (0, 0)) from hC3)
    have HW3 := Lib.hid hW3
    have HO3 := Lib.hid hO3
    clear hw3 hR3 hC3 hO3 hC2 hR2 hO2 HC HR HN hW3 hown2
    by_cases he : e = 0
    · subst he
      go_wp2
      refine bodyPost_end (results_none rfl _ _ _) rfl ?_
      exact ⟨rfl, by rw [HX.out]; exact set_at HR3.out 1 _, ⟨_, set_off HC3.out (by omega) _, by rw [HX.out]; exact Msg.own_setblk HW3.out HR3.out (by decide)⟩, HO3.out.set 1 _⟩
    · have he2 : (e == 0) = false := by simpa using he
      go_wp2
      refine bodyPost_end (results_none rfl _ _ _) rfl ?_
      refine ⟨rfl, ?_, ?_, (HO3.out.set 1 _).set 0 _⟩
      · rw [HX.out, show R2.after e s1 = ⟨⟨#[]⟩, e⟩ by unfold R2.after; rw [if_neg he]]
        exact set_at (set_at HR3.out 1 _) 0 _
      · exact ⟨_, set_off (set_off HC3.out (by omega) _) (by omega) _, by rw [HX.out]; exact Msg.own_setblk (Msg.own_setblk HW3.out HR3.out (by decide)) (set_at HR3.out 1 _) (by decide)⟩
  · have hb2 : (b == 0) = false := by simpa using hb
    have hnum : (⟨s, b⟩ : R2).list m = ([], ⟨s, b⟩) := by unfold R2.list; rw [if_neg hb]
    have HX := Lib.hid hnum
    clear hnum
    go_enter Try.func48, Try.ntmps48
    go_wp2
    refine bodyPost_ret (results_none rfl _ _ _) rfl ?_
    exact ⟨rfl, by rw [HX.out]; exact HR.out, ⟨_, HC.out, by rw [HX.out]; exact World.ownsRow_nil _ _ _ _⟩, H0.out⟩

set_option maxRecDepth 20000 in
set_option maxHeartbeats 1000000 in
/-- List of a reader -/
theorem rlist_any (R : Nat) (r : R2) (m : Nat) (hm : m ≤ 1000000) (hs : r.s.size ≤ 1099511627776) (W : World) (hR : Lies W R r) :
    Calls Try.prog 33 #[.pointer (some ⟨R, 0, none⟩), .int .i64 (m : Int)] W
      fun e w' => (∃ v, e = .returned v ∧ w'.ownsRow W.heap.size 9 1 v (r.list m).1.length ((r.list m).1.map Value.string)) ∧ Lies w' R (r.list m).2 ∧ Only R W w' := by
  have hlt := (Array.getElem?_eq_some_iff.1 hR).1
  obtain ⟨W3, hW3⟩ : ∃ W3, W3 = ((W.alloc (.cells #[.pointer (some ⟨R, 0, none⟩)] 60)).alloc (.cells #[.int .i64 (m : Int)] 3)).alloc (.cells #[.slice none 0 0] 24) := ⟨_, rfl⟩
  have hA : W3.heap[W.heap.size]? = some (.cells #[.pointer (some ⟨R, 0, none⟩)] 60 (0, 0)) := by
    rw [hW3, Below.heap_alloc _ _ _ (by simp; omega), Below.heap_alloc _ _ _ (by simp)]; exact heap_alloc_new _ _
  have hB : W3.heap[W.heap.size + 1]? = some (.cells #[.int .i64 (m : Int)] 3 (0, 0)) := by
    rw [hW3, Below.heap_alloc _ _ _ (by simp)]
    have := heap_alloc_new (W.alloc (.cells #[.pointer (some ⟨R, 0, none⟩)] 60)) (.cells #[.int .i64 (m : Int)] 3)
    simpa using this
  have hC : W3.heap[W.heap.size + 1 + 1]? = some (.cells #[.slice none 0 0] 24 (0, 0)) := by
    have := heap_alloc_new ((W.alloc (.cells #[.pointer (some ⟨R, 0, none⟩)] 60)).alloc (.cells #[.int .i64 (m : Int)] 3)) (.cells #[.slice none 0 0] 24)
    rw [hW3]
    simpa using this
  have hO : Only R W W3 := by rw [hW3]; exact (((Only.refl R W).alloc _).alloc _).alloc _
  have hR3 : Lies W3 R r := by
    rw [hW3]; unfold Lies
    rw [Below.heap_alloc _ _ _ (by simp; omega), Below.heap_alloc _ _ _ (by simp; omega), Below.heap_alloc _ _ _ hlt]; exact hR
  have HN := Lib.hid (readl_any (w0 := W) R W.heap.size r m hm hs W3 hR3 hlt (Nat.le_refl _) hO hA hB hC)
  have ca : W3.cell? ⟨W.heap.size, 0, none⟩ = some (.pointer (some ⟨R, 0, none⟩)) := cell_at hA 0
  have CA := Lib.hid ca
  clear hA hB hC hO hR3 ca hR
  unfold cloL at HN
  go_enter Try.func33, Try.ntmps33
  go_upto_region 1 with fail
  rw [← hW3]
  have ca := CA.out
  clear hW3 CA
  go_wp2_with fail
  refine HN.out.mono ?_
  rintro e w1 ⟨rfl, hR1, ⟨v, hC1, hown1⟩, hO1⟩
  obtain ⟨Av, cv, rfl⟩ := own_form hown1
  have HW1 := Lib.hid hown1
  clear hown1
  have c1 : w1.cell? ⟨W.heap.size + 1 + 1, 0, none⟩ = some (.slice Av (r.list m).1.length cv) := cell_at hC1 0
  have f1 := free_at hC1 0
  have HR1 := Lib.hid hR1
  have HC1 := Lib.hid hC1
  have HO1 := Lib.hid hO1
  clear hR1 hC1 hO1 ca HN
  go_wp2_with fail
  have c2 : (w1.setCell ⟨W.heap.size + 1 + 1, 0, none⟩ (.slice Av (r.list m).1.length cv)).cell? ⟨W.heap.size + 1 + 1, 0, none⟩ = some (.slice Av (r.list m).1.length cv) := cell_at (set_at HC1.out 0 _) 0
  refine bodyPost_ret (v := .slice Av (r.list m).1.length cv) (by simp [results, Try.results33, go_sem, c2]) rfl ?_
  exact ⟨⟨_, rfl, Msg.own_setblk HW1.out HC1.out (by decide)⟩, set_off HR1.out (by omega) _, HO1.out.setNew (by omega) _ _⟩
end Go.Proofs.Ythamemaomedldaa.Rd
