/- gap: Clone and Runs of any many runs; Len. -/
import Derived.Test.YtlgbendncgboiaaGapSort
import Derived.Deep.AppendLies
namespace Go.Proofs.Ytlgbendncgboiaa.Gp
open Go Go.RowKit Gm

theorem rc_cells {V : World} {g : Nat} {l : List (Int × Int)} (hr : RowIs V g l) : ∀ j u, (rc l)[j]? = some u → V.cell? ((⟨g, 0, none⟩ : Addr).add j) = some u := by
  intro j u h
  have hj : j < l.length * 2 := by rw [← rc_len]; exact (List.getElem?_eq_some_iff.1 h).1
  have hlt : j / 2 < l.length := by omega
  have hx := hr.2 (j / 2) _ (List.getElem?_eq_getElem hlt)
  have hc := rc_at l (j / 2) _ (List.getElem?_eq_getElem hlt)
  rw [Nat.zero_add] at hx
  rw [Addr.add_lit, Nat.zero_add]
  rcases (by omega : j % 2 = 0 ∨ j % 2 = 1) with e | e
  · have e2 : j = j / 2 * 2 := by omega
    rw [← e2] at hx hc
    rw [← h, hc.1]
    exact hx.1
  · have e2 : j = j / 2 * 2 + 1 := by omega
    rw [← e2] at hx hc
    rw [← h, hc.2]
    exact hx.2
theorem rc_one : ∀ (l : List (Int × Int)), ∀ u ∈ rc l, u.oneCell' = true := by
  intro l u hu
  unfold rc at hu
  obtain ⟨x, _, hx⟩ := List.mem_flatMap.1 hu
  simp at hx
  rcases hx with rfl | rfl <;> rfl
/-- runs that a call handed out, laid from block base on -/
def RunsV (base : Nat) (v : Value) (ls : List (Int × Int)) (w : World) : Prop :=
  (v = .slice none 0 0 ∧ ls = []) ∨ ∃ g c, v = .slice (some ⟨g, 0, none⟩) ls.length c ∧ base ≤ g ∧ RowIs w g ls ∧ ∀ i, w.frozen? ⟨g, i, none⟩ = false
theorem own_runs {V : World} {base n : Nat} {v : Value} {l : List (Int × Int)} (hn : n = l.length) (h : V.ownsRow base TRn 2 v n (rc l)) : RunsV base v l V := by
  subst hn
  have h0 := h
  rcases h.2 with ⟨h2, h3⟩ | ⟨g, cap, cur, rfl, hg, hh, r⟩
  · exact Or.inl ⟨h2, List.eq_nil_of_length_eq_zero h3⟩
  · exact Or.inr ⟨g, cap, rfl, hg, row_is h0, fun i => by simp [World.frozen?, hh]⟩
set_option maxRecDepth 20000 in
set_option maxHeartbeats 2000000 in
theorem clone_row (g cap : Nat) (l : List (Int × Int)) (hl : l.length ≤ 1000) (W : World) (hr : RowIs W g l) : Calls Try.prog 26 #[.slice (some ⟨g, 0, none⟩) l.length cap] W fun e w' => ∃ v2, e = .returned v2 ∧ RunsV W.heap.size v2 l w' ∧ Below W.heap.size W w' := by
  obtain ⟨i0, hi, hz0, hz1, hz2⟩ := info_partsN infoRn
  obtain ⟨n, hn⟩ : ∃ n, n = l.length := ⟨_, rfl⟩
  rw [← hn]
  have he : (binOp .eql 48 (.slice (some ⟨g, 0, none⟩) n cap) (.slice none 0 0)).run Try.prog W = .ok (.bool false) W := by kernel_rfl
  have b1 := (Below.refl W.heap.size W).alloc (Nat.le_refl _) (.cells #[] TRn)
  have hE : (W.alloc (.cells #[] TRn)).ownsRow W.heap.size TRn 2 (.slice (some ⟨W.heap.size, 0, none⟩) 0 0) 0 [] := ⟨rfl, Or.inr ⟨W.heap.size, 0, #[], rfl, Nat.le_refl _, heap_alloc_new W _, Nat.le_refl _, by decide, rfl, rfl⟩⟩
  have hc := Lib.hid (rc_cells (hr.below b1))
  have HE := Lib.hid hE
  have HB := Lib.hid b1
  have HN := Lib.hid hn
  have hl2 : n ≤ 1000 := by omega
  have HL : Hid ((rc l).length = n * 2) := Lib.hid (by rw [rc_len, hn])
  clear b1 hE hr hn hl
  go_enter Try.func26, Try.ntmps26
  go_wp2_with (at_builtin; refine wpList_append_own _ rfl _ _ 48 rfl W.heap.size TRn i0 (.agg #[.int .u64 0, .int .u64 0]) 2 16 Try.underlying48 hi hz0 hz1 hz2 rfl (by decide) _ _ _ rfl HE.out ⟨g, 0, none⟩ n cap (rc l) rfl HL.out hc.out (rc_one l) (by unfold maxLen; omega) (by omega) (by simp) ?_; intro v1 w2 hown hg _; have HR := Lib.hid (And.intro (own_runs (l := l) (by rw [Nat.zero_add]; exact HN.out) hown) (HB.out.grown hg (by simp) (fun k hk => by have : W.heap.size = k := (by injection hk); omega))); obtain ⟨A1, C1, rfl⟩ := own_form2 hown; clear hown hg)
  go_ret
  exact ⟨_, rfl, (by have := HR.out.1; rw [Nat.zero_add] at this; exact this), HR.out.2⟩
set_option maxRecDepth 20000 in
theorem clone_none (W : World) : Calls Try.prog 26 #[.slice none 0 0] W fun e w' => ∃ v2, e = .returned v2 ∧ RunsV W.heap.size v2 [] w' ∧ Below W.heap.size W w' := by
  have he : (binOp .eql 48 (.slice none 0 0) (.slice none 0 0)).run Try.prog W = .ok (.bool true) W := by kernel_rfl
  go_enter Try.func26, Try.ntmps26
  go_wp2
  go_ret
  exact ⟨_, rfl, Or.inl ⟨rfl, rfl⟩, Below.refl _ _⟩
theorem clone_v (v : Value) (l : List (Int × Int)) (hl : l.length ≤ 1000) (W : World) (hv : VIs W v l) : Calls Try.prog 26 #[v] W fun e w' => ∃ v2, e = .returned v2 ∧ RunsV W.heap.size v2 l w' ∧ Below W.heap.size W w' := by
  rcases hv with ⟨rfl, rfl⟩ | ⟨g, cap, rfl, -, hr⟩
  · exact clone_none W
  · exact clone_row g cap l hl W hr
theorem sort_v (base : Nat) (v : Value) (l : List (Int × Int)) (hl : l.length ≤ 1000) (W : World) (hv : RunsV base v l W) : Calls Try.prog 27 #[.iface 48 v] W fun e w' => e = .returned (.tuple #[]) ∧ ∃ ls, RunsV base v ls w' ∧ ls.Perm l ∧ (ls.Pairwise fun x y => x.1 ≤ y.1) ∧ Below base W w' := by
  rcases hv with ⟨rfl, rfl⟩ | ⟨g, c, rfl, hg, hr, hf⟩
  · refine (St.tiny_any laysSt 48 (.slice none 0 0) 68 0 (by omega) W (by kernel_rfl) (enters_of Try.func68 (by kernel_rfl) rfl) (rlen_any _ _ _ _)).mono ?_
    rintro e w' ⟨rfl, rfl⟩
    exact ⟨rfl, [], Or.inl ⟨rfl, rfl⟩, List.Perm.refl _, List.Pairwise.nil, Below.refl _ _⟩
  · refine (sort_runs g c l hl W hr hf).mono ?_
    rintro e w' ⟨rfl, ls, h1, h2, h3, h4, h5, h6⟩
    exact ⟨rfl, ls, Or.inr ⟨g, c, by rw [h1.length_eq], hg, h3, h6⟩, h1, h2, h4.mono hg⟩
set_option maxRecDepth 20000 in
theorem runs_any (H : Nat) (v : Value) (l : List (Int × Int)) (hl : l.length ≤ 1000) (W : World) (h : HpIs W H v l) : Calls Try.prog 15 #[.pointer (some ⟨H, 0, none⟩)] W fun e w' => ∃ v2 ls, e = .returned v2 ∧ RunsV W.heap.size v2 ls w' ∧ ls.Perm l ∧ (ls.Pairwise fun x y => x.1 ≤ y.1) ∧ Below W.heap.size W w' := by
  have c0 := cell_of_row W H 0 _ _ (0, 0) h.box
  have HC := Lib.hid (clone_v v l hl W h.row)
  have HL := Lib.hid hl
  clear h hl
  go_enter Try.func15, Try.ntmps15
  go_wp2_with fail
  refine HC.out.mono ?_
  rintro _ w1 ⟨v2, rfl, hr, b1⟩
  have HS := Lib.hid (sort_v W.heap.size v2 l HL.out w1 hr)
  have HB := Lib.hid b1
  have hv2 : ∃ A n c, v2 = .slice A n c := by
    rcases hr with ⟨rfl, -⟩ | ⟨g, c, rfl, -⟩
    · exact ⟨_, _, _, rfl⟩
    · exact ⟨_, _, _, rfl⟩
  obtain ⟨A2, n2, k2, rfl⟩ := hv2
  clear hr b1
  go_wp2_with fail
  refine HS.out.mono ?_
  rintro _ w2 ⟨rfl, ls, h1, h2, h3, h4⟩
  have HE := Lib.hid (And.intro h1 (And.intro h2 (And.intro h3 (HB.out.trans h4))))
  clear h1 h2 h3 h4
  go_wp2
  go_ret
  exact ⟨_, ls, rfl, HE.out.1, HE.out.2.1, HE.out.2.2.1, HE.out.2.2.2⟩
end Go.Proofs.Ytlgbendncgboiaa.Gp
