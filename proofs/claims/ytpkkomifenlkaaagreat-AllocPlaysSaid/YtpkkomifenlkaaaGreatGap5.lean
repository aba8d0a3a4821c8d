/- gap: Pop of runs; container/heap at up to two runs. -/
import Derived.Test.YtpkkomifenlkaaaGreatGap4
namespace Go.Proofs.YtpkkomifenlkaaaGreat.Gp
open Go Go.RowKit

theorem own_block {W : World} {B n : Nat} {v : Value} {l : List (Int × Int)} (h : W.ownsRow B TRn 2 v n (rc l)) (hn : 0 < n) : ∃ g cap, v = .slice (some ⟨g, 0, none⟩) n cap ∧ B ≤ g := by
  rcases h.2 with ⟨h2, h3⟩ | ⟨g, cap, cur, hv, hg, r⟩
  · omega
  · exact ⟨g, cap, hv, hg⟩
theorem own_pop {W : World} {B g cap n : Nat} {l : List (Int × Int)} {x : Int × Int} (hn : n = l.length) (h : W.ownsRow B TRn 2 (.slice (some ⟨g, 0, none⟩) (n + 1) cap) (n + 1) (rc (l ++ [x]))) : W.ownsRow B TRn 2 (.slice (some ⟨g, 0, none⟩) n cap) n (rc l) := by
  rcases h.2 with ⟨h2, -⟩ | ⟨g', cap', cur, hv, hg, hh, h1, h2, h3, h4⟩
  · cases h2
  · injection hv with hv _ hv3
    injection hv with hv
    injection hv with hv
    subst hv hv3
    refine ⟨by rw [rc_len, hn], Or.inr ⟨g, cap, cur, rfl, hg, hh, by omega, h2, h3, ?_⟩⟩
    have e : (cur.toList.take ((n + 1) * 2)).take (n * 2) = cur.toList.take (n * 2) := by rw [List.take_take]; congr 1; omega
    rw [← e, h4, rc_app]
    exact List.take_left' (by rw [rc_len, hn])
set_option maxRecDepth 20000 in
set_option maxHeartbeats 2000000 in
theorem pop_any (B : Nat) (H : Nat) (v : Value) (l : List (Int × Int)) (x : Int × Int) (W : World) (h : HpO B W H v (l ++ [x])) (hB : B ≤ W.heap.size) :
    Calls Tryz.prog 154 #[.pointer (some ⟨H, 0, none⟩)] W fun e w' => e = .returned (.iface TRn (.agg #[.int .u64 x.1, .int .u64 x.2])) ∧ ∃ v', HpO B w' H v' l ∧ Below B W w' ∧ Fr H v v' W w' := by
  obtain ⟨n, hn⟩ : ∃ n, n = l.length := ⟨_, rfl⟩
  have hlen : (l ++ [x]).length = n + 1 := by simp [hn]
  have hr := h.row
  rw [hlen] at hr
  obtain ⟨g, cap, rfl, hg⟩ := own_block hr (by omega)
  have hri : RowIs W g (l ++ [x]) := row_is (by rw [hlen]; exact hr)
  have hx := hri.2 n x (by rw [hn]; simp)
  rw [Nat.zero_add] at hx
  have x0 := hx.1
  have x1 := hx.2
  have c0 := cell_of_row W H 0 _ _ (0, 0) h.box
  have hcap : n + 1 ≤ cap := by
    rcases hr.2 with ⟨h2, -⟩ | ⟨g', cap', cur, hv, hg', hh, h1, h2, h3, h4⟩
    · cases h2
    · injection hv with _ _ hv3; omega
  have hfew : n + 1 ≤ 1000 := by have := h.few; omega
  have HP := Lib.hid h
  have HR := Lib.hid hr
  have HB := Lib.hid hB
  have hne : H ≠ g := fun e => own_apart2 hr h.box (by decide) (by rw [e]; rfl)
  have hHl := h.lt
  have hgl := hri.1
  have HN := Lib.hid hn
  clear h hr hri hx hB hn hlen
  obtain ⟨a, b⟩ := x
  dsimp only at x0 x1 ⊢
  have hF : W.frozen? ⟨H, 0, none⟩ = false := by simp [World.frozen?, HP.out.box]
  go_enter Tryz.func154, Tryz.ntmps154
  go_upto_region 3 with fail
  have hb := heap_alloc_new W (.cells #[.int .u64 a, .int .u64 b] TRn)
  have b1 := (Below.refl W.heap.size W).alloc (Nat.le_refl _) (.cells #[.int .u64 a, .int .u64 b] TRn)
  obtain ⟨w1, hw1⟩ : ∃ X, X = W.alloc (.cells #[.int .u64 a, .int .u64 b] TRn) := ⟨_, rfl⟩
  rw [← hw1] at hb b1 ⊢
  clear hw1
  have hP1 := HP.out.below b1
  have d0 := cell_of_row w1 W.heap.size 0 _ _ (0, 0) hb
  have d1 := cell_of_row w1 W.heap.size 1 _ _ (0, 0) hb
  have e0 := cell_of_row w1 H 0 _ _ (0, 0) hP1.box
  have eF : w1.frozen? ⟨H, 0, none⟩ = false := by simp [World.frozen?, hP1.box]
  have hbox : (w1.setCell ⟨H, 0, none⟩ (.slice (some ⟨g, 0, none⟩) n cap)).heap[H]? = some (.cells #[.slice (some ⟨g, 0, none⟩) n cap] THp (0, 0)) := (setCell_at _ hP1.box).trans rfl
  have hrow : (w1.setCell ⟨H, 0, none⟩ (.slice (some ⟨g, 0, none⟩) n cap)).ownsRow B TRn 2 (.slice (some ⟨g, 0, none⟩) n cap) n (rc l) := by
    have h1 := hP1.row
    rw [show (l ++ [(a, b)]).length = n + 1 by simp [HN.out]] at h1
    exact own_set (own_pop HN.out h1) (fun e => hne (by injection e))
  have hend : HpO B (w1.setCell ⟨H, 0, none⟩ (.slice (some ⟨g, 0, none⟩) n cap)) H (.slice (some ⟨g, 0, none⟩) n cap) l := ⟨hbox, HP.out.low, by rw [← HN.out]; exact hrow, by have := HN.out; omega⟩
  have hbel : Below B W (w1.setCell ⟨H, 0, none⟩ (.slice (some ⟨g, 0, none⟩) n cap)) := (b1.mono HB.out).setCell HP.out.low _
  have hne2 : ¬ W.heap.size = H := by omega
  have hfr : Fr H (.slice (some ⟨g, 0, none⟩) (n + 1) cap) (.slice (some ⟨g, 0, none⟩) n cap) W (w1.setCell ⟨H, 0, none⟩ (.slice (some ⟨g, 0, none⟩) n cap)) :=
    ⟨b1.os, b1.tape, b1.output, by simpa using b1.size, fun k hk h8 _ => (Below.heap_setCell _ _ _ _ h8).trans (b1.block k hk), Or.inl rfl⟩
  have HE := Lib.hid (And.intro hend (And.intro hbel hfr))
  clear hend hbel hfr hrow hbox hP1 hb b1 HP HR HB HN x0 x1 c0 hF
  go_wp2
  go_ret
  exact ⟨rfl, _, HE.out⟩
end Go.Proofs.YtpkkomifenlkaaaGreat.Gp
