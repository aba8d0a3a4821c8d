import Derived.Test.YtpkkomifenlkaaaGreatGapSort
import Derived.Deep.AppendLies
import Derived.Test.YtpkkomifenlkaaaGreatGap19
import Derived.Test.YtpkkomifenlkaaaGreatGapM
/- gap: Clone and Runs of any many runs; Len. -/
namespace Go.Proofs.YtpkkomifenlkaaaGreat.Gp
open Go Go.RowKit Gm

theorem rc_cells {V : World} {g : Nat} {l : List (Int × Int)} (hr : RowIs V g l) : ∀ j u, (rc l)[j]? = some u → V.cell? ((⟨g, 0, none⟩ : Addr).add j) = some u := by
  intro j u h
  have hj : j < l.length * 2 := by rw [← rc_len]; exact (List.getElem?_eq_some_iff.1 h).1
  have hlt : j / 2 < l.length := by omega
  have hx := hr.2 (j / 2) _ (List.getElem?_eq_getElem hlt)
  have hc := rc_at l (j / 2) _ (List.getElem?_eq_getElem hlt)
  rw [Nat.zero_add] at hx
  rw [Addr.add_lit, Nat.zero_add]
  rcases (by omega : j % 2 = 0 ∨ j % 2 = 1) with e | e
  · have e2 : j = j / 2 * 2 := by omega
    rw [← e2] at hx hc
    rw [← h, hc.1]
    exact hx.1
  · have e2 : j = j / 2 * 2 + 1 := by omega
    rw [← e2] at hx hc
    rw [← h, hc.2]
    exact hx.2
theorem rc_one : ∀ (l : List (Int × Int)), ∀ u ∈ rc l, u.oneCell' = true := by
  intro l u hu
  unfold rc at hu
  obtain ⟨x, _, hx⟩ := List.mem_flatMap.1 hu
  simp at hx
  rcases hx with rfl | rfl <;> rfl
/-- runs that a call handed out, laid from block base on -/
def RunsV (base : Nat) (v : Value) (ls : List (Int × Int)) (w : World) : Prop :=
  (v = .slice none 0 0 ∧ ls = []) ∨ ∃ g c, v = .slice (some ⟨g, 0, none⟩) ls.length c ∧ base ≤ g ∧ RowIs w g ls ∧ ∀ i, w.frozen? ⟨g, i, none⟩ = false
theorem own_runs {V : World} {base n : Nat} {v : Value} {l : List (Int × Int)} (hn : n = l.length) (h : V.ownsRow base TRn 2 v n (rc l)) : RunsV base v l V := by
  subst hn
  have h0 := h
  rcases h.2 with ⟨h2, h3⟩ | ⟨g, cap, cur, rfl, hg, hh, r⟩
  · exact Or.inl ⟨h2, List.eq_nil_of_length_eq_zero h3⟩
  · exact Or.inr ⟨g, cap, rfl, hg, row_is h0, fun i => by simp [World.frozen?, hh]⟩
set_option maxRecDepth 20000 in
set_option maxHeartbeats 2000000 in
theorem clone_row (g cap : Nat) (l : List (Int × Int)) (hl : l.length ≤ 1000) (W : World) (hr : RowIs W g l) : Calls Tryz.prog 51 #[.slice (some ⟨g, 0, none⟩) l.length cap] W fun e w' => ∃ v2, e = .returned v2 ∧ RunsV W.heap.size v2 l w' ∧ Below W.heap.size W w' := by
  obtain ⟨i0, hi, hz0, hz1, hz2⟩ := info_partsN infoRn
  obtain ⟨n, hn⟩ : ∃ n, n = l.length := ⟨_, rfl⟩
  rw [← hn]
  have he : (binOp .eql 110 (.slice (some ⟨g, 0, none⟩) n cap) (.slice none 0 0)).run Tryz.prog W = .ok (.bool false) W := by kernel_rfl
  have b1 := (Below.refl W.heap.size W).alloc (Nat.le_refl _) (.cells #[] TRn)
  have hE : (W.alloc (.cells #[] TRn)).ownsRow W.heap.size TRn 2 (.slice (some ⟨W.heap.size, 0, none⟩) 0 0) 0 [] := ⟨rfl, Or.inr ⟨W.heap.size, 0, #[], rfl, Nat.le_refl _, heap_alloc_new W _, Nat.le_refl _, by decide, rfl, rfl⟩⟩
  have hc := Lib.hid (rc_cells (hr.below b1))
  have HE := Lib.hid hE
  have HB := Lib.hid b1
  have HN := Lib.hid hn
  have hl2 : n ≤ 1000 := by omega
  have HL : Hid ((rc l).length = n * 2) := Lib.hid (by rw [rc_len, hn])
  clear b1 hE hr hn hl
  go_enter Tryz.func51, Tryz.ntmps51
  go_wp2_with (at_builtin; refine wpList_append_own _ rfl _ _ 110 rfl W.heap.size TRn i0 (.agg #[.int .u64 0, .int .u64 0]) 2 16 Tryz.underlying110 hi hz0 hz1 hz2 rfl (by decide) _ _ _ rfl HE.out ⟨g, 0, none⟩ n cap (rc l) rfl HL.out hc.out (rc_one l) (by unfold maxLen; omega) (by omega) (by simp) ?_; intro v1 w2 hown hg _; have HR := Lib.hid (And.intro (own_runs (l := l) (by rw [Nat.zero_add]; exact HN.out) hown) (HB.out.grown hg (by simp) (fun k hk => by have : W.heap.size = k := (by injection hk); omega))); obtain ⟨A1, C1, rfl⟩ := own_form2 hown; clear hown hg)
  go_ret
  exact ⟨_, rfl, (by have := HR.out.1; rw [Nat.zero_add] at this; exact this), HR.out.2⟩
set_option maxRecDepth 20000 in
theorem clone_none (W : World) : Calls Tryz.prog 51 #[.slice none 0 0] W fun e w' => ∃ v2, e = .returned v2 ∧ RunsV W.heap.size v2 [] w' ∧ Below W.heap.size W w' := by
  have he : (binOp .eql 110 (.slice none 0 0) (.slice none 0 0)).run Tryz.prog W = .ok (.bool true) W := by kernel_rfl
  go_enter Tryz.func51, Tryz.ntmps51
  go_wp2
  go_ret
  exact ⟨_, rfl, Or.inl ⟨rfl, rfl⟩, Below.refl _ _⟩
theorem clone_v (v : Value) (l : List (Int × Int)) (hl : l.length ≤ 1000) (W : World) (hv : VIs W v l) : Calls Tryz.prog 51 #[v] W fun e w' => ∃ v2, e = .returned v2 ∧ RunsV W.heap.size v2 l w' ∧ Below W.heap.size W w' := by
  rcases hv with ⟨rfl, rfl⟩ | ⟨g, cap, rfl, -, hr⟩
  · exact clone_none W
  · exact clone_row g cap l hl W hr
theorem sort_v (base : Nat) (v : Value) (l : List (Int × Int)) (hl : l.length ≤ 1000) (W : World) (hv : RunsV base v l W) : Calls Tryz.prog 52 #[.iface 110 v] W fun e w' => e = .returned (.tuple #[]) ∧ ∃ ls, RunsV base v ls w' ∧ ls.Perm l ∧ (ls.Pairwise fun x y => x.1 ≤ y.1) ∧ Below base W w' := by
  rcases hv with ⟨rfl, rfl⟩ | ⟨g, c, rfl, hg, hr, hf⟩
  · refine (St.tiny_any laysSt 110 (.slice none 0 0) 151 0 (by omega) W (by kernel_rfl) (enters_of Tryz.func151 (by kernel_rfl) rfl) (rlen_any _ _ _ _)).mono ?_
    rintro e w' ⟨rfl, rfl⟩
    exact ⟨rfl, [], Or.inl ⟨rfl, rfl⟩, List.Perm.refl _, List.Pairwise.nil, Below.refl _ _⟩
  · refine (sort_runs g c l hl W hr hf).mono ?_
    rintro e w' ⟨rfl, ls, h1, h2, h3, h4, h5, h6⟩
    exact ⟨rfl, ls, Or.inr ⟨g, c, by rw [h1.length_eq], hg, h3, h6⟩, h1, h2, h4.mono hg⟩
set_option maxRecDepth 20000 in
theorem runs_any (H : Nat) (v : Value) (l : List (Int × Int)) (hl : l.length ≤ 1000) (W : World) (h : HpIs W H v l) : Calls Tryz.prog 30 #[.pointer (some ⟨H, 0, none⟩)] W fun e w' => ∃ v2 ls, e = .returned v2 ∧ RunsV W.heap.size v2 ls w' ∧ ls.Perm l ∧ (ls.Pairwise fun x y => x.1 ≤ y.1) ∧ Below W.heap.size W w' := by
  have c0 := cell_of_row W H 0 _ _ (0, 0) h.box
  have HC := Lib.hid (clone_v v l hl W h.row)
  have HL := Lib.hid hl
  clear h hl
  go_enter Tryz.func30, Tryz.ntmps30
  go_wp2_with fail
  refine HC.out.mono ?_
  rintro _ w1 ⟨v2, rfl, hr, b1⟩
  have HS := Lib.hid (sort_v W.heap.size v2 l HL.out w1 hr)
  have HB := Lib.hid b1
  have hv2 : ∃ A n c, v2 = .slice A n c := by
    rcases hr with ⟨rfl, -⟩ | ⟨g, c, rfl, -⟩
    · exact ⟨_, _, _, rfl⟩
    · exact ⟨_, _, _, rfl⟩
  obtain ⟨A2, n2, k2, rfl⟩ := hv2
  clear hr b1
  go_wp2_with fail
  refine HS.out.mono ?_
  rintro _ w2 ⟨rfl, ls, h1, h2, h3, h4⟩
  have HE := Lib.hid (And.intro h1 (And.intro h2 (And.intro h3 (HB.out.trans h4))))
  clear h1 h2 h3 h4
  go_wp2
  go_ret
  exact ⟨_, ls, rfl, HE.out.1, HE.out.2.1, HE.out.2.2.1, HE.out.2.2.2⟩
end Go.Proofs.YtpkkomifenlkaaaGreat.Gp
/- gap: Put, Has, Len, Take of a heap that stands for numbers. -/
namespace Go.Proofs.YtpkkomifenlkaaaGreat.Gp
open Go Go.RowKit Gm

set_option maxRecDepth 20000 in
theorem put_has (H : Nat) (v : Value) (l : List (Int × Int)) (n : Int) (W : World) (h : HpIs W H v l) (hn : n ≠ 18446744073709551615) (hi : decide (0 ≤ seek (p_in n) l 0) = true) : Calls Tryz.prog 49 #[.pointer (some ⟨H, 0, none⟩), .int .u64 n] W fun e w' => e = .returned (.int .i64 7) ∧ Below W.heap.size W w' := by
  have hb := heap_alloc_new W (.cells #[.int .u64 n] 22)
  have b1 := (Below.refl W.heap.size W).alloc (Nat.le_refl _) (.cells #[.int .u64 n] 22)
  obtain ⟨w0, hw0⟩ : ∃ X, X = W.alloc (.cells #[.int .u64 n] 22) := ⟨_, rfl⟩
  rw [← hw0] at hb b1
  have c0 := cell_of_row w0 W.heap.size 0 _ _ (0, 0) hb
  have HHas := Lib.hid (has_any H v l n w0 (h.below b1))
  rw [hi] at HHas
  have HB := Lib.hid b1
  clear h hi b1 hb
  go_enter Tryz.func49, Tryz.ntmps49
  go_upto_region 1 with fail
  rw [← hw0]
  clear hw0
  go_wp2_with fail
  refine HHas.out.mono ?_
  rintro _ w1 ⟨rfl, b2⟩
  have HB2 := Lib.hid b2
  clear b2
  go_wp2
  go_ret
  exact ⟨rfl, HB.out.trans (HB2.out.mono HB.out.size)⟩
theorem sum2_take (l : List (Int × Int)) (k : Nat) (h : k < l.length) : sum2 (l.take (k + 1)) = sum2 (l.take k) + l[k].2 := by
  unfold sum2
  rw [List.take_succ_eq_append_getElem h, List.map_append, List.sum_append]
  simp
theorem sum2_bd (l : List (Int × Int)) (hok : ∀ x ∈ l, 0 ≤ x.2) : ∀ k, 0 ≤ sum2 (l.take k) ∧ sum2 (l.take k) ≤ sum2 l := by
  have nn : ∀ (l : List (Int × Int)), (∀ x ∈ l, 0 ≤ x.2) → 0 ≤ sum2 l := by
    intro l
    induction l with
    | nil => intro _; exact Int.le_refl _
    | cons x l ih =>
      intro h
      have a := ih (fun y hy => h y (by simp [hy]))
      have b := h x (by simp)
      unfold sum2 at *
      simp
      omega
  intro k
  refine ⟨nn _ fun x hx => hok x (List.mem_of_mem_take hx), ?_⟩
  have h1 := nn (l.drop k) fun x hx => hok x (List.mem_of_mem_drop hx)
  have h2 : sum2 l = sum2 (l.take k) + sum2 (l.drop k) := by
    conv => lhs; rw [← List.take_append_drop k l]
    unfold sum2
    rw [List.map_append, List.sum_append]
  omega
set_option maxRecDepth 20000 in
theorem glen_row (H g cap : Nat) (l : List (Int × Int)) (W : World) (hb : W.heap[H]? = some (.cells #[.slice (some ⟨g, 0, none⟩) l.length cap] THp (0, 0))) (hr : RowIs W g l) (hl : l.length ≤ 100000) (hok : ∀ x ∈ l, 0 ≤ x.2) (hs : sum2 l ≤ 100000) : Calls Tryz.prog 150 #[.pointer (some ⟨H, 0, none⟩)] W fun e w' => e = .returned (.int .u64 (sum2 l)) ∧ Below W.heap.size W w' := by
  have c0 := cell_of_row W H 0 _ _ (0, 0) hb
  have HR := Lib.hid hr
  have HK := Lib.hid hok
  clear hr hok hb
  go_enter Tryz.func150, Tryz.ntmps150
  go_wp2
  go_loopw [3, 13] (fun s i wr => ∃ k : Nat, i = .int .i64 (k : Int) ∧ s = .int .u64 (sum2 (l.take k)) ∧ k ≤ l.length ∧ Hid (Below W.heap.size W wr)) (fun _ i _ => l.length - (intOf i).toNat)
  case atStart => exact ⟨0, rfl, rfl, Nat.zero_le _, Lib.hid (Below.refl _ _)⟩
  case round =>
    obtain ⟨k, rfl, rfl, hk, HB⟩ := hrel
    by_cases hlt : k < l.length
    · obtain ⟨x, hx⟩ : ∃ x, l[k]? = some x := ⟨_, List.getElem?_eq_getElem hlt⟩
      have hc := (HR.out.below HB.out).2 k x hx
      have hg : l[k] = x := by have := hx; rw [List.getElem?_eq_getElem hlt] at this; exact Option.some.inj this
      have hsn := sum2_take l k hlt
      rw [hg] at hsn
      have b1 := sum2_bd l HK.out k
      have b2 := sum2_bd l HK.out (k + 1)
      have b3 : 0 ≤ x.2 := by rw [← hg]; exact HK.out _ (List.getElem_mem hlt)
      rw [hsn] at b2
      have d0 : wr.cell? ⟨g, k * 2, none⟩ = some (.int .u64 x.1) := by have := hc.1; rwa [Nat.zero_add] at this
      have d1 : wr.cell? ⟨g, k * 2 + 1, none⟩ = some (.int .u64 x.2) := by have := hc.2; rwa [Nat.zero_add] at this
      have HSn := Lib.hid hsn
      obtain ⟨s, hse⟩ : ∃ s, s = sum2 (l.take k) := ⟨_, rfl⟩
      obtain ⟨t, hte⟩ : ∃ t, t = sum2 l := ⟨_, rfl⟩
      have HSe := Lib.hid hse
      rw [← hse, ← hte] at b1 b2
      rw [← hte] at hs
      rw [← hse]
      have hw : IntKind.u64.wrap (s + x.2) = s + x.2 := IntWalk.u64_in _ (by omega)
      clear hc hx hg hsn hse
      go_wp2
      exact ⟨⟨k + 1, by go_num, by rw [HSn.out, ← HSe.out], by omega, Lib.hid (HB.out.alloc HB.out.size _)⟩, by simp [intOf]; omega⟩
    · have e : l.take k = l := List.take_of_length_le (by omega)
      rw [e]
      go_wp2
      go_ret
      exact ⟨rfl, HB.out⟩
set_option maxRecDepth 20000 in
theorem len_nil' (H : Nat) (W : World) (h : W.heap[H]? = some (.cells #[.slice none 0 0] THp (0, 0))) : Calls Tryz.prog 150 #[.pointer (some ⟨H, 0, none⟩)] W fun e w' => e = .returned (.int .u64 0) ∧ w' = W := by
  have c0 := cell_of_row W H 0 _ _ (0, 0) h
  clear h
  go_enter Tryz.func150, Tryz.ntmps150
  go_wp2
  refine wp_loop_rounds 1 ?_
  rw [rounds_succ]
  go_wp2
  go_ret
  exact ⟨rfl, rfl⟩
theorem glen_any (H : Nat) (v : Value) (l : List (Int × Int)) (W : World) (h : HpIs W H v l) (hl : l.length ≤ 100000) (hok : ∀ x ∈ l, 0 ≤ x.2) (hs : sum2 l ≤ 100000) : Calls Tryz.prog 150 #[.pointer (some ⟨H, 0, none⟩)] W fun e w' => e = .returned (.int .u64 (sum2 l)) ∧ Below W.heap.size W w' := by
  rcases h.row with ⟨rfl, rfl⟩ | ⟨g, cap, rfl, -, hr⟩
  · refine (len_nil' H W h.box).mono ?_
    rintro e w' ⟨rfl, rfl⟩
    exact ⟨rfl, Below.refl _ _⟩
  · exact glen_row H g cap l W h.box hr hl hok hs
end Go.Proofs.YtpkkomifenlkaaaGreat.Gp
/- gap: Take of any heap. -/
namespace Go.Proofs.YtpkkomifenlkaaaGreat.Gp
open Go Go.RowKit Gm

set_option maxRecDepth 20000 in
theorem take_zero (H : Nat) (W : World) : Calls Tryz.prog 48 #[.pointer (some ⟨H, 0, none⟩), .int .u64 0] W fun e w' => e = .returned (.tuple #[.int .u64 0, .int .u64 0, .int .i64 1]) ∧ w' = W := by
  go_enter Tryz.func48, Tryz.ntmps48
  go_wp2
  exact bodyPost_ret (results_tmp3 rfl _ _ _) rfl ⟨rfl, rfl⟩
set_option maxRecDepth 20000 in
theorem take_none (H cap : Nat) (A : Option Addr) (most : Int) (hm : 1 ≤ most) (W : World) (h : W.heap[H]? = some (.cells #[.slice A 0 cap] THp (0, 0))) : Calls Tryz.prog 48 #[.pointer (some ⟨H, 0, none⟩), .int .u64 most] W fun e w' => e = .returned (.tuple #[.int .u64 0, .int .u64 0, .int .i64 8]) ∧ w' = W := by
  have c0 := cell_of_row W H 0 _ _ (0, 0) h
  have hm0 : ¬ most = 0 := by omega
  clear h
  go_enter Tryz.func48, Tryz.ntmps48
  go_wp2
  exact bodyPost_ret (results_tmp3 rfl _ _ _) rfl ⟨rfl, rfl⟩
set_option maxRecDepth 20000 in
set_option maxHeartbeats 4000000 in
theorem take_full2 (B HH g cap n : Nat) (l : List (Int × Int)) (x : Int × Int) (most : Int) (W : World) (h : HpO B W HH (.slice (some ⟨g, 0, none⟩) n cap) l) (hB : B ≤ W.heap.size) (h0 : 0 < l.length) (hx : l[0] = x) (hok : Okr x) (hm : 1 ≤ most) (hle : x.2 ≤ most) (hp : Hp l.length l) :
    Calls Tryz.prog 48 #[.pointer (some ⟨HH, 0, none⟩), .int .u64 most] W fun e w' => e = .returned (.tuple #[.int .u64 x.1, .int .u64 x.2, .int .i64 0]) ∧ ∃ v' r, HpO B w' HH v' r ∧ (x :: r).Perm l ∧ Hp r.length r ∧ Below B W w' ∧ Fr HH (.slice (some ⟨g, 0, none⟩) n cap) v' W w' := by
  obtain ⟨hn, hg, hr, hf, hne⟩ := h.lies
  have hfew := h.few
  have hn1 : 1 ≤ n := by omega
  have hn2 : n ≤ 1000 := by omega
  have hn0 : ¬ n = 0 := by omega
  have hn3 : 0 < n := by omega
  have hm0 : ¬ most = 0 := by omega
  have c0 := cell_of_row W HH 0 _ _ (0, 0) h.box
  have hd := hr.2 0 x (by rw [List.getElem?_eq_getElem h0, hx])
  have d0 : W.cell? ⟨g, 0, none⟩ = some (.int .u64 x.1) := hd.1
  have d1 : W.cell? ⟨g, 1, none⟩ = some (.int .u64 x.2) := hd.2
  have hX := heap_alloc_new W (.cells #[.int .u64 x.1, .int .u64 x.2] TRn)
  have b1 := (Below.refl W.heap.size W).alloc (Nat.le_refl _) (.cells #[.int .u64 x.1, .int .u64 x.2] TRn)
  obtain ⟨w1, hw1⟩ : ∃ X, X = W.alloc (.cells #[.int .u64 x.1, .int .u64 x.2] TRn) := ⟨_, rfl⟩
  rw [← hw1] at hX b1
  have h1 := h.below b1
  have x0 := cell_of_row w1 W.heap.size 0 _ _ (0, 0) hX
  have x1 := cell_of_row w1 W.heap.size 1 _ _ (0, 0) hX
  have HP := Lib.hid (hpop_any B HH _ l w1 h1 (Nat.le_trans hB b1.size) h0 hp)
  rw [hx] at HP
  have HX := Lib.hid (And.intro hX (And.intro b1 h))
  have HB := Lib.hid hB
  unfold Okr at hok
  obtain ⟨a, b⟩ := x
  dsimp only at *
  clear hX h1 b1 h hB hp hd hr hf hx hn
  unfold IH at HP
  have hmin : min b most = b := by omega
  go_enter Tryz.func48, Tryz.ntmps48
  go_upto_region 6 with fail
  rw [← hw1]
  clear hw1
  go_wp2_with fail
  all_goals first
    | (exfalso; omega)
    | skip
  refine HP.out.mono ?_
  rintro _ w2 ⟨rfl, v2, r, h2, p2, o2, b2, f2⟩
  have hX2 := f2.lies HX.out.1 (by have := HX.out.2.2.lt; omega) (fun e => by have := HX.out.2.2.ownLt _ e.symm; omega)
  have y0 := cell_of_row w2 W.heap.size 0 _ _ (0, 0) hX2
  have HE := Lib.hid (And.intro h2 (And.intro p2 (And.intro o2 (And.intro ((HX.out.2.1.mono HB.out).trans b2) ((Fr.of_below HX.out.2.1).trans f2)))))
  clear h2 b2 f2 p2 o2 hX2 HX x0 x1 c0 d0 d1
  go_wp2
  exact bodyPost_ret (results_tmp3 rfl _ _ _) rfl ⟨rfl, _, r, HE.out⟩
set_option maxRecDepth 20000 in
set_option maxHeartbeats 4000000 in
theorem take_part2 (B HH g cap n : Nat) (l : List (Int × Int)) (x : Int × Int) (most : Int) (W : World) (h : HpO B W HH (.slice (some ⟨g, 0, none⟩) n cap) l) (hB : B ≤ W.heap.size) (h0 : 0 < l.length) (hx : l[0] = x) (hok : Okr x) (hm : 1 ≤ most) (hle : most < x.2) :
    Calls Tryz.prog 48 #[.pointer (some ⟨HH, 0, none⟩), .int .u64 most] W fun e w' => e = .returned (.tuple #[.int .u64 x.1, .int .u64 most, .int .i64 0]) ∧ ∃ v', HpO B w' HH v' (l.set 0 (x.1 + most, x.2 - most)) ∧ Below B W w' ∧ Fr HH (.slice (some ⟨g, 0, none⟩) n cap) v' W w' := by
  obtain ⟨hn, hg, hr, hf, hne⟩ := h.lies
  have hfew := h.few
  have hn1 : 1 ≤ n := by omega
  have hn2 : n ≤ 1000 := by omega
  have hn0 : ¬ n = 0 := by omega
  have hn3 : 0 < n := by omega
  have hm0 : ¬ most = 0 := by omega
  have c0 := cell_of_row W HH 0 _ _ (0, 0) h.box
  have hd := hr.2 0 x (by rw [List.getElem?_eq_getElem h0, hx])
  have d0 : W.cell? ⟨g, 0, none⟩ = some (.int .u64 x.1) := hd.1
  have d1 : W.cell? ⟨g, 1, none⟩ = some (.int .u64 x.2) := hd.2
  have hX := heap_alloc_new W (.cells #[.int .u64 x.1, .int .u64 x.2] TRn)
  have b1 := (Below.refl W.heap.size W).alloc (Nat.le_refl _) (.cells #[.int .u64 x.1, .int .u64 x.2] TRn)
  obtain ⟨w1, hw1⟩ : ∃ X, X = W.alloc (.cells #[.int .u64 x.1, .int .u64 x.2] TRn) := ⟨_, rfl⟩
  rw [← hw1] at hX b1
  have h1 := h.below b1
  have x0 := cell_of_row w1 W.heap.size 0 _ _ (0, 0) hX
  have x1 := cell_of_row w1 W.heap.size 1 _ _ (0, 0) hX
  unfold Okr at hok
  have hgW : g < W.heap.size := hr.1
  have hr1 := hr.below b1
  have e0 : w1.cell? ⟨g, 0, none⟩ = some (.int .u64 x.1) := (hr1.2 0 x (by rw [List.getElem?_eq_getElem h0, hx])).1
  have e1 : w1.cell? ⟨g, 1, none⟩ = some (.int .u64 x.2) := (hr1.2 0 x (by rw [List.getElem?_eq_getElem h0, hx])).2
  have ef : ∀ i, w1.frozen? ⟨g, i, none⟩ = false := fun i => (b1.frozen (p := ⟨g, i, none⟩) hgW).trans (hf i)
  have hrow : ((w1.drew.setCell ⟨g, 0, none⟩ (.int .u64 (x.1 + most))).setCell ⟨g, 1, none⟩ (.int .u64 (x.2 - most))).ownsRow B TRn 2 (.slice (some ⟨g, 0, none⟩) n cap) n (rc (l.set 0 (x.1 + most, x.2 - most))) := by
    have a1 := h1.drew.row
    rw [← hn] at a1
    have := ((a1.stored 0 (.int .u64 (x.1 + most))).1.stored 1 (.int .u64 (x.2 - most))).1
    have e := rc_set l 0 (x.1 + most, x.2 - most)
    rw [← e]
    exact this
  have hbox : ((w1.drew.setCell ⟨g, 0, none⟩ (.int .u64 (x.1 + most))).setCell ⟨g, 1, none⟩ (.int .u64 (x.2 - most))).heap[HH]? = some (.cells #[.slice (some ⟨g, 0, none⟩) n cap] THp (0, 0)) := by rw [Below.heap_setCell _ _ _ _ hne, Below.heap_setCell _ _ _ _ hne]; exact h1.box
  have hlo : ((w1.drew.setCell ⟨g, 0, none⟩ (.int .u64 (x.1 + most))).setCell ⟨g, 1, none⟩ (.int .u64 (x.2 - most))).heap[W.heap.size]? = some (.cells #[.int .u64 x.1, .int .u64 x.2] TRn (0, 0)) := by rw [Below.heap_setCell _ _ _ _ (by show W.heap.size ≠ g; omega), Below.heap_setCell _ _ _ _ (by show W.heap.size ≠ g; omega)]; exact hX
  have HE : Hid (HpO B ((w1.drew.setCell ⟨g, 0, none⟩ (.int .u64 (x.1 + most))).setCell ⟨g, 1, none⟩ (.int .u64 (x.2 - most))) HH (.slice (some ⟨g, 0, none⟩) n cap) (l.set 0 (x.1 + most, x.2 - most)) ∧ Below B W ((w1.drew.setCell ⟨g, 0, none⟩ (.int .u64 (x.1 + most))).setCell ⟨g, 1, none⟩ (.int .u64 (x.2 - most))) ∧ ((w1.drew.setCell ⟨g, 0, none⟩ (.int .u64 (x.1 + most))).setCell ⟨g, 1, none⟩ (.int .u64 (x.2 - most))).heap[HH]? = some (.cells #[.slice (some ⟨g, 0, none⟩) n cap] THp (0, 0)) ∧ ((w1.drew.setCell ⟨g, 0, none⟩ (.int .u64 (x.1 + most))).setCell ⟨g, 1, none⟩ (.int .u64 (x.2 - most))).heap[W.heap.size]? = some (.cells #[.int .u64 x.1, .int .u64 x.2] TRn (0, 0))) :=
    Lib.hid ⟨⟨hbox, h.low, by rw [List.length_set, ← hn]; exact hrow, by rw [List.length_set]; exact hfew⟩, Below.setCell (p := ⟨g, 1, none⟩) (Below.setCell (p := ⟨g, 0, none⟩) (b1.drew.mono hB) hg _) hg _, hbox, hlo⟩
  have HX := Lib.hid (And.intro h1.box hX)
  have HFr : Hid (Fr HH (.slice (some ⟨g, 0, none⟩) n cap) (.slice (some ⟨g, 0, none⟩) n cap) W ((w1.drew.setCell ⟨g, 0, none⟩ (.int .u64 (x.1 + most))).setCell ⟨g, 1, none⟩ (.int .u64 (x.2 - most)))) := Lib.hid (((Fr.of_below b1.drew).set rfl).set rfl)
  have s1 : IntKind.u64.wrap (x.1 + most) = x.1 + most := IntWalk.u64_in _ (by omega)
  have s2 : IntKind.u64.wrap (x.2 - most) = x.2 - most := IntWalk.u64_in _ (by omega)
  obtain ⟨a, b⟩ := x
  dsimp only at *
  have hmin : min b most = most := by omega
  clear hrow hbox hlo h1 b1 h hB hX hr1 hr hd hf hx hn
  go_enter Tryz.func48, Tryz.ntmps48
  go_upto_region 6 with fail
  rw [← hw1]
  clear hw1
  have hmb : (most == b) = false := by simp; omega
  go_upto_region 9 with fail
  all_goals first
    | (exfalso; omega)
    | skip
  clear c0 d0 d1
  refine wp_region_held_drew (S := (fun V => V.heap[HH]? = some (.cells #[.slice (some ⟨g, 0, none⟩) n cap] THp (0, 0)) ∧ V.heap[W.heap.size]? = some (.cells #[.int .u64 a, .int .u64 b] TRn (0, 0)))) (by kernel_rfl) HX.out (fun hHeld => ?_)
  refine wpAnyH_take (i := 0) (oi := _) (v := ?_) rfl (by kernel_rfl) (by kernel_rfl) (by kernel_rfl) (fun _ _ _ h => h) (Or.inl ⟨by rfl, ?_⟩) (by assumption) ?_
  rotate_left
  · (intro W hSw; (try dsimp only at hSw); go_simp; try with_reducible rfl)
  try simp only [Act.put, List.getElem_toArray, List.getElem_cons_zero, List.setIfInBounds_toArray, List.set_cons_zero, List.set_cons_succ]
  refine wpAnyH_take (i := 1) (oi := _) (v := ?_) rfl (by kernel_rfl) (by kernel_rfl) (by kernel_rfl) (fun _ _ _ h => h) (Or.inl ⟨by rfl, ?_⟩) (by assumption) ?_
  rotate_left
  · (intro W hSw; (try dsimp only at hSw); go_simp; try with_reducible rfl)
  try simp only [Act.put, List.getElem_toArray, List.getElem_cons_succ, List.getElem_cons_zero, List.setIfInBounds_toArray, List.set_cons_zero, List.set_cons_succ]
  refine wpAnyH_take (i := 2) (oi := _) (v := ?_) rfl (by kernel_rfl) (by kernel_rfl) (by kernel_rfl) (fun _ _ _ h => h) (Or.inl ⟨by rfl, ?_⟩) (by assumption) ?_
  rotate_left
  · (intro W hSw; (try dsimp only at hSw); go_simp; try with_reducible rfl)
  try simp only [Act.put, List.getElem_toArray, List.getElem_cons_succ, List.getElem_cons_zero, List.setIfInBounds_toArray, List.set_cons_zero, List.set_cons_succ]
  refine wpAnyH_take (i := 3) (oi := _) (v := ?_) rfl (by kernel_rfl) (by kernel_rfl) (by kernel_rfl) (fun _ _ _ h => h) (Or.inl ⟨by rfl, ?_⟩) (by assumption) ?_
  rotate_left
  · (intro V hSw; have q0 := cell_of_row V HH 0 _ _ (0, 0) hSw.1; have q1 := cell_of_row V W.heap.size 0 _ _ (0, 0) hSw.2; have q2 := cell_of_row V W.heap.size 1 _ _ (0, 0) hSw.2; clear hSw; go_simp; try with_reducible rfl)
  try simp only [Act.put, List.getElem_toArray, List.getElem_cons_succ, List.getElem_cons_zero, List.setIfInBounds_toArray, List.set_cons_zero, List.set_cons_succ]
  refine wpAnyH_take (i := 4) (oi := _) (v := ?_) rfl (by kernel_rfl) (by kernel_rfl) (by kernel_rfl) (fun _ _ _ h => h) (Or.inl ⟨by rfl, ?_⟩) (by assumption) ?_
  rotate_left
  · (intro W hSw; (try dsimp only at hSw); go_simp; try with_reducible rfl)
  try simp only [Act.put, List.getElem_toArray, List.getElem_cons_succ, List.getElem_cons_zero, List.setIfInBounds_toArray, List.set_cons_zero, List.set_cons_succ]
  refine wpAnyH_take (i := 5) (oi := _) (v := ?_) rfl (by kernel_rfl) (by kernel_rfl) (by kernel_rfl) (fun _ _ _ h => h) (Or.inl ⟨by rfl, ?_⟩) (by assumption) ?_
  rotate_left
  · (intro V hSw; have q0 := cell_of_row V HH 0 _ _ (0, 0) hSw.1; have q1 := cell_of_row V W.heap.size 0 _ _ (0, 0) hSw.2; have q2 := cell_of_row V W.heap.size 1 _ _ (0, 0) hSw.2; clear hSw; go_simp; try with_reducible rfl)
  try simp only [Act.put, List.getElem_toArray, List.getElem_cons_succ, List.getElem_cons_zero, List.setIfInBounds_toArray, List.set_cons_zero, List.set_cons_succ]
  refine wpAnyH_take (i := 6) (oi := _) (v := ?_) rfl (by kernel_rfl) (by kernel_rfl) (by kernel_rfl) (fun _ _ _ h => h) (Or.inl ⟨by rfl, ?_⟩) (by assumption) ?_
  rotate_left
  · (intro W hSw; (try dsimp only at hSw); go_simp; try with_reducible rfl)
  try simp only [Act.put, List.getElem_toArray, List.getElem_cons_succ, List.getElem_cons_zero, List.setIfInBounds_toArray, List.set_cons_zero, List.set_cons_succ]
  refine wpAnyH_take (i := 7) (oi := _) (v := ?_) rfl (by kernel_rfl) (by kernel_rfl) (by kernel_rfl) (fun _ _ _ h => h) (Or.inl ⟨by rfl, ?_⟩) (by assumption) ?_
  rotate_left
  · (intro W hSw; (try dsimp only at hSw); go_simp; try with_reducible rfl)
  try simp only [Act.put, List.getElem_toArray, List.getElem_cons_succ, List.getElem_cons_zero, List.setIfInBounds_toArray, List.set_cons_zero, List.set_cons_succ]
  refine wpAnyH_take (i := 8) (oi := _) (v := ?_) rfl (by kernel_rfl) (by kernel_rfl) (by kernel_rfl) (fun _ _ _ h => h) (Or.inl ⟨by rfl, ?_⟩) (by assumption) ?_
  rotate_left
  · (intro W hSw; (try dsimp only at hSw); go_simp; try with_reducible rfl)
  try simp only [Act.put, List.getElem_toArray, List.getElem_cons_succ, List.getElem_cons_zero, List.setIfInBounds_toArray, List.set_cons_zero, List.set_cons_succ]
  refine wpAnyH_take (i := 9) (oi := _) (v := ?_) rfl (by kernel_rfl) (by kernel_rfl) (by kernel_rfl) (fun _ _ _ h => h) (Or.inl ⟨by rfl, ?_⟩) (by assumption) ?_
  rotate_left
  · (intro V hSw; have q0 := cell_of_row V HH 0 _ _ (0, 0) hSw.1; have q1 := cell_of_row V W.heap.size 0 _ _ (0, 0) hSw.2; have q2 := cell_of_row V W.heap.size 1 _ _ (0, 0) hSw.2; clear hSw; go_simp; try with_reducible rfl)
  try simp only [Act.put, List.getElem_toArray, List.getElem_cons_succ, List.getElem_cons_zero, List.setIfInBounds_toArray, List.set_cons_zero, List.set_cons_succ]
  refine wpAnyH_take (i := 10) (oi := _) (v := ?_) rfl (by kernel_rfl) (by kernel_rfl) (by kernel_rfl) (fun _ _ _ h => h) (Or.inl ⟨by rfl, ?_⟩) (by assumption) ?_
  rotate_left
  · (intro W hSw; (try dsimp only at hSw); go_simp; try with_reducible rfl)
  try simp only [Act.put, List.getElem_toArray, List.getElem_cons_succ, List.getElem_cons_zero, List.setIfInBounds_toArray, List.set_cons_zero, List.set_cons_succ]
  refine wpAnyH_take (i := 11) (oi := _) (v := ?_) rfl (by kernel_rfl) (by kernel_rfl) (by kernel_rfl) (fun _ _ _ h => h) (Or.inl ⟨by rfl, ?_⟩) (by assumption) ?_
  rotate_left
  · (intro W hSw; (try dsimp only at hSw); go_simp; try with_reducible rfl)
  try simp only [Act.put, List.getElem_toArray, List.getElem_cons_succ, List.getElem_cons_zero, List.setIfInBounds_toArray, List.set_cons_zero, List.set_cons_succ]
  refine wpAnyH_take (i := 12) (oi := _) (v := ?_) rfl (by kernel_rfl) (by kernel_rfl) (by kernel_rfl) (fun _ _ _ h => h) (Or.inl ⟨by rfl, ?_⟩) (by assumption) ?_
  rotate_left
  · (intro W hSw; (try dsimp only at hSw); go_simp; try with_reducible rfl)
  try simp only [Act.put, List.getElem_toArray, List.getElem_cons_succ, List.getElem_cons_zero, List.setIfInBounds_toArray, List.set_cons_zero, List.set_cons_succ]
  refine wpAnyH_take (i := 13) (oi := _) (v := ?_) rfl (by kernel_rfl) (by kernel_rfl) (by kernel_rfl) (fun _ _ _ h => h) (Or.inl ⟨by rfl, ?_⟩) (by assumption) ?_
  rotate_left
  · (intro W hSw; (try dsimp only at hSw); go_simp; try with_reducible rfl)
  try simp only [Act.put, List.getElem_toArray, List.getElem_cons_succ, List.getElem_cons_zero, List.setIfInBounds_toArray, List.set_cons_zero, List.set_cons_succ]
  refine wpAnyH_ready (rs := [14]) (by kernel_rfl) (by simp) ?_
  refine AllReadyH.cons rfl (fun K hK => ?_) AllReadyH.nil
  simp only [List.getElem_toArray, List.getElem_cons_succ, List.getElem_cons_zero]
  rw [if_pos (by rfl)]
  go_simp
  refine hK.out _ _ HE.out.2.2 (fun hHeld => ?_)
  clear hK K
  try simp only [Act.put, List.getElem_toArray, List.getElem_cons_succ, List.getElem_cons_zero, List.setIfInBounds_toArray, List.set_cons_zero, List.set_cons_succ]
  refine wpAnyH_done (by kernel_rfl) ?_ _
  have HE2 : Hid (HpO B ((w1.setCell ⟨g, 0, none⟩ (.int .u64 (a + most))).setCell ⟨g, 1, none⟩ (.int .u64 (b - most))).drew HH (.slice (some ⟨g, 0, none⟩) n cap) (l.set 0 (a + most, b - most)) ∧ Below B W ((w1.setCell ⟨g, 0, none⟩ (.int .u64 (a + most))).setCell ⟨g, 1, none⟩ (.int .u64 (b - most))).drew ∧ ((w1.setCell ⟨g, 0, none⟩ (.int .u64 (a + most))).setCell ⟨g, 1, none⟩ (.int .u64 (b - most))).drew.heap[HH]? = some (.cells #[.slice (some ⟨g, 0, none⟩) n cap] THp (0, 0)) ∧ ((w1.setCell ⟨g, 0, none⟩ (.int .u64 (a + most))).setCell ⟨g, 1, none⟩ (.int .u64 (b - most))).drew.heap[W.heap.size]? = some (.cells #[.int .u64 a, .int .u64 b] TRn (0, 0))) := HE
  clear HE
  have hne1 : ¬ W.heap.size = g := by omega
  have hne2 : ¬ g = W.heap.size := by omega
  have y0 : ((w1.setCell ⟨g, 0, none⟩ (.int .u64 (a + most))).setCell ⟨g, 1, none⟩ (.int .u64 (b - most))).drew.cell? ⟨W.heap.size, 0, none⟩ = some (.int .u64 a) := cell_of_row _ W.heap.size 0 _ _ (0, 0) HE2.out.2.2.2
  clear e0 e1 ef hHeld
  go_wp2
  refine bodyPost_ret (results_tmp3 rfl _ _ _) rfl ?_
  exact ⟨rfl, _, HE2.out.1, HE2.out.2.1, HFr.out⟩
end Go.Proofs.YtpkkomifenlkaaaGreat.Gp
/- gap: a heap that stands for numbers. -/
namespace Go.Proofs.YtpkkomifenlkaaaGreat.Gp
open Go Go.RowKit Gm

/-- the heap in block HH stands for the numbers L; nothing of it lies below block B -/
structure GH (B : Nat) (W : World) (HH : Nat) (v : Value) (L : List Int) : Prop where
  ex : ∃ l, HpO B W HH v l ∧ Hp l.length l ∧ Rep l L
  few : L.length ≤ 900
theorem GH.rise {B HH : Nat} {W : World} {v : Value} {L : List Int} (h : GH B W HH v L) : L.Pairwise (· < ·) := by
  obtain ⟨l, _, _, h3⟩ := h.ex; exact h3.sorted
theorem GH.below {B HH : Nat} {W V : World} {v : Value} {L : List Int} (h : GH B W HH v L) (hb : Below W.heap.size W V) : GH B V HH v L := by
  obtain ⟨l, h1, h2, h3⟩ := h.ex
  exact ⟨⟨l, h1.below hb, h2, h3⟩, h.few⟩
theorem GH.lt {B HH : Nat} {W : World} {v : Value} {L : List Int} (h : GH B W HH v L) : HH < W.heap.size := by
  obtain ⟨l, h1, _, _⟩ := h.ex; exact h1.lt
theorem GH.ownLt {B HH : Nat} {W : World} {v : Value} {L : List Int} (h : GH B W HH v L) : ∀ k, v.ownBlock = some k → k < W.heap.size := by
  obtain ⟨l, h1, _, _⟩ := h.ex; exact h1.ownLt
theorem GH.new (W : World) : GH W.heap.size (W.alloc (.cells #[.slice none 0 0] THp)) W.heap.size (.slice none 0 0) [] :=
  ⟨⟨[], ⟨heap_alloc_new W _, Nat.le_refl _, ⟨rfl, Or.inl ⟨rfl, rfl⟩⟩, by simp⟩, fun k _ h => by simp at h, Rep.nil⟩, by simp⟩
theorem in_dec {l : List (Int × Int)} {L : List Int} (h : Rep l L) (n : Int) (h1 : n ≤ 18446744073709551615) : decide (0 ≤ seek (p_in n) l 0) = decide (n ∈ L) := by
  rw [decide_eq_decide, h.mem n]
  rcases seek_or (p_in n) l with ⟨e, e2⟩ | ⟨i, hi, e, e2⟩
  · rw [e]
    refine ⟨fun h => absurd h (by decide), fun ⟨x, hx, hin⟩ => ?_⟩
    have := (in_iff (h.ok x hx) h1).2 hin
    rw [e2 x hx] at this
    cases this
  · rw [e]
    exact ⟨fun _ => ⟨_, List.getElem_mem hi, (in_iff (h.ok _ (List.getElem_mem hi)) h1).1 e2⟩, fun _ => Int.natCast_nonneg _⟩
theorem ghas_any (B HH : Nat) (v : Value) (L : List Int) (n : Int) (W : World) (h : GH B W HH v L) (h1 : n ≤ 18446744073709551615) : Calls Tryz.prog 67 #[.pointer (some ⟨HH, 0, none⟩), .int .u64 n] W fun e w' => e = .returned (.bool (decide (n ∈ L))) ∧ Below W.heap.size W w' := by
  obtain ⟨l, a, _, c⟩ := h.ex
  rw [← in_dec c n h1]
  exact has_any HH v l n W a.is
theorem gput_any (B HH : Nat) (v : Value) (L : List Int) (n : Int) (W : World) (h : GH B W HH v L) (hB : B ≤ W.heap.size) (h0 : 0 ≤ n) (h1 : n ≤ 18446744073709551615) (hf : L.length < 900) :
    Calls Tryz.prog 49 #[.pointer (some ⟨HH, 0, none⟩), .int .u64 n] W fun e w' => e = .returned (.int .i64 (putC n L)) ∧ ∃ v', GH B w' HH v' (putS n L) ∧ Below B W w' ∧ Fr HH v v' W w' := by
  obtain ⟨l, a, b, c⟩ := h.ex
  unfold putC putS
  by_cases ht : n = 18446744073709551615
  · rw [if_pos ht, if_pos (Or.inl ht)]
    subst ht
    refine (put_top HH W).mono ?_
    rintro e w' ⟨rfl, hb⟩
    exact ⟨rfl, v, h.below hb, hb.mono hB, Fr.of_below hb⟩
  · rw [if_neg ht]
    by_cases hm : n ∈ L
    · rw [if_pos hm, if_pos (Or.inr hm)]
      refine (put_has HH v l n W a.is ht (by rw [in_dec c n h1]; exact decide_eq_true hm)).mono ?_
      rintro e w' ⟨rfl, hb⟩
      exact ⟨rfl, v, h.below hb, hb.mono hB, Fr.of_below hb⟩
    · rw [if_neg hm, if_neg (by rintro (e | e); exact ht e; exact hm e)]
      refine (put_go B HH v l n W a hB h0 (by omega) c.ok (fun x hx hi => hm ((c.mem n).2 ⟨x, hx, hi⟩)) (by have := c.few; omega) b).mono ?_
      rintro e w' ⟨rfl, v', l', a', b', rest, e1, e2, e3, e4, e5, e6, e7, e8⟩
      exact ⟨rfl, v', ⟨⟨l', e1, e2, c.put_ok h0 (by omega) hm a' b' e5 e6 e7 e8⟩, by rw [putL_len]; omega⟩, e3, e4⟩
theorem glenH (B HH : Nat) (v : Value) (L : List Int) (W : World) (h : GH B W HH v L) : Calls Tryz.prog 150 #[.pointer (some ⟨HH, 0, none⟩)] W fun e w' => e = .returned (.int .u64 (L.length : Int)) ∧ Below W.heap.size W w' := by
  obtain ⟨l, a, _, c⟩ := h.ex
  rw [c.len]
  have := c.len
  have := h.few
  exact glen_any HH v l W a.is (by have := c.few; omega) (fun x hx => by have := c.ok x hx; unfold Okr at this; omega) (by omega)
theorem grunsH (B HH : Nat) (v : Value) (L : List Int) (W : World) (h : GH B W HH v L) : Calls Tryz.prog 30 #[.pointer (some ⟨HH, 0, none⟩)] W fun e w' => ∃ v2 ls, e = .returned v2 ∧ RunsV W.heap.size v2 ls w' ∧ Srt ls ∧ L = expd ls ∧ Below W.heap.size W w' := by
  obtain ⟨l, a, _, c⟩ := h.ex
  refine (runs_any HH v l (by have := c.few; have := h.few; omega) W a.is).mono ?_
  rintro e w' ⟨v2, ls, rfl, h1, h2, h3, h4⟩
  obtain ⟨s, e⟩ := c.srt h2 h3
  exact ⟨v2, ls, rfl, h1, s, e, h4⟩
/-- what Take takes: the first number, how many, the code -/
def tkF (most : Int) (L : List Int) : Int := if most = 0 ∨ L = [] then 0 else L.headD 0
def tkM (most : Int) (L : List Int) : Int := if most = 0 ∨ L = [] then 0 else min (lng L : Int) most
def tkC (most : Int) (L : List Int) : Int := if most = 0 then 1 else if L = [] then 8 else 0
theorem hp_set0 {l : List (Int × Int)} {x y : Int × Int} {rest : List (Int × Int)} (hl : l = x :: rest) (hp : Hp l.length l) (hy : ∀ z ∈ rest, y.1 ≤ z.1) : Hp (l.set 0 y).length (l.set 0 y) := by
  subst hl
  intro k k0 kn
  have kn' : k < (x :: rest).length := by simpa using kn
  have hk := hp k k0 kn'
  have e1 : ∀ j, 0 < j → key ((x :: rest).set 0 y) j = key (x :: rest) j := fun j j0 => by
    obtain ⟨j, rfl⟩ : ∃ i, j = i + 1 := ⟨j - 1, by omega⟩
    rfl
  rw [e1 k k0]
  by_cases e : (k - 1) / 2 = 0
  · rw [e]
    show y.1 ≤ _
    obtain ⟨j, rfl⟩ : ∃ i, k = i + 1 := ⟨k - 1, by omega⟩
    have hj : j < rest.length := by simpa using kn'
    have : key (x :: rest) (j + 1) = rest[j].1 := by unfold key; simp [List.getD_eq_getElem?_getD, hj]
    rw [this]
    exact hy _ (List.getElem_mem hj)
  · rw [e1 _ (by omega)]
    exact hk
theorem gtake_any (B HH : Nat) (v : Value) (L : List Int) (most : Int) (W : World) (h : GH B W HH v L) (hB : B ≤ W.heap.size) (h0 : 0 ≤ most) :
    Calls Tryz.prog 48 #[.pointer (some ⟨HH, 0, none⟩), .int .u64 most] W fun e w' => e = .returned (.tuple #[.int .u64 (tkF most L), .int .u64 (tkM most L), .int .i64 (tkC most L)]) ∧ ∃ v', GH B w' HH v' (L.drop (tkM most L).toNat) ∧ Below B W w' ∧ Fr HH v v' W w' := by
  unfold tkF tkM tkC
  obtain ⟨l, a, b, c⟩ := h.ex
  by_cases hm : most = 0
  · subst hm
    simp only [true_or, if_true]
    refine (take_zero HH W).mono ?_
    rintro e w' ⟨rfl, rfl⟩
    exact ⟨rfl, v, h, Below.refl _ _, Fr.of_below (Below.refl _ _)⟩
  · by_cases hL : L = []
    · have hl : l = [] := by
        cases l with
        | nil => rfl
        | cons x l =>
          have hx := c.ok x (by simp)
          have := (c.mem x.1).2 ⟨x, by simp, by unfold In; unfold Okr at hx; omega⟩
          rw [hL] at this
          cases this
      subst hl
      rw [if_pos (Or.inr hL), if_pos (Or.inr hL), if_neg hm, if_pos hL]
      obtain ⟨A, cap, hv⟩ := own_form2 a.row
      have hb := a.box
      rw [hv] at hb
      refine (take_none HH cap A most (by omega) W hb).mono ?_
      rintro e w' ⟨rfl, rfl⟩
      exact ⟨rfl, v, h, Below.refl _ _, Fr.of_below (Below.refl _ _)⟩
    · rw [if_neg (by rintro (e | e); exact hm e; exact hL e), if_neg (by rintro (e | e); exact hm e; exact hL e), if_neg hm, if_neg hL]
      have h0l : 0 < l.length := by
        cases l with
        | nil =>
          exfalso
          apply hL
          cases L with
          | nil => rfl
          | cons y L => obtain ⟨x, hx, _⟩ := (c.mem y).1 (by simp); cases hx
        | cons x l => simp
      obtain ⟨g, cap, rfl, -⟩ := own_block a.row h0l
      obtain ⟨x, hx⟩ : ∃ x, l[0] = x := ⟨_, rfl⟩
      obtain ⟨rest, hrest⟩ : ∃ rest, l = x :: rest := by
        cases l with
        | nil => cases h0l
        | cons y l => exact ⟨l, by rw [← hx]; rfl⟩
      have hok := c.ok x (by rw [hrest]; simp)
      have hmin : ∀ y ∈ l, x.1 ≤ y.1 := fun y hy => by
        have := key_mem b y hy
        rw [hrest] at this
        exact this
      have hpm : (x :: rest).Perm l := by rw [hrest]
      obtain ⟨t1, t2, t3⟩ := c.take_all hpm hmin
      have hhd : L.headD 0 = x.1 := by
        cases L with
        | nil => cases t2
        | cons y L => simpa using t2
      rw [hhd, t1]
      by_cases hle : x.2 ≤ most
      · rw [show min x.2 most = x.2 by omega]
        refine (take_full2 B HH g cap l.length l x most W a hB h0l hx hok (by omega) hle b).mono ?_
        rintro e w' ⟨rfl, v', r, e1, e2, e3, e4, e5⟩
        refine ⟨rfl, v', ⟨⟨r, e1, e3, ?_⟩, by rw [List.length_drop]; have := h.few; omega⟩, e4, e5⟩
        have hpr : rest.Perm r := (List.perm_cons x).1 (hpm.trans e2.symm)
        exact t3.perm hpr
      · rw [show min x.2 most = most by omega]
        refine (take_part2 B HH g cap l.length l x most W a hB h0l hx hok (by omega) (by omega)).mono ?_
        rintro e w' ⟨rfl, v', e1, e4, e5⟩
        refine ⟨rfl, v', ⟨⟨_, e1, ?_, ?_⟩, by rw [List.length_drop]; have := h.few; omega⟩, e4, e5⟩
        · refine hp_set0 hrest b fun z hz => ?_
          have ap := c.apart
          rw [hrest] at ap
          have h1 := (List.pairwise_cons.1 ap).1 z hz
          have h2 := hmin z (by rw [hrest]; simp [hz])
          have h3 := c.ok z (by rw [hrest]; simp [hz])
          unfold Apart at h1
          unfold Okr at h3 hok
          dsimp only
          omega
        · have := c.take_some hpm hmin most.toNat (by omega)
          rw [show ((most.toNat : Nat) : Int) = most by omega] at this
          rw [hrest]
          exact this
end Go.Proofs.YtpkkomifenlkaaaGreat.Gp
