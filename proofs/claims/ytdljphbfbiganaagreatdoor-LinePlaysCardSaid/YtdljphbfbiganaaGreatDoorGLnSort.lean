import Derived.Test.YtdljphbfbiganaaGreatDoorGMapIter
import Derived.Test.YtdljphbfbiganaaGreatDoorLnKeysN
import Derived.Test.YtdljphbfbiganaaGreatDoorLnSend
/- line: the keys of a map of one entry, gathered and sorted. -/
namespace Go.Proofs.YtdljphbfbiganaaGreatDoor.Ln
open Go Go.RowKit Go.Shelf Packet
set_option linter.unusedVariables false
attribute [local go_sem] Oper.semAt_some

set_option maxRecDepth 100000 in
set_option maxHeartbeats 2000000 in
theorem appseq_any (Bl M : Nat) (C : Array Value) (w : World) (hM : w.heap[M]? = some (.map #[ent C] 1)) (hBl : w.cell? ⟨Bl, 0, none⟩ = some (.map (some M))) (hl1 : Bl < w.heap.size) :
    Calls Tryz.prog 68 #[.slice none 0 0, .func (.func GK) #[] #[.pointer (some ⟨Bl, 0, none⟩)]] w fun e w' => (∃ u, e = .returned u ∧ w'.ownsRow w.heap.size TUu 1 u 1 (uuc [1])) ∧ Below w.heap.size w w' := by
  obtain ⟨i0, hi, hz0, hz1, hz2⟩ := info_parts infoU
  refine (callsIn_wide (n := 6)).1 ?_
  refine callsIn_of_wp_marks Tryz.func68 rfl trivial ?_
  simp only [Tryz.ntmps68, List.size_toArray, List.length_cons, List.length_nil, Nat.reduceAdd, Nat.reduceSub, Array.replicate_succ, Array.replicate_zero, List.push_toArray, List.append_toArray, List.nil_append, List.cons_append]
  gi_wp2
  have hB0 : Below w.heap.size w (w.alloc (.cells #[.slice none 0 0] TU8)) := (Below.refl _ w).alloc (Nat.le_refl _) _
  have bO := Boxed.new w TU8 (.slice none 0 0)
  have hsz : (w.alloc (.cells #[.slice none 0 0] TU8)).heap.size = w.heap.size + 1 := by simp
  have hcl : (w.alloc (.cells #[.slice none 0 0] TU8)).cell? ⟨Bl, 0, none⟩ = some (.map (some M)) := (hB0.cell (p := ⟨Bl, 0, none⟩) hl1).trans hBl
  obtain ⟨W0, hW0⟩ : ∃ W0, w.alloc (.cells #[.slice none 0 0] TU8) = W0 := ⟨_, rfl⟩
  rw [hW0] at hB0 bO hsz hcl ⊢
  clear hW0
  refine wpIn_rangeFunc_ownH rfl (by decide) (gf := GK) (lb := #[.pointer (some ⟨Bl, 0, none⟩)]) rfl trivial (enters_of Tryz.func55 (by kernel_rfl) rfl)
    (keys_stops 5 (by decide) Bl M C w W0 hM hcl (by omega) hB0) (fun h k => kpL_t h k) (kpL_b (by omega)) (Below.refl _ _) (fun _ => rfl)
    (fun pre W => (∃ v, Boxed W w.heap.size TU8 v ∧ W.ownsRow w.heap.size TUu 1 v pre.length (uuc pre) ∧ True) ∧ Below w.heap.size w W)
    (fun _ _ _ => False)
    (OwnFrom.and (Own.from (holdsRow_own w.heap.size w.heap.size TU8 TUu 1 (fun pre => pre.length) (fun pre => uuc pre) (fun _ _ => True)) _) (ownFrom_below (Nat.le_refl _) (by omega)))
    (fun _ _ _ _ _ hs _ _ => hs)
    ⟨⟨_, bO, World.ownsRow_nil _ _ _ _, trivial⟩, hB0⟩
    (fun x a' _ => a' = { tmps := #[.slice none 0 0, .func (.func GK) #[] #[.pointer (some ⟨Bl, 0, none⟩)], .pointer (some ⟨w.heap.size, 0, none⟩), undef, .slice none 0 0, .int .u64 x, .func (.func GK) #[] #[.pointer (some ⟨Bl, 0, none⟩)], .int .u64 x, undef, undef, undef, undef, undef], defers := [] })
    (fun x a' _ X Y row hs hg hr => hs)
    ?assign ?body ?done ?stop
  case assign =>
    rintro l pre x W K ⟨⟨v, hv, hrow, _⟩, hB⟩ hK
    gi_wp2
    exact hK _ _ (KeepsFrom.refl _ _) ⟨Below.refl _ _, KeepsWalks.refl _⟩ ⟨⟨v, hv, hrow, trivial⟩, hB⟩ rfl
  case body =>
    rintro l pre x a' W hl ⟨r, hlr⟩ ⟨⟨v, hv, hrow, _⟩, hB⟩ rfl hlt
    have v0 := hv.cell
    gi_wp2_with (gi_at_builtin; refine wpListIn_append_own _ rfl _ _ TU8 rfl w.heap.size TUu i0 _ 1 8 Tryz.underlying47 hi hz0 hz1 hz2 rfl (by decide) _ _ _ rfl (hrow.alloc _) ⟨W.heap.size, 0, none⟩ 1 1 [.int .u64 x] rfl rfl (cell_one_new _ _ _) (one_one rfl) (by unfold maxLen; omega) (by omega) (by have := hB.size; simp; omega) ?_; intro v' w1 hown' hgrow _; obtain ⟨g', cap', rfl⟩ := ownsRow_succ hown'; obtain ⟨hv1, hv2, hr2, hk2, hb2⟩ := hv.appended (by decide) hrow hB.size (by omega) hown' hgrow; have hc1 := hv1.cell; have hf1 := hv1.frozen)
    refine ⟨hk2.from _, ⟨hb2, ?_⟩, ⟨⟨_, hv2, ?_, trivial⟩, hB.trans hb2⟩⟩
    · exact ⟨hk2.size, fun k o h hw => hk2.same k o h (Obj.not_cells_of_walk hw)⟩
    · rw [List.length_append, List.length_singleton]
      have : uuc (pre ++ [x]) = uuc pre ++ [.int .u64 x] := by simp [uuc]
      rw [this]
      exact hr2
  case done =>
    rintro D ys W hD rfl ⟨⟨v, hv, hrow, _⟩, hB⟩ hK
    have c0 := hv.cell
    gi_wp2
    refine ⟨by simp, .inl ⟨_, _, rfl, run_takeDeferred hK, ?_⟩⟩
    exact ⟨_, results_tmp rfl _ _ _, ⟨v, rfl, ownsRow_putObj hrow _ hK rfl⟩, hB.trans (belowK_b (w := w) (Nat.le_refl _) W D _ _ (by omega) hK rfl rfl)⟩
  case stop =>
    rintro D c pre W _ _ h _
    exact h.elim
theorem collect_any (Bl M : Nat) (C : Array Value) (w : World) (hM : w.heap[M]? = some (.map #[ent C] 1)) (hBl : w.cell? ⟨Bl, 0, none⟩ = some (.map (some M))) (hl1 : Bl < w.heap.size) :
    Calls Tryz.prog 53 #[.func (.func GK) #[] #[.pointer (some ⟨Bl, 0, none⟩)]] w fun e w' => (∃ u, e = .returned u ∧ w'.ownsRow w.heap.size TUu 1 u 1 (uuc [1])) ∧ Below w.heap.size w w' := by
  have HA := Lib.hid (appseq_any Bl M C w hM hBl hl1)
  clear hM hBl
  go_enter Tryz.func53, Tryz.ntmps53
  go_wp2_with fail
  refine HA.out.mono ?_
  rintro e w1 ⟨⟨u, rfl, hrow⟩, hb⟩
  have HZ := Lib.hid (And.intro hrow hb)
  obtain ⟨A1, c1, hu⟩ := own_form hrow
  subst hu
  clear hrow hb
  go_wp2
  go_ret
  exact ⟨⟨_, rfl, HZ.out.1⟩, HZ.out.2⟩
theorem sorted_any (Bl M : Nat) (C : Array Value) (w : World) (hM : w.heap[M]? = some (.map #[ent C] 1)) (hBl : w.cell? ⟨Bl, 0, none⟩ = some (.map (some M))) (hl1 : Bl < w.heap.size) :
    Calls Tryz.prog 40 #[.func (.func GK) #[] #[.pointer (some ⟨Bl, 0, none⟩)]] w fun e w' => (∃ b c, e = .returned (.slice (some ⟨b, 0, none⟩) 1 c) ∧ w'.cell? ⟨b, 0, none⟩ = some (.int .u64 1)) ∧ Below w.heap.size w w' := by
  have HA := Lib.hid (collect_any Bl M C w hM hBl hl1)
  clear hM hBl
  go_enter Tryz.func40, Tryz.ntmps40
  go_wp2_with fail
  refine HA.out.mono ?_
  rintro e w1 ⟨⟨u, rfl, hrow⟩, hb⟩
  obtain ⟨A1, c1, hu⟩ := own_form hrow
  subst hu
  have HS := Lib.hid (So.sort_row w1 w.heap.size A1 1 c1 [1] rfl (by decide) (by decide) hrow)
  have HZ := Lib.hid (And.intro hrow hb)
  clear hrow hb
  go_wp2_with fail
  refine HS.out.mono ?_
  rintro e w2 ⟨rfl, l', hp, _, hrow2, hg⟩
  have hl' : l' = [1] := by simpa using hp.eq_singleton
  subst hl'
  have hB2 : Below w.heap.size w w2 := HZ.out.2.grown hg HZ.out.2.size (fun k e => by
    rcases HZ.out.1.2 with ⟨hv, h0⟩ | ⟨g, cap', cur, hv, hg', _⟩
    · omega
    · rw [hv] at e; cases e; exact hg')
  have HY := Lib.hid (And.intro hrow2 hB2)
  clear hp hrow2 hg hB2
  rcases HY.out.1.2 with ⟨hv, h0⟩ | ⟨g, cap', cur, hv, hg, hh, hnc, hcm, hcs, ht⟩
  · omega
  · injection hv with hv1 hv2 hv3
    subst hv1 hv3
    have hc : w2.cell? ⟨g, 0, none⟩ = some (.int .u64 1) := by
      have := So.take_cellS hh ht 0 (by decide)
      exact this
    have HC := Lib.hid hc
    clear hc hh ht
    go_wp2
    go_ret
    exact ⟨⟨_, _, rfl, HC.out⟩, HY.out.2⟩
set_option maxRecDepth 20000 in
theorem waiting_one {w : World} {E M N : Nat} {n : Int} (C : Array Value) (h : LnIs w E M N n) (hM : w.heap[M]? = some (.map #[ent C] 1)) :
    Calls Tryz.prog 17 #[.pointer (some ⟨E, 0, none⟩)] w fun e w' => (∃ b c, e = .returned (.slice (some ⟨b, 0, none⟩) 1 c) ∧ w'.cell? ⟨b, 0, none⟩ = some (.int .u64 1)) ∧ Below w.heap.size w w' := by
  have c7 := cell_of_row w E 7 _ _ (0, 0) h.box
  have hb1 : Below w.heap.size w (w.alloc (.cells #[.map (some M)] TMp)) := (Below.refl _ w).alloc (Nat.le_refl _) _
  have HS := Lib.hid (sorted_any w.heap.size M C (w.alloc (.cells #[.map (some M)] TMp)) ((hb1.block _ (lt_of hM)).trans hM) (by simp) (by simp))
  have HB := Lib.hid hb1
  clear h hM hb1
  go_enter Tryz.func17, Tryz.ntmps17
  go_wp2_with fail
  refine (keys_any M _).mono ?_
  rintro _ _ ⟨rfl, rfl⟩
  go_wp2_with fail
  refine HS.out.mono ?_
  rintro _ w1 ⟨⟨b, c, rfl, hc⟩, hb⟩
  have HC := Lib.hid (And.intro hc (HB.out.trans (hb.mono (by simp))))
  clear hc hb
  go_wp2
  go_ret
  exact ⟨⟨_, _, rfl, HC.out.1⟩, HC.out.2⟩
end Go.Proofs.YtdljphbfbiganaaGreatDoor.Ln
/- line: the keys of a map of whatever entries, gathered and sorted; what waits. -/
namespace Go.Proofs.YtdljphbfbiganaaGreatDoor.Wa
open Go Go.RowKit Go.Shelf Packet Mg Lg Ln
set_option linter.unusedVariables false
attribute [local go_sem] Oper.semAt_some

theorem ins_nil (A : Option Addr) (cap : Nat) (V : World) : Calls Tryz.prog 79 #[.slice A 0 cap, .int .i64 0, .int .i64 0] V fun e w' => e = .returned (.tuple #[]) ∧ w' = V := by
  go_enter Tryz.func79, Tryz.ntmps79
  go_wp2
  refine wp_loop_rounds 1 ?_
  rw [rounds_succ]
  go_wp2
  exact bodyPost_end (results_none Tryz.results79 _ _ _) rfl ⟨rfl, rfl⟩
theorem pdq_nil (A : Option Addr) (cap : Nat) (n : Int) (V : World) : Calls Tryz.prog 69 #[.slice A 0 cap, .int .i64 0, .int .i64 0, .int .i64 n] V fun e w' => e = .returned (.tuple #[]) ∧ w' = V := by
  go_enter Tryz.func69, Tryz.ntmps69
  go_wp2
  refine wp_loop_rounds 1 ?_
  rw [rounds_succ]
  go_wp2_with fail
  refine (ins_nil _ _ _).mono ?_
  rintro _ _ ⟨rfl, rfl⟩
  go_wp2
  refine bodyPost_ret (results_none Tryz.results69 _ _ _) rfl ?_
  exact ⟨rfl, rfl⟩
set_option maxRecDepth 20000 in
theorem len64_nil (V : World) : Calls Tryz.prog 89 #[.int .u64 0] V fun e w' => e = .returned (.int .i64 0) ∧ w' = V := by
  go_enter Tryz.func89, Tryz.ntmps89
  go_wp2
  go_ret
  have l8 : Lib.len8 0 = 0 := by kernel_rfl
  have w8 : wrap64 0 = 0 := by unfold wrap64; omega
  rw [l8, w8, w8]
  exact ⟨rfl, rfl⟩
set_option maxRecDepth 20000 in
theorem len_nil (V : World) : Calls Tryz.prog 70 #[.int .u64 0] V fun e w' => e = .returned (.int .i64 0) ∧ w' = V := by
  go_enter Tryz.func70, Tryz.ntmps70
  go_wp2_with fail
  refine (len64_nil _).mono ?_
  rintro _ _ ⟨rfl, rfl⟩
  go_wp2
  go_ret
  exact ⟨rfl, rfl⟩
theorem sort_nil (A : Option Addr) (cap : Nat) (V : World) : Calls Tryz.prog 54 #[.slice A 0 cap] V fun e w' => e = .returned (.tuple #[]) ∧ w' = V := by
  go_enter Tryz.func54, Tryz.ntmps54
  go_wp2_with fail
  refine (len_nil _).mono ?_
  rintro _ _ ⟨rfl, rfl⟩
  go_wp2_with fail
  refine (pdq_nil _ _ _ _).mono ?_
  rintro _ _ ⟨rfl, rfl⟩
  go_wp2
  exact bodyPost_end (results_none Tryz.results54 _ _ _) rfl ⟨rfl, rfl⟩
set_option maxRecDepth 100000 in
set_option maxHeartbeats 2000000 in
theorem appseq_any (Bl M : Nat) (L : List Mu) (clock : Nat) (w : World) (hM : w.heap[M]? = some (.map (L.map KS.toE).toArray clock)) (hborn : ∀ x ∈ L, x.2 < clock) (hnd : (L.map (·.2)).Nodup) (hN : L.length ≤ 1000000) (hBl : w.cell? ⟨Bl, 0, none⟩ = some (.map (some M))) (hl1 : Bl < w.heap.size) :
    Calls Tryz.prog 68 #[.slice none 0 0, .func (.func GK) #[] #[.pointer (some ⟨Bl, 0, none⟩)]] w fun e w' => (∃ u ys, e = .returned u ∧ ys.Perm (L.map (·.1.1)) ∧ w'.ownsRow w.heap.size TUu 1 u ys.length (uuc ys)) ∧ Below w.heap.size w w' := by
  obtain ⟨i0, hi, hz0, hz1, hz2⟩ := info_parts infoU
  refine (callsIn_wide (n := 6)).1 ?_
  refine callsIn_of_wp_marks Tryz.func68 rfl trivial ?_
  simp only [Tryz.ntmps68, List.size_toArray, List.length_cons, List.length_nil, Nat.reduceAdd, Nat.reduceSub, Array.replicate_succ, Array.replicate_zero, List.push_toArray, List.append_toArray, List.nil_append, List.cons_append]
  gi_wp2
  have hB0 : Below w.heap.size w (w.alloc (.cells #[.slice none 0 0] TU8)) := (Below.refl _ w).alloc (Nat.le_refl _) _
  have bO := Boxed.new w TU8 (.slice none 0 0)
  have hsz : (w.alloc (.cells #[.slice none 0 0] TU8)).heap.size = w.heap.size + 1 := by simp
  have hcl : (w.alloc (.cells #[.slice none 0 0] TU8)).cell? ⟨Bl, 0, none⟩ = some (.map (some M)) := (hB0.cell (p := ⟨Bl, 0, none⟩) hl1).trans hBl
  obtain ⟨W0, hW0⟩ : ∃ W0, w.alloc (.cells #[.slice none 0 0] TU8) = W0 := ⟨_, rfl⟩
  rw [hW0] at hB0 bO hsz hcl ⊢
  clear hW0
  refine wpIn_rangeFunc_ownH rfl (by decide) (gf := GK) (lb := #[.pointer (some ⟨Bl, 0, none⟩)]) rfl trivial (enters_of Tryz.func55 (by kernel_rfl) rfl)
    (keysN_stops 5 (by decide) Bl M 1000000 L clock w W0 hM hborn hnd hN hcl (by omega) hB0) (fun h k => kpL_t h k) (kpL_b (by omega)) (Below.refl _ _) (fun _ => rfl)
    (fun pre W => (∃ v, Boxed W w.heap.size TU8 v ∧ W.ownsRow w.heap.size TUu 1 v pre.length (uuc pre) ∧ True) ∧ Below w.heap.size w W)
    (fun _ _ _ => False)
    (OwnFrom.and (Own.from (holdsRow_own w.heap.size w.heap.size TU8 TUu 1 (fun pre => pre.length) (fun pre => uuc pre) (fun _ _ => True)) _) (ownFrom_below (Nat.le_refl _) (by omega)))
    (fun _ _ _ _ _ hs _ _ => hs)
    ⟨⟨_, bO, World.ownsRow_nil _ _ _ _, trivial⟩, hB0⟩
    (fun x a' _ => a' = { tmps := #[.slice none 0 0, .func (.func GK) #[] #[.pointer (some ⟨Bl, 0, none⟩)], .pointer (some ⟨w.heap.size, 0, none⟩), undef, .slice none 0 0, .int .u64 x, .func (.func GK) #[] #[.pointer (some ⟨Bl, 0, none⟩)], .int .u64 x, undef, undef, undef, undef, undef], defers := [] })
    (fun x a' _ X Y row hs hg hr => hs)
    ?assign ?body ?done ?stop
  case assign =>
    rintro l pre x W K ⟨⟨v, hv, hrow, _⟩, hB⟩ hK
    gi_wp2
    exact hK _ _ (KeepsFrom.refl _ _) ⟨Below.refl _ _, KeepsWalks.refl _⟩ ⟨⟨v, hv, hrow, trivial⟩, hB⟩ rfl
  case body =>
    rintro l pre x a' W hl ⟨r, hlr⟩ ⟨⟨v, hv, hrow, _⟩, hB⟩ rfl hlt
    have v0 := hv.cell
    gi_wp2_with (gi_at_builtin; refine wpListIn_append_own _ rfl _ _ TU8 rfl w.heap.size TUu i0 _ 1 8 Tryz.underlying47 hi hz0 hz1 hz2 rfl (by decide) _ _ _ rfl (hrow.alloc _) ⟨W.heap.size, 0, none⟩ 1 1 [.int .u64 x] rfl rfl (cell_one_new _ _ _) (one_one rfl) (by unfold maxLen; omega) (by omega) (by have := hB.size; simp; omega) ?_; intro v' w1 hown' hgrow _; obtain ⟨g', cap', rfl⟩ := ownsRow_succ hown'; obtain ⟨hv1, hv2, hr2, hk2, hb2⟩ := hv.appended (by decide) hrow hB.size (by omega) hown' hgrow; have hc1 := hv1.cell; have hf1 := hv1.frozen)
    refine ⟨hk2.from _, ⟨hb2, ?_⟩, ⟨⟨_, hv2, ?_, trivial⟩, hB.trans hb2⟩⟩
    · exact ⟨hk2.size, fun k o h hw => hk2.same k o h (Obj.not_cells_of_walk hw)⟩
    · rw [List.length_append, List.length_singleton]
      have : uuc (pre ++ [x]) = uuc pre ++ [.int .u64 x] := by simp [uuc]
      rw [this]
      exact hr2
  case done =>
    rintro D ys W hD hpm ⟨⟨v, hv, hrow, _⟩, hB⟩ hK
    have c0 := hv.cell
    gi_wp2
    refine ⟨by simp, .inl ⟨_, _, rfl, run_takeDeferred hK, ?_⟩⟩
    exact ⟨_, results_tmp rfl _ _ _, ⟨v, ys, rfl, hpm, ownsRow_putObj hrow _ hK rfl⟩, hB.trans (belowK_b (w := w) (Nat.le_refl _) W D _ _ (by omega) hK rfl rfl)⟩
  case stop =>
    rintro D c pre W _ _ h _
    exact h.elim
theorem collectN (Bl M : Nat) (L : List Mu) (clock : Nat) (w : World) (hM : w.heap[M]? = some (.map (L.map KS.toE).toArray clock)) (hborn : ∀ x ∈ L, x.2 < clock) (hnd : (L.map (·.2)).Nodup) (hN : L.length ≤ 1000000) (hBl : w.cell? ⟨Bl, 0, none⟩ = some (.map (some M))) (hl1 : Bl < w.heap.size) :
    Calls Tryz.prog 53 #[.func (.func GK) #[] #[.pointer (some ⟨Bl, 0, none⟩)]] w fun e w' => (∃ u ys, e = .returned u ∧ ys.Perm (L.map (·.1.1)) ∧ w'.ownsRow w.heap.size TUu 1 u ys.length (uuc ys)) ∧ Below w.heap.size w w' := by
  have HA := Lib.hid (appseq_any Bl M L clock w hM hborn hnd hN hBl hl1)
  clear hM hBl hborn hnd hN
  go_enter Tryz.func53, Tryz.ntmps53
  go_wp2_with fail
  refine HA.out.mono ?_
  rintro e w1 ⟨⟨u, ys, rfl, hpm, hrow⟩, hb⟩
  have HZ := Lib.hid (And.intro hpm (And.intro hrow hb))
  obtain ⟨A1, c1, hu⟩ := own_form hrow
  subst hu
  clear hrow hb hpm
  obtain ⟨n, hn⟩ : ∃ n, n = ys.length := ⟨_, rfl⟩
  rw [← hn] at HZ ⊢
  have HN := Lib.hid hn
  clear hn
  go_wp2
  go_ret
  exact ⟨⟨_, ys, rfl, HZ.out.1, by rw [← HN.out]; exact HZ.out.2.1⟩, HZ.out.2.2⟩
theorem sort_of (V : World) (base : Nat) (A : Option Addr) (n cap : Nat) (l : List Int) (hl : l.length = n) (hn : n ≤ 1000000) (hown : V.ownsRow base TUu 1 (.slice A n cap) n (uuc l)) :
    Calls Tryz.prog 54 #[.slice A n cap] V fun e w' => e = .returned (.tuple #[]) ∧ ∃ l', l'.Perm l ∧ l'.Pairwise (· ≤ ·) ∧ w'.ownsRow base TUu 1 (.slice A n cap) n (uuc l') ∧ V.grownBy w' (Value.slice A n cap).ownBlock := by
  by_cases h0 : n = 0
  · subst h0
    obtain rfl := List.length_eq_zero_iff.1 hl
    refine (sort_nil A cap V).mono ?_
    rintro e w' ⟨rfl, rfl⟩
    exact ⟨rfl, [], List.Perm.refl _, List.Pairwise.nil, hown, ⟨rfl, rfl, rfl, Nat.le_refl _, fun _ _ _ => rfl⟩⟩
  · exact So.sort_row V base A n cap l hl (by omega) hn hown
theorem sortedN (Bl M : Nat) (L : List Mu) (clock : Nat) (w : World) (hM : w.heap[M]? = some (.map (L.map KS.toE).toArray clock)) (hborn : ∀ x ∈ L, x.2 < clock) (hnd : (L.map (·.2)).Nodup) (hN : L.length ≤ 1000000) (hBl : w.cell? ⟨Bl, 0, none⟩ = some (.map (some M))) (hl1 : Bl < w.heap.size) :
    Calls Tryz.prog 40 #[.func (.func GK) #[] #[.pointer (some ⟨Bl, 0, none⟩)]] w fun e w' => (∃ A n c l', e = .returned (.slice A n c) ∧ l'.Perm (L.map (·.1.1)) ∧ l'.Pairwise (· ≤ ·) ∧ n = l'.length ∧ w'.ownsRow w.heap.size TUu 1 (.slice A n c) n (uuc l')) ∧ Below w.heap.size w w' := by
  have HA := Lib.hid (collectN Bl M L clock w hM hborn hnd hN hBl hl1)
  have HN9 := Lib.hid hN
  clear hM hBl hborn hnd hN
  go_enter Tryz.func40, Tryz.ntmps40
  go_wp2_with fail
  refine HA.out.mono ?_
  rintro e w1 ⟨⟨u, ys, rfl, hpm, hrow⟩, hb⟩
  obtain ⟨A1, c1, hu⟩ := own_form hrow
  subst hu
  have hyl : ys.length ≤ 1000000 := by have := hpm.length_eq; rw [List.length_map] at this; have := HN9.out; omega
  obtain ⟨n, hn⟩ : ∃ n, n = ys.length := ⟨_, rfl⟩
  rw [← hn] at hrow hyl ⊢
  have HS := Lib.hid (sort_of w1 w.heap.size A1 n c1 ys hn.symm hyl hrow)
  have HZ := Lib.hid (And.intro hpm (And.intro hrow (And.intro hb hn)))
  clear hrow hb hpm hyl hn
  go_wp2_with fail
  refine HS.out.mono ?_
  rintro e w2 ⟨rfl, l', hp, hpw, hrow2, hg⟩
  have hB2 : Below w.heap.size w w2 := HZ.out.2.2.1.grown hg HZ.out.2.2.1.size (fun k e => own_ge HZ.out.2.1 k e)
  have hnl : n = l'.length := by rw [hp.length_eq, HZ.out.2.2.2]
  have HY := Lib.hid (And.intro (hp.trans HZ.out.1) (And.intro hpw (And.intro hnl (And.intro hrow2 hB2))))
  clear hp hrow2 hg hB2 hpw hnl
  go_wp2
  go_ret
  exact ⟨⟨_, _, _, l', rfl, HY.out.1, HY.out.2.1, HY.out.2.2.1, HY.out.2.2.2.1⟩, HY.out.2.2.2.2⟩
set_option maxRecDepth 20000 in
theorem waiting_g {w : World} {E M N : Nat} {s : St} (h : LG w E M N s) (hm : s.cm.length ≤ 1000000) :
    Calls Tryz.prog 17 #[.pointer (some ⟨E, 0, none⟩)] w fun e w' => (∃ A n c l', e = .returned (.slice A n c) ∧ l'.Perm (s.cm.map (·.1)) ∧ l'.Pairwise (· ≤ ·) ∧ n = l'.length ∧ w'.ownsRow w.heap.size TUu 1 (.slice A n c) n (uuc l')) ∧ Below w.heap.size w w' := by
  obtain ⟨_, _, _, _, _, _, _, c7, _⟩ := h.cells
  obtain ⟨L, clock, hmap, hL, hborn, hnd⟩ := h.com
  have hb1 : Below w.heap.size w (w.alloc (.cells #[.map (some M)] TMp)) := (Below.refl _ w).alloc (Nat.le_refl _) _
  have hlen : L.length ≤ 1000000 := by
    have h9 : L.length = s.cm.length := by rw [← hL, List.length_map]
    omega
  have hks : L.map (·.1.1) = s.cm.map (·.1) := by rw [← hL, List.map_map]; rfl
  have HS := Lib.hid (sortedN w.heap.size M L clock (w.alloc (.cells #[.map (some M)] TMp)) ((hb1.block _ (lt_of hmap)).trans hmap) hborn hnd hlen (by simp) (by simp))
  rw [hks] at HS
  have HB := Lib.hid hb1
  clear h hmap hb1 hL hborn hnd hlen hks hm
  go_enter Tryz.func17, Tryz.ntmps17
  go_wp2_with fail
  refine (keys_any M _).mono ?_
  rintro _ _ ⟨rfl, rfl⟩
  go_wp2_with fail
  refine HS.out.mono ?_
  rintro _ w1 ⟨⟨A, n, c, l', rfl, h1, h2, h3, h4⟩, hb⟩
  have HC := Lib.hid (And.intro h1 (And.intro h2 (And.intro h3 (And.intro h4 (HB.out.trans (hb.mono (by simp)))))))
  clear h1 h2 h3 h4 hb
  go_wp2
  go_ret
  refine ⟨⟨_, _, _, l', rfl, HC.out.1, HC.out.2.1, HC.out.2.2.1, ?_⟩, HC.out.2.2.2.2⟩
  have h := HC.out.2.2.2.1
  refine ⟨h.1, ?_⟩
  rcases h.2 with h2 | ⟨g, cap, cur, hv, hg, r⟩
  · exact .inl h2
  · exact .inr ⟨g, cap, cur, hv, by simp only [World.size_alloc] at hg; omega, r⟩
end Go.Proofs.YtdljphbfbiganaaGreatDoor.Wa
/- line: the law's example. -/
namespace Go.Proofs.YtdljphbfbiganaaGreatDoor.Ln
open Go Go.RowKit Packet
set_option linter.unusedVariables false

set_option maxRecDepth 20000 in
set_option maxHeartbeats 4000000 in
theorem awake_any (w : World) (hT : Sha.Tab w) : Calls Tryz.prog 5 #[] w fun e w' => e = .returned (.bool true) ∧ Below w.heap.size w w' := by
  have HT := Lib.hid hT
  clear hT
  go_enter Tryz.func5, Tryz.ntmps5
  go_wp2_with fail
  refine (line_new _).mono ?_
  rintro _ w1 ⟨⟨E, M, N, rfl, hl, hm, he1, he2⟩, b1⟩
  have H1 := Lib.hid (And.intro hl (And.intro hm (And.intro he1 (And.intro he2 b1))))
  clear hl hm he1 he2 b1
  go_wp2_with fail
  refine (send_x H1.out.1 H1.out.2.1 (Sha.tab_below HT.out H1.out.2.2.2.2) H1.out.2.2.1 H1.out.2.2.2.1 H1.out.2.2.2.2.size).mono ?_
  rintro _ w2 ⟨rfl, hl, ⟨C, hm⟩, b2⟩
  have hb3 : Below w2.heap.size w2 (w2.alloc (.cells #[.int .i64 0, .int .i64 0, .int .u64 1, .int .u64 0, .string ⟨#[120]⟩] TPk)) := (Below.refl _ _).alloc (Nat.le_refl _) _
  have hbx : (w2.alloc (.cells #[.int .i64 0, .int .i64 0, .int .u64 1, .int .u64 0, .string ⟨#[120]⟩] TPk)).heap[w2.heap.size]? = some (.cells #[.int .i64 0, .int .i64 0, .int .u64 1, .int .u64 0, .string ⟨#[120]⟩] TPk (0, 0)) := heap_alloc_new w2 _
  have H3 := Lib.hid (And.intro (hl.below hb3) (And.intro ((hb3.block M (lt_of hm)).trans hm) (And.intro hbx ((H1.out.2.2.2.2.trans b2).trans (hb3.mono (Nat.le_trans H1.out.2.2.2.2.size b2.size))))))
  clear hl hm b2 hb3 hbx
  go_upto_region 3 with fail
  obtain ⟨w3, hw3⟩ : ∃ X, X = w2.alloc (.cells #[.int .i64 0, .int .i64 0, .int .u64 1, .int .u64 0, .string ⟨#[120]⟩] TPk) := ⟨_, rfl⟩
  rw [← hw3] at H3 ⊢
  clear hw3
  go_wp2_with fail
  refine (waiting_one C H3.out.1 H3.out.2.1).mono ?_
  rintro _ w4 ⟨⟨b, c, rfl, hc⟩, b4⟩
  obtain ⟨a0, a1, a2, a3, a4, a5⟩ := pk_cells ((b4.block _ (lt_of H3.out.2.2.1)).trans H3.out.2.2.1)
  have HB := Lib.hid (H3.out.2.2.2.trans (b4.mono H3.out.2.2.2.size))
  clear b4
  have hs : (binOp .eql 9 (.string ⟨#[120]⟩) (.string ⟨#[120]⟩)).run Tryz.prog w4 = .ok (.bool true) w4 := by kernel_rfl
  go_wp2
  go_ret
  exact ⟨rfl, HB.out⟩
end Go.Proofs.YtdljphbfbiganaaGreatDoor.Ln
