/- The law MsgPuts. -/
import Derived.Test.YtpakefgbjncdiaaMsgRef
import Derived.Test.YtpakefgbjncdiaaMsgGet
import Derived.Test.YtpakefgbjncdiaaMsgWord
import Derived.Test.YtpakefgbjncdiaaMsgOpen2
import Derived.Test.YtpakefgbjncdiaaSideRef
import Derived.Test.YtpakefgbjncdiaaRightRef
import Derived.Deep.RegionHeld3
namespace Go.Proofs.Ytpakefgbjncdiaa.Msg
open Go Go.RowKit Num Texts

theorem keepM {w W W1 : World} {m : M7} (h : Below w.heap.size w W ∧ BoxM W w.heap.size m) (hb : Below W.heap.size W W1) : Below w.heap.size w W1 ∧ BoxM W1 w.heap.size m :=
  ⟨h.1.trans (hb.mono h.1.size), (hb.block _ (lt_blk h.2)).trans h.2⟩
theorem yields_row {P : Program} {o : Oper} {a : Act} {w : World} (ty : TypeId) (x : Operand) (ho : o.op = .load ty x) (g : Nat) (hx : a.eval x = .pointer (some ⟨g, 0, none⟩)) (t : TypeId) (cs : Array Value) (fr : Nat × Nat) (d : TypeDesc) (hg : w.heap[g]? = some (.cells cs t fr))
    (hu : P.underlying ty = some d) (hd : (match d with | .struct _ | .array _ _ => true | _ => false) = true) (hi : (P.info? ty).map (·.size) = some cs.size) :
    (execOp a.eval o).run P w = .ok (.value (.agg cs)) w := by
  unfold execOp
  simp only [ho, hx, Instr.loadAt, Instr.sureAddr, Sem.run_bind, Sem.run_pure, Result.andThen_ok, run_loadVar_row w g t ty cs fr d hg hu hd hi]

theorem awake_any (w : World) : Calls Try.prog 4 #[] w fun e w' => e = .returned (.bool true) ∧ Below w.heap.size w w' := by
  have h1 := Lib.hid (fun W => side_any 2 0 0 0 0 ⟨#[]⟩ ⟨#[]⟩ W)
  have h2 := Lib.hid (fun W => side_any 1 0 0 0 0 ⟨#[]⟩ ⟨#[]⟩ W)
  have h3 := Lib.hid (fun W => word_any 3 W)
  rw [show mside 2 0 = 1 from rfl] at h1
  rw [show mside 1 0 = 0 from rfl] at h2
  rw [show wordM 3 = ⟨#[97, 99, 107]⟩ from rfl] at h3
  go_enter Try.func4, Try.ntmps4
  go_wp2_with fail
  refine (h1.out _).mono ?_
  rintro _ w1 ⟨rfl, b1⟩
  go_wp2_with fail
  refine (h2.out _).mono ?_
  rintro _ w2 ⟨rfl, b2⟩
  go_wp2_with fail
  refine (h3.out _).mono ?_
  rintro _ w3 ⟨rfl, hw3⟩
  obtain rfl := hw3.symm
  go_wp2
  go_ret
  exact ⟨rfl, b1.trans (b2.mono b1.size)⟩

theorem puts_long (m : M7) (h : 300 < m.d.size ∨ 300 < m.a.size) (w : World) : Calls Try.prog 3 #[.agg m.cells] w fun e w' => e = .returned (.bool true) ∧ Below w.heap.size w w' := by
  have hb := (Below.refl w.heap.size w).alloc (Nat.le_refl _) (.cells #[.int .i64 m.k, .int .i64 m.c, .int .i64 m.f, .int .u64 m.s, .int .u64 m.t, .string m.d, .string m.a] 26)
  have HB := Lib.hid hb
  clear hb
  unfold M7.cells
  by_cases h1 : 300 < m.d.size
  · have h1 : (300 : Int) < (m.d.size : Int) := by omega
    clear h
    go_enter Try.func3, Try.ntmps3
    go_wp2_with fail
    refine (awake_any _).mono ?_
    rintro e w1 ⟨rfl, b1⟩
    have hb1 := HB.out.trans (b1.mono (by simp))
    go_wp2
    go_ret
    exact ⟨rfl, hb1⟩
  · have h2 : (300 : Int) < (m.a.size : Int) := by omega
    have h1 : ¬ (300 : Int) < (m.d.size : Int) := by omega
    clear h
    go_enter Try.func3, Try.ntmps3
    go_wp2_with fail
    refine (awake_any _).mono ?_
    rintro e w1 ⟨rfl, b1⟩
    have hb1 := HB.out.trans (b1.mono (by simp))
    go_wp2
    go_ret
    exact ⟨rfl, hb1⟩

set_option maxRecDepth 100000 in
set_option maxHeartbeats 1000000 in
theorem puts_mid (m : M7) (r : Bool) (s : ByteArray) (e0 : Int) (hd : m.d.size ≤ 300) (ha : m.a.size ≤ 300) (w : World) (hmr : mright m = r)
    (hput : ∀ W, Calls Try.prog 5 #[.agg #[.int .i64 m.k, .int .i64 m.c, .int .i64 m.f, .int .u64 m.s, .int .u64 m.t, .string m.d, .string m.a]] W fun e w' => e = .returned (.tuple #[.string s, .int .i64 e0]) ∧ Below W.heap.size W w')
    (hend : r = false ∧ s = ⟨#[]⟩ ∧ e0 = 1 ∨ (r = true ∧ e0 = 0 ∧ (∀ W, Calls Try.prog 12 #[.string s] W fun e w' => e = .returned (.tuple #[.agg m.cells, .int .i64 0]) ∧ Below W.heap.size W w') ∧ ∀ W, Calls Try.prog 13 #[.agg #[.int .i64 m.k, .int .i64 m.c, .int .i64 m.f, .int .u64 m.s, .int .u64 m.t, .string m.d, .string m.a]] W fun e w' => e = .returned (.string s) ∧ Below W.heap.size W w')) :
    Calls Try.prog 3 #[.agg m.cells] w fun e w' => e = .returned (.bool true) ∧ Below w.heap.size w w' := by
  have n1 : ¬ (300 : Int) < (m.d.size : Int) := by omega
  have n2 : ¬ (300 : Int) < (m.a.size : Int) := by omega
  have hri := mright_any m
  have hrr := rmright_any m
  rw [hmr] at hri hrr
  have HPu := Lib.hid hput
  have HRi := Lib.hid hri
  have HRr := Lib.hid hrr
  have HEnd := Lib.hid hend
  clear hput hri hrr hend hd ha hmr
  have hx0 : BoxM (w.alloc (.cells m.cells 26)) w.heap.size m := heap_alloc_new w _
  have hb0 : Below w.heap.size w (w.alloc (.cells m.cells 26)) := (Below.refl _ _).alloc (Nat.le_refl _) _
  unfold M7.cells
  go_enter Try.func3, Try.ntmps3
  go_upto_region 1 with fail
  change Code.wp _ _ _ _ (w.alloc (.cells m.cells 26))
  obtain ⟨W0, hW⟩ : ∃ X, X = w.alloc (.cells m.cells 26) := ⟨_, rfl⟩
  rw [← hW] at hb0 hx0 ⊢
  have G0 := Lib.hid (And.intro hb0 hx0)
  obtain ⟨x0, x1, x2, x3, x4, x5, x6⟩ := BoxM.cells hx0
  clear hW hb0 hx0
  go_wp2_with fail
  refine (HPu.out _).mono ?_
  rintro _ w1 ⟨rfl, b1⟩
  have h4 := keepM G0.out b1.drew
  clear b1 x0 x1 x2 x3 x4 x5 x6
  go_upto_region 4 with fail
  refine wp_region_held_drew (S := (fun W => Below w.heap.size w W ∧ BoxM W w.heap.size m)) (by kernel_rfl) h4 (fun hHeld => ?_)
  refine wpAnyH_take (i := 0) (oi := _) (v := ?_) rfl (by kernel_rfl) (by kernel_rfl) (by kernel_rfl) (fun _ _ _ h => h) (Or.inl ⟨by rfl, ?_⟩) (by assumption) ?_
  rotate_left
  · (intro W hSw; (refine yields_row 26 (.tmp 1) ?_ w.heap.size ?_ 26 m.cells (0, 0) _ hSw.2 Try.underlying26 rfl ?_); rfl; rfl; kernel_rfl)
  try simp only [Act.put, List.getElem_toArray, List.getElem_cons_zero, List.setIfInBounds_toArray, List.set_cons_zero, List.set_cons_succ]
  refine wpAnyH_take (i := 2) (oi := _) (v := ?_) rfl (by kernel_rfl) (by kernel_rfl) (by kernel_rfl) (fun _ _ _ h => h) (Or.inl ⟨by rfl, ?_⟩) (by assumption) ?_
  rotate_left
  · (intro W hSw; (refine yields_row 26 (.tmp 1) ?_ w.heap.size ?_ 26 m.cells (0, 0) _ hSw.2 Try.underlying26 rfl ?_); rfl; rfl; kernel_rfl)
  try simp only [Act.put, List.getElem_toArray, List.getElem_cons_succ, List.getElem_cons_zero, List.setIfInBounds_toArray, List.set_cons_zero, List.set_cons_succ]
  refine wpAnyH_ready (rs := [1]) (by kernel_rfl) (by simp) ?_
  refine AllReadyH.cons rfl (fun K hK => ?_) AllReadyH.nil
  simp only [List.getElem_toArray, List.getElem_cons_succ, List.getElem_cons_zero]
  rw [if_pos (by rfl)]
  go_simp
  (go_at_call 6; refine (HRi.out _).mono ?_; rintro _ v1 ⟨rfl, b1⟩; have g1 := keepM hHeld b1)
  go_wp2_with fail
  refine hK.out _ _ g1 (fun hHeld => ?_)
  clear hK K
  try simp only [Act.put, List.getElem_toArray, List.getElem_cons_succ, List.getElem_cons_zero, List.setIfInBounds_toArray, List.set_cons_zero, List.set_cons_succ]
  refine wpAnyH_ready (rs := [3]) (by kernel_rfl) (by simp) ?_
  refine AllReadyH.cons rfl (fun K hK => ?_) AllReadyH.nil
  simp only [List.getElem_toArray, List.getElem_cons_succ, List.getElem_cons_zero]
  rw [if_pos (by rfl)]
  go_simp
  (go_at_call 7; refine (HRr.out _).mono ?_; rintro _ v2 ⟨rfl, b2⟩; have g2 := keepM g1 b2)
  go_wp2_with fail
  refine hK.out _ _ g2 (fun hHeld => ?_)
  clear hK K
  try simp only [Act.put, List.getElem_toArray, List.getElem_cons_succ, List.getElem_cons_zero, List.setIfInBounds_toArray, List.set_cons_zero, List.set_cons_succ]
  refine wpAnyH_take (i := 4) (oi := _) (v := ?_) rfl (by kernel_rfl) (by kernel_rfl) (by kernel_rfl) (fun _ _ _ h => h) (Or.inl ⟨by rfl, ?_⟩) (by assumption) ?_
  rotate_left
  · (intro W hSw; (try dsimp only at hSw); go_simp; try with_reducible rfl)
  try simp only [Act.put, List.getElem_toArray, List.getElem_cons_succ, List.getElem_cons_zero, List.setIfInBounds_toArray, List.set_cons_zero, List.set_cons_succ]
  refine wpAnyH_take (i := 5) (oi := _) (v := ?_) rfl (by kernel_rfl) (by kernel_rfl) (by kernel_rfl) (fun _ _ _ h => h) (Or.inl ⟨by rfl, ?_⟩) (by assumption) ?_
  rotate_left
  · (intro W hSw; (try dsimp only at hSw); go_simp; try with_reducible rfl)
  try simp only [Act.put, List.getElem_toArray, List.getElem_cons_succ, List.getElem_cons_zero, List.setIfInBounds_toArray, List.set_cons_zero, List.set_cons_succ]
  refine wpAnyH_take (i := 6) (oi := _) (v := ?_) rfl (by kernel_rfl) (by kernel_rfl) (by kernel_rfl) (fun _ _ _ h => h) (Or.inl ⟨by rfl, ?_⟩) (by assumption) ?_
  rotate_left
  · (intro W hSw; (refine yields_row 26 (.tmp 1) ?_ w.heap.size ?_ 26 m.cells (0, 0) _ hSw.2 Try.underlying26 rfl ?_); rfl; rfl; kernel_rfl)
  try simp only [Act.put, List.getElem_toArray, List.getElem_cons_succ, List.getElem_cons_zero, List.setIfInBounds_toArray, List.set_cons_zero, List.set_cons_succ]
  refine wpAnyH_take (i := 8) (oi := _) (v := ?_) rfl (by kernel_rfl) (by kernel_rfl) (by kernel_rfl) (fun _ _ _ h => h) (Or.inl ⟨by rfl, ?_⟩) (by assumption) ?_
  rotate_left
  · (intro W hSw; (refine yields_row 26 (.tmp 1) ?_ w.heap.size ?_ 26 m.cells (0, 0) _ hSw.2 Try.underlying26 rfl ?_); rfl; rfl; kernel_rfl)
  try simp only [Act.put, List.getElem_toArray, List.getElem_cons_succ, List.getElem_cons_zero, List.setIfInBounds_toArray, List.set_cons_zero, List.set_cons_succ]
  refine wpAnyH_ready (rs := [7]) (by kernel_rfl) (by simp) ?_
  refine AllReadyH.cons rfl (fun K hK => ?_) AllReadyH.nil
  simp only [List.getElem_toArray, List.getElem_cons_succ, List.getElem_cons_zero]
  rw [if_pos (by rfl)]
  go_simp
  (go_at_call 8; refine (side_any m.k m.c m.f m.s m.t m.d m.a _).mono ?_; rintro _ v3 ⟨rfl, b3⟩; have g3 := keepM g2 b3)
  go_wp2_with fail
  refine hK.out _ _ g3 (fun hHeld => ?_)
  clear hK K
  try simp only [Act.put, List.getElem_toArray, List.getElem_cons_succ, List.getElem_cons_zero, List.setIfInBounds_toArray, List.set_cons_zero, List.set_cons_succ]
  refine wpAnyH_ready (rs := [9]) (by kernel_rfl) (by simp) ?_
  refine AllReadyH.cons rfl (fun K hK => ?_) AllReadyH.nil
  simp only [List.getElem_toArray, List.getElem_cons_succ, List.getElem_cons_zero]
  rw [if_pos (by rfl)]
  go_simp
  (go_at_call 9; refine (rside_any m.k m.c m.f m.s m.t m.d m.a _).mono ?_; rintro _ v4 ⟨rfl, b4⟩; have g4 := keepM g3 b4)
  go_wp2_with fail
  refine hK.out _ _ g4 (fun hHeld => ?_)
  clear hK K
  try simp only [Act.put, List.getElem_toArray, List.getElem_cons_succ, List.getElem_cons_zero, List.setIfInBounds_toArray, List.set_cons_zero, List.set_cons_succ]
  refine wpAnyH_take (i := 10) (oi := _) (v := ?_) rfl (by kernel_rfl) (by kernel_rfl) (by kernel_rfl) (fun _ _ _ h => h) (Or.inl ⟨by rfl, ?_⟩) (by assumption) ?_
  rotate_left
  · (intro W hSw; (try dsimp only at hSw); go_simp; try with_reducible rfl)
  try simp only [Act.put, List.getElem_toArray, List.getElem_cons_succ, List.getElem_cons_zero, List.setIfInBounds_toArray, List.set_cons_zero, List.set_cons_succ]
  refine wpAnyH_take (i := 11) (oi := _) (v := ?_) rfl (by kernel_rfl) (by kernel_rfl) (by kernel_rfl) (fun _ _ _ h => h) (Or.inl ⟨by rfl, ?_⟩) (by assumption) ?_
  rotate_left
  · (intro W hSw; (try dsimp only at hSw); go_simp; try with_reducible rfl)
  try simp only [Act.put, List.getElem_toArray, List.getElem_cons_succ, List.getElem_cons_zero, List.setIfInBounds_toArray, List.set_cons_zero, List.set_cons_succ]
  refine wpAnyH_take (i := 12) (oi := _) (v := ?_) rfl (by kernel_rfl) (by kernel_rfl) (by kernel_rfl) (fun _ _ _ h => h) (Or.inl ⟨by rfl, ?_⟩) (by assumption) ?_
  rotate_left
  · (intro W hSw; (try dsimp only at hSw); go_simp; try with_reducible rfl)
  try simp only [Act.put, List.getElem_toArray, List.getElem_cons_succ, List.getElem_cons_zero, List.setIfInBounds_toArray, List.set_cons_zero, List.set_cons_succ]
  refine wpAnyH_take (i := 13) (oi := _) (v := ?_) rfl (by kernel_rfl) (by kernel_rfl) (by kernel_rfl) (fun _ _ _ h => h) (Or.inl ⟨by rfl, ?_⟩) (by assumption) ?_
  rotate_left
  · (intro W hSw; (try dsimp only at hSw); go_simp; try with_reducible rfl)
  try simp only [Act.put, List.getElem_toArray, List.getElem_cons_succ, List.getElem_cons_zero, List.setIfInBounds_toArray, List.set_cons_zero, List.set_cons_succ]
  refine wpAnyH_take (i := 14) (oi := _) (v := ?_) rfl (by kernel_rfl) (by kernel_rfl) (by kernel_rfl) (fun _ _ _ h => h) (Or.inl ⟨by rfl, ?_⟩) (by assumption) ?_
  rotate_left
  · (intro W hSw; (obtain ⟨x0, x1, x2, x3, x4, x5, x6⟩ := BoxM.cells hSw.2; clear hSw; go_simp; try with_reducible rfl))
  try simp only [Act.put, List.getElem_toArray, List.getElem_cons_succ, List.getElem_cons_zero, List.setIfInBounds_toArray, List.set_cons_zero, List.set_cons_succ]
  refine wpAnyH_take (i := 16) (oi := _) (v := ?_) rfl (by kernel_rfl) (by kernel_rfl) (by kernel_rfl) (fun _ _ _ h => h) (Or.inl ⟨by rfl, ?_⟩) (by assumption) ?_
  rotate_left
  · (intro W hSw; (try dsimp only at hSw); go_simp; try with_reducible rfl)
  try simp only [Act.put, List.getElem_toArray, List.getElem_cons_succ, List.getElem_cons_zero, List.setIfInBounds_toArray, List.set_cons_zero, List.set_cons_succ]
  refine wpAnyH_take (i := 17) (oi := _) (v := ?_) rfl (by kernel_rfl) (by kernel_rfl) (by kernel_rfl) (fun _ _ _ h => h) (Or.inl ⟨by rfl, ?_⟩) (by assumption) ?_
  rotate_left
  · (intro W hSw; (obtain ⟨x0, x1, x2, x3, x4, x5, x6⟩ := BoxM.cells hSw.2; clear hSw; go_simp; try with_reducible rfl))
  try simp only [Act.put, List.getElem_toArray, List.getElem_cons_succ, List.getElem_cons_zero, List.setIfInBounds_toArray, List.set_cons_zero, List.set_cons_succ]
  refine wpAnyH_ready (rs := [15]) (by kernel_rfl) (by simp) ?_
  refine AllReadyH.cons rfl (fun K hK => ?_) AllReadyH.nil
  simp only [List.getElem_toArray, List.getElem_cons_succ, List.getElem_cons_zero]
  rw [if_pos (by rfl)]
  go_simp
  (go_at_call 10; refine (word_any m.k _).mono ?_; rintro _ v5 ⟨rfl, hv5⟩; obtain rfl := hv5.symm)
  go_wp2_with fail
  refine hK.out _ _ g4 (fun hHeld => ?_)
  clear hK K
  try simp only [Act.put, List.getElem_toArray, List.getElem_cons_succ, List.getElem_cons_zero, List.setIfInBounds_toArray, List.set_cons_zero, List.set_cons_succ]
  refine wpAnyH_ready (rs := [18]) (by kernel_rfl) (by simp) ?_
  refine AllReadyH.cons rfl (fun K hK => ?_) AllReadyH.nil
  simp only [List.getElem_toArray, List.getElem_cons_succ, List.getElem_cons_zero]
  rw [if_pos (by rfl)]
  go_simp
  (go_at_call 11; refine (rword_any m.k _).mono ?_; rintro _ v6 ⟨rfl, b6⟩; have g6 := keepM g4 b6)
  go_wp2_with fail
  refine hK.out _ _ g6 (fun hHeld => ?_)
  clear hK K
  try simp only [Act.put, List.getElem_toArray, List.getElem_cons_succ, List.getElem_cons_zero, List.setIfInBounds_toArray, List.set_cons_zero, List.set_cons_succ]
  refine wpAnyH_take (i := 19) (oi := _) (v := ?_) rfl (by kernel_rfl) (by kernel_rfl) (by kernel_rfl) (fun _ _ _ h => h) (Or.inl ⟨by rfl, ?_⟩) (by assumption) ?_
  rotate_left
  · (intro W hSw; (try dsimp only at hSw); go_simp; try with_reducible rfl)
  try simp only [Act.put, List.getElem_toArray, List.getElem_cons_succ, List.getElem_cons_zero, List.setIfInBounds_toArray, List.set_cons_zero, List.set_cons_succ]
  refine wpAnyH_take (i := 20) (oi := _) (v := ?_) rfl (by kernel_rfl) (by kernel_rfl) (by kernel_rfl) (fun _ _ _ h => h) (Or.inl ⟨by rfl, ?_⟩) (by assumption) ?_
  rotate_left
  · (intro W hSw; (try dsimp only at hSw); go_simp; try with_reducible rfl)
  try simp only [Act.put, List.getElem_toArray, List.getElem_cons_succ, List.getElem_cons_zero, List.setIfInBounds_toArray, List.set_cons_zero, List.set_cons_succ]
  refine wpAnyH_done (by kernel_rfl) ?_ _
  have G9 := Lib.hid g6
  clear g1 g2 g3 g4 g6 b1 b2 b3 b4 b6 h4
  obtain ⟨x0, x1, x2, x3, x4, x5, x6⟩ := BoxM.cells G9.out.2
  go_wp2_with fail
  refine (HRr.out _).mono ?_
  rintro _ w2 ⟨rfl, b2⟩
  have G2 := Lib.hid (keepM G9.out b2)
  clear b2 x0 x1 x2 x3 x4 x5 x6
  rcases HEnd.out with ⟨rfl, rfl, rfl⟩ | ⟨rfl, rfl, hget, hrp⟩
  · go_wp2_with fail
    refine (awake_any _).mono ?_
    rintro _ w3 ⟨rfl, b3⟩
    have G3 := Lib.hid (keepM G2.out b3)
    clear b3
    go_wp2
    go_ret
    exact ⟨rfl, G3.out.1⟩
  · have HRp := Lib.hid hrp
    have HGe := Lib.hid hget
    clear hrp hget
    go_wp2_with fail
    refine (HGe.out _).mono ?_
    rintro _ w3 ⟨rfl, b3⟩
    have G3 := Lib.hid (keepM G2.out b3)
    clear b3 HGe
    have hst := Rd.hst7 w3 m.cells rfl (Rd.cells7_one m)
    go_wp2_with fail
    obtain ⟨W4, hW4⟩ : ∃ X, X = (w3.alloc (.cells #[.int .i64 0, .int .i64 0, .int .i64 0, .int .u64 0, .int .u64 0, .string ⟨#[]⟩, .string ⟨#[]⟩] 26)).setRow w3.heap.size m.cells := ⟨_, rfl⟩
    rw [← hW4]
    have hb4 : Below w3.heap.size w3 W4 := by
      rw [hW4]
      have h1 := (Below.refl w3.heap.size w3).alloc (Nat.le_refl _) (.cells #[.int .i64 0, .int .i64 0, .int .i64 0, .int .u64 0, .int .u64 0, .string ⟨#[]⟩, .string ⟨#[]⟩] 26)
      exact ⟨h1.os, h1.tape, h1.output, by simp, fun i hi => (setRow_other _ _ _ _ (by omega)).trans (h1.block i hi)⟩
    have HQ4 := Lib.hid (show BoxM W4 w3.heap.size m by rw [hW4]; exact setRow_heap _ _ _ _ _ _ (heap_alloc_new w3 _))
    have G4 := Lib.hid (keepM G3.out hb4)
    obtain ⟨Q, hQ⟩ : ∃ Q, Q = w3.heap.size := ⟨_, rfl⟩
    rw [← hQ] at HQ4 ⊢
    clear hW4 hb4 hst hQ G3
    refine (awake_any _).mono ?_
    rintro _ w5 ⟨rfl, b5⟩
    have G5 := Lib.hid (keepM G4.out b5)
    have HQ5 := Lib.hid (show BoxM w5 Q m from (b5.block _ (lt_blk HQ4.out)).trans HQ4.out)
    clear b5 HQ4 G4
    obtain ⟨x0, x1, x2, x3, x4, x5, x6⟩ := BoxM.cells G5.out.2
    go_wp2_with fail
    refine (HRp.out _).mono ?_
    rintro _ w6 ⟨rfl, b6⟩
    have G6 := Lib.hid (keepM G5.out b6)
    have HQ6 := Lib.hid (show BoxM w6 Q m from (b6.block _ (lt_blk HQ5.out)).trans HQ5.out)
    clear b6 HQ5 G5 x0 x1 x2 x3 x4 x5 x6
    obtain ⟨x0, x1, x2, x3, x4, x5, x6⟩ := BoxM.cells G6.out.2
    obtain ⟨y0, y1, y2, y3, y4, y5, y6⟩ := BoxM.cells HQ6.out
    have hE := eq_run m m
    rw [show same m m = true from same_iff.2 rfl] at hE
    unfold M7.cells at hE
    go_wp2
    go_ret
    exact ⟨rfl, G6.out.1⟩

theorem puts_all (m : M7) (hw : m.wf) (w : World) : Calls Try.prog 3 #[.agg m.cells] w fun e w' => e = .returned (.bool true) ∧ Below w.heap.size w w' := by
  rcases Nat.lt_or_ge 300 m.d.size with h | h
  · exact puts_long m (.inl h) w
  · rcases Nat.lt_or_ge 300 m.a.size with h' | h'
    · exact puts_long m (.inr h') w
    · cases hr : mright m with
      | true =>
        refine puts_mid m true m.bytes 0 h h' w hr (fun W => mput_yes m hr hw W) (.inr ⟨rfl, rfl, fun W => ?_, fun W => rmput_yes m hr hw W⟩)
        have := Rd.mget_any m.bytes (by have := mbytes_size hr; omega) W
        rw [Rd.getM_back m hr hw] at this
        exact this
      | false => exact puts_mid m false ⟨#[]⟩ 1 h h' w hr (fun W => mput_no m hr W) (.inl ⟨rfl, rfl, rfl⟩)
theorem puts_walk {H : Type} {enc : TypeId × Value → H} {spare : Nat → Bool} {held : Bool} {w : World} {base : Nat} {v : Value} {d : DataW H} {p : List MemPlace}
    (ok : Value.okWide Try.prog w .any base 26 v) (h : DataW.Trod enc Try.prog w 0 spare held 26 v d p) :
    Calls Try.prog 3 #[v] w fun e w' => e = .returned (.bool true) ∧ Below w.heap.size w w' := by
  obtain ⟨m, rfl, hw⟩ := open_msg_wf_val ok h
  exact puts_all m hw w
end Go.Proofs.Ytpakefgbjncdiaa.Msg
