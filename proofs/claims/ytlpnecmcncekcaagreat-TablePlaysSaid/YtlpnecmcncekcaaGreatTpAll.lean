import Derived.Test.YtlpnecmcncekcaaGreatMa
import Derived.Test.YtlpnecmcncekcaaGreatHeld
import Derived.Test.YtlpnecmcncekcaaGreatHeld
import Derived.Deep.CutBlock
import Derived.Deep.RegionHeld3
/- The page's table: All. -/
namespace Go.Proofs.YtlpnecmcncekcaaGreat.Mk
open Go Go.RowKit Go.MuLone Conf
set_option linter.unusedVariables false

theorem own_ptsE {V : World} {b n c : Nat} {A : Option Addr} {ls : List En} (h : V.ownsRow b TEn 5 (.slice A n c) ls.length (ecs ls)) (hn : n = ls.length) (j : Nat) (hj : j ≤ n) : Pts V A (if c = j then A else Option.map (fun x => x.add (j * 5)) A) n c j ls := by
  have hall := fun g hg => World.ownsRow.cells h (g := g) hg
  rcases h.2 with ⟨h3, h4⟩ | ⟨g, cap, cur, hv, hg, hh, hnc, hm, hs, ht⟩
  · injection h3 with h5 h6 h7
    subst h5 h6 h7
    obtain rfl : j = 0 := by omega
    have hl : ls = [] := List.eq_nil_of_length_eq_zero hn.symm
    subst hl
    exact ⟨Nat.le_refl _, fun _ => ⟨rfl, rfl⟩, fun _ => ⟨rfl, rfl⟩, fun _ h => (by cases h), fun _ h => (by cases h)⟩
  · injection hv with h5 h6 h7
    subst h5 h6 h7
    have hall2 := hall g rfl
    have e0 : ls = ls.take j ++ ls.drop j := (List.take_append_drop j ls).symm
    have e1 : ecs ls = ecs (ls.take j) ++ ecs (ls.drop j) := by rw [← ecs_append, ← e0]
    have l1 : (ecs (ls.take j)).length = j * 5 := by rw [ecs_len, List.length_take, Nat.min_eq_left (by omega)]
    refine ⟨by omega, fun h => by (cases h), fun h => ?_, fun ad h q u hu => ?_, fun ad h q u hu => ?_⟩
    · by_cases hc : c = j
      · rw [if_pos hc] at h; cases h
      · rw [if_neg hc] at h; cases h
    · injection h with h; subst h
      refine hall2 q u ?_
      rw [e1]
      have hq := (List.getElem?_eq_some_iff.1 hu).1
      rw [List.getElem?_append_left hq]; exact hu
    · by_cases hc : c = j
      · have : ls.drop j = [] := List.drop_eq_nil_of_le (by omega)
        rw [this] at hu
        cases hu
      · rw [if_neg hc] at h
        injection h with h; subst h
        have := hall2 (j * 5 + q) u (by rw [e1, List.getElem?_append_right (by omega), l1, Nat.add_sub_cancel_left]; exact hu)
        rw [show ((⟨g, 0, none⟩ : Addr).add (j * 5)).add q = (⟨g, 0, none⟩ : Addr).add (j * 5 + q) by unfold Addr.add; by_cases hj0 : j * 5 = 0 <;> by_cases hq0 : q = 0 <;> simp [hj0, hq0] <;> omega]
        exact this
theorem own_form5n {V : World} {b n : Nat} {v : Value} {xs : List Value} (h : V.ownsRow b TEn 5 v n xs) : ∃ A c, v = .slice A n c := by
  rcases h.2 with ⟨h1, h2⟩ | ⟨g, cap, cur, h1, _⟩
  · exact ⟨none, 0, by rw [h2]; exact h1⟩
  · exact ⟨_, _, h1⟩
theorem own_same5 {w w1 : World} {base n e size : Nat} {v : Value} {xs : List Value} (h : w.ownsRow base e size v n xs) (hb : ∀ k, v.ownBlock = some k → w1.heap[k]? = w.heap[k]?) : w1.ownsRow base e size v n xs := by
  refine ⟨h.1, ?_⟩
  rcases h.2 with h2 | ⟨g, cap, cur, hv, hg, hh, r⟩
  · exact Or.inl h2
  · exact Or.inr ⟨g, cap, cur, hv, hg, (hb g (by rw [hv]; rfl)).trans hh, r⟩
theorem own_base5 {V : World} {B B' n : Nat} {v : Value} {xs : List Value} (h : V.ownsRow B TEn 5 v n xs) (hb : B' ≤ B) : V.ownsRow B' TEn 5 v n xs := by
  refine ⟨h.1, ?_⟩
  rcases h.2 with h2 | ⟨g, cap, cur, hv, hg, r⟩
  · exact Or.inl h2
  · exact Or.inr ⟨g, cap, cur, hv, Nat.le_trans hb hg, r⟩
theorem allL_few {ls : Nat → List En} {n : Nat} (h : ∀ i, i < n → (ls i).length ≤ 64) : ∀ k, k ≤ n → (allL ls k).length ≤ k * 64
  | 0, _ => by simp [allL]
  | k + 1, hk => by
    have h1 := allL_few h k (by omega)
    have h2 := h k (by omega)
    simp only [allL, List.length_append]
    omega
/-- All's world: its row so far -/
structure AllP (w V : World) (A : Option Addr) (m c : Nat) (L G : List En) : Prop where
  len : m = L.length
  perm : L.Perm G
  pw : L.Pairwise fun a b => ltE b a = false
  row : V.ownsRow w.heap.size TEn 5 (.slice A m c) m (ecs L)
  bel : Below w.heap.size w V
theorem AllP.below {w V X : World} {A : Option Addr} {m c : Nat} {L G : List En} (h : AllP w V A m c L G) (b : Below V.heap.size V X) : AllP w X A m c L G :=
  ⟨h.len, h.perm, h.pw, own_same5 h.row fun k hk => b.block k (h.row.lt k hk).2, h.bel.trans (b.mono h.bel.size)⟩
/-- one entry more -/
theorem all_step {w V X : World} {A A9 : Option Addr} {m c c9 j i : Nat} {L G K : List En} {x : En} (h : AllP w V A m c L (G ++ K.take i)) (ho : X.ownsRow V.heap.size TEn 5 (.slice A9 (0 + j + 1 + (m - j)) c9) (0 + j + 1 + (m - j)) ([] ++ ecs (L.take j) ++ encE x ++ ecs (L.drop j))) (hb : Below V.heap.size V X) (hj : (L.takeWhile fun e => ltK e.k x.k).length = j) (hjm : j ≤ m) (hx : K[i]? = some x) :
    AllP w X A9 (0 + j + 1 + (m - j)) c9 (L.take j ++ x :: L.drop j) (G ++ K.take (i + 1)) := by
  obtain ⟨h1, h2⟩ := ins_ok hj h.pw
  have hl := h.len
  have hlen : (L.take j ++ x :: L.drop j).length = 0 + j + 1 + (m - j) := by
    rw [List.length_append, List.length_cons, List.length_take, List.length_drop, Nat.min_eq_left (by omega)]; omega
  have hi : i < K.length := (List.getElem?_eq_some_iff.1 hx).1
  have hxe : K[i] = x := (List.getElem?_eq_some_iff.1 hx).2
  refine ⟨hlen.symm, ?_, h2, ?_, h.bel.trans (hb.mono h.bel.size)⟩
  · rw [List.take_succ_eq_append_getElem hi, hxe, ← List.append_assoc]
    exact h1.trans (h.perm.append (List.Perm.refl [x]))
  · have e : ecs (L.take j ++ x :: L.drop j) = [] ++ ecs (L.take j) ++ encE x ++ ecs (L.drop j) := by
      rw [ecs_append, show ecs (x :: L.drop j) = encE x ++ ecs (L.drop j) from rfl, List.nil_append, List.append_assoc]
    rw [e]
    exact own_base5 ho h.bel.size
section
variable {w V : World} {T g cap n lo : Nat} {room : Int} {q : Nat → Nat} {v : Nat → Value} {ls : Nat → List En}
theorem PT.look (h : PT V T g cap n lo room q v ls) (k : Nat) (hk : k < n) : ∃ Ak ck, V.cell? ⟨T, 0, none⟩ = some (.slice (some ⟨g, 0, none⟩) n cap) ∧ V.cell? ⟨g, k, none⟩ = some (.pointer (some ⟨q k, 0, none⟩)) ∧ V.cell? ⟨q k, 0, none⟩ = some (.slice Ak (ls k).length ck) ∧ RowE (q k + 1) V (.slice Ak (ls k).length ck) (ls k) := by
  have hq := h.qi k hk
  obtain ⟨A, c, hv⟩ := hq.form
  have h1 := hq.cell.1
  have h2 := hq.rowE
  rw [hv] at h1 h2
  exact ⟨A, c, cell_of_row V T 0 _ _ (0, 0) h.tab, h.cell k hk, h1, h2⟩
set_option maxRecDepth 20000 in
set_option maxHeartbeats 8000000 in
theorem pall_any (h : PT w T g cap n lo room q v ls) (hlen : ∀ i, i < n → (ls i).length ≤ 64) :
    Calls Tryz.prog 44 #[.pointer (some ⟨T, 0, none⟩)] w fun e w' => ∃ v' L, e = .returned v' ∧ RowE w.heap.size w' v' L ∧ L.Perm (allL ls n) ∧ L.Pairwise (fun a b => ltE b a = false) ∧ Below w.heap.size w w' := by
  obtain ⟨i0, hi', hz0, hz1, hz2⟩ := info_partsE infoEn
  have HPT := Lib.hid h
  have HL9 := Lib.hid hlen
  have hn8 := h.n0.2
  have hn0 := h.n0.1
  clear h hlen
  go_enter Tryz.func44, Tryz.ntmps44
  go_wp2_with fail
  go_loopw [3, 4] (fun ov nv wr => ∃ (k m c : Nat) (A : Option Addr) (L : List En), ov = .slice A m c ∧ nv = .int .i64 (k : Int) ∧ k ≤ n ∧ AllP w wr A m c L (allL ls k)) (fun _ nv _ => n - (intOf nv).toNat)
  case atStart => exact ⟨0, 0, 0, none, [], rfl, rfl, Nat.zero_le _, ⟨rfl, List.Perm.refl _, List.Pairwise.nil, World.ownsRow_nil _ _ _ _, Below.refl _ _⟩⟩
  case round =>
    obtain ⟨k, m, c, A, L, rfl, rfl, hk, hW⟩ := hrel
    have HW := Lib.hid hW
    have hk0 : (0 : Int) ≤ (k : Int) := by omega
    by_cases hkn : k < n
    · have hk1 : (k : Int) < (n : Int) := by omega
      obtain ⟨-, -, t0, -⟩ := PT.look (HPT.out.below (hW.bel.mono (Nat.le_refl _))) k hkn
      clear hW
      go_wp2_with fail
      clear t0
      go_loopw [3, 5] (fun ov iv wr => ∃ (i m c : Nat) (A : Option Addr) (L : List En), ov = .slice A m c ∧ iv = .int .i64 (i : Int) ∧ i ≤ (ls k).length ∧ AllP w wr A m c L (allL ls k ++ (ls k).take i)) (fun _ iv _ => (ls k).length - (intOf iv).toNat)
      case atStart => exact ⟨0, m, c, A, L, rfl, rfl, Nat.zero_le _, by rw [List.take_zero, List.append_nil]; exact HW.out⟩
      case round =>
        clear HW
        obtain ⟨i, m, c, A, L, rfl, rfl, hi, hW⟩ := hrel
        have HW := Lib.hid hW
        obtain ⟨Ak, ck, t0, t1, t2, hr⟩ := PT.look (HPT.out.below (hW.bel.mono (Nat.le_refl _))) k hkn
        have hi0 : (0 : Int) ≤ (i : Int) := by omega
        obtain ⟨mk, hmk⟩ : ∃ mk, mk = (ls k).length := ⟨_, rfl⟩
        have hmk9 : mk ≤ 64 := by rw [hmk]; exact HL9.out k hkn
        rw [← hmk] at t2 hi ⊢
        have HMk := Lib.hid hmk
        have hm9 : m ≤ 600 := by
          have := hW.perm.length_eq
          rw [← hW.len, List.length_append, List.length_take] at this
          have := allL_few HL9.out k (by omega)
          omega
        clear hmk hW
        by_cases hlt : i < mk
        · have hi1 : (i : Int) < (mk : Int) := by omega
          obtain ⟨gk, c1, hv, _, _, he⟩ := hr.at i (by rw [← HMk.out]; exact hlt)
          injection hv with hv hv1 hv2
          clear hv1
          subst hv hv2
          have hx : (ls k)[i]? = some ((ls k)[i]'(by rw [← HMk.out]; exact hlt)) := List.getElem?_eq_getElem _
          generalize (ls k)[i]'(by rw [← HMk.out]; exact hlt) = x at he hx
          have e0 := he.c; have e1 := he.f; have e2 := he.s; have e3 := he.st; have e4 := he.ow
          obtain ⟨⟨xc, xf, xs⟩, st, ow⟩ := x
          dsimp only at e0 e1 e2 e3 e4
          have HX := Lib.hid hx
          have hb1 : Below wr.heap.size wr (wr.alloc (.cells #[.int .i64 xc, .int .i64 xf, .int .u64 xs, .int .i64 st, .int .i64 ow] TEn)) := (Below.refl _ _).alloc (Nat.le_refl _) _
          have hxb := heap_alloc_new wr (.cells #[.int .i64 xc, .int .i64 xf, .int .u64 xs, .int .i64 st, .int .i64 ow] TEn)
          have HW1 := Lib.hid (HW.out.below hb1)
          obtain ⟨X0, hX0⟩ : ∃ b, b = wr.heap.size := ⟨_, rfl⟩
          obtain ⟨w1, hw1⟩ : ∃ V, V = wr.alloc (.cells #[.int .i64 xc, .int .i64 xf, .int .u64 xs, .int .i64 st, .int .i64 ow] TEn) := ⟨_, rfl⟩
          rw [← hw1, ← hX0] at hxb
          rw [← hw1] at HW1
          have HXB := Lib.hid hxb
          clear he hx hr hb1 hxb HW
          go_upto_region 9 with fail
          rw [← hw1, ← hX0]
          clear hw1 hX0 t0 t1 t2 e0 e1 e2 e3 e4
          go_upto_block 4 with fail
          go_cut [7] from 45 to 60 (fun av wx => ∃ j : Nat, av = .int .i64 (j : Int) ∧ j ≤ m ∧ Hid ((L.takeWhile fun e => ltK e.k ⟨xc, xf, xs⟩).length = j) ∧ Hid (Below w1.heap.size w1 wx))
          rotate_left
          · obtain ⟨j, rfl, hj, HJ, HBc⟩ := hcut
            have hj0 : (0 : Int) ≤ (j : Int) := by omega
            have hjn : (j : Int) ≤ (m : Int) := by omega
            have HK8 : Hid (AllP w wc.drew A m c L (allL ls k ++ (ls k).take i)) := Lib.hid (HW1.out.below HBc.out.drew)
            have hxc := (HBc.out.drew.block X0 (Array.getElem?_eq_some_iff.1 HXB.out).1).trans HXB.out
            have HM := Lib.hid hj
            have HHx := Lib.hid hxc
            go_wp2
            refine wp_region_held_drew (S := fun V => V.cell? ⟨X0, 0, none⟩ = some (.int .i64 xc) ∧ V.cell? ⟨X0, 1, none⟩ = some (.int .i64 xf) ∧ V.cell? ⟨X0, 2, none⟩ = some (.int .u64 xs) ∧ V.cell? ⟨X0, 3, none⟩ = some (.int .i64 st) ∧ V.cell? ⟨X0, 4, none⟩ = some (.int .i64 ow)) (by kernel_rfl) ⟨cell_of_row _ X0 0 _ _ (0, 0) hxc, cell_of_row _ X0 1 _ _ (0, 0) hxc, cell_of_row _ X0 2 _ _ (0, 0) hxc, cell_of_row _ X0 3 _ _ (0, 0) hxc, cell_of_row _ X0 4 _ _ (0, 0) hxc⟩ (fun hHeld => ?_)
            clear hxc
            generalize wc.drew = w8 at HK8 HHx hHeld ⊢
            have HS : Hid (∀ V, Below w8.heap.size w8 V → V.cell? ⟨X0, 0, none⟩ = some (.int .i64 xc) ∧ V.cell? ⟨X0, 1, none⟩ = some (.int .i64 xf) ∧ V.cell? ⟨X0, 2, none⟩ = some (.int .u64 xs) ∧ V.cell? ⟨X0, 3, none⟩ = some (.int .i64 st) ∧ V.cell? ⟨X0, 4, none⟩ = some (.int .i64 ow)) := Lib.hid fun V hb => by
              have hx := (hb.block X0 (Array.getElem?_eq_some_iff.1 HHx.out).1).trans HHx.out
              exact ⟨cell_of_row _ X0 0 _ _ (0, 0) hx, cell_of_row _ X0 1 _ _ (0, 0) hx, cell_of_row _ X0 2 _ _ (0, 0) hx, cell_of_row _ X0 3 _ _ (0, 0) hx, cell_of_row _ X0 4 _ _ (0, 0) hx⟩
            have HP := Lib.hid (own_ptsE (show w8.ownsRow w.heap.size TEn 5 (.slice A m c) L.length (ecs L) from by rw [← HK8.out.len]; exact HK8.out.row) HK8.out.len j hj)
            have hjc : j ≤ c := by have := HP.out.nc; omega
            have hjc2 : (j : Int) ≤ (c : Int) := by omega
            have hnc2 : m ≤ c := HP.out.nc
            refine wpAnyH_take (i := 1) (oi := _) (v := ?_) rfl (by kernel_rfl) (by kernel_rfl) (by kernel_rfl) (fun _ _ _ h => h) (Or.inl ⟨by rfl, ?_⟩) (by assumption) ?_
            rotate_left
            · (intro W hSw; clear hSw; go_simp; try with_reducible rfl)
            try simp only [Act.put, List.getElem_toArray, List.getElem_cons_succ, List.getElem_cons_zero, List.setIfInBounds_toArray, List.set_cons_zero, List.set_cons_succ]
            refine wpAnyH_take (i := 2) (oi := _) (v := ?_) rfl (by kernel_rfl) (by kernel_rfl) (by kernel_rfl) (fun _ _ _ h => h) (Or.inl ⟨by rfl, ?_⟩) (by assumption) ?_
            rotate_left
            · (intro W hSw; clear hSw; go_simp; try with_reducible rfl)
            try simp only [Act.put, List.getElem_toArray, List.getElem_cons_succ, List.getElem_cons_zero, List.setIfInBounds_toArray, List.set_cons_zero, List.set_cons_succ]
            refine wpAnyH_take (i := 3) (oi := _) (v := ?_) rfl (by kernel_rfl) (by kernel_rfl) (by kernel_rfl) (fun _ _ _ h => h) (Or.inl ⟨by rfl, ?_⟩) (by assumption) ?_
            rotate_left
            · (intro W hSw; clear hSw; go_simp; try with_reducible rfl)
            try simp only [Act.put, List.getElem_toArray, List.getElem_cons_succ, List.getElem_cons_zero, List.setIfInBounds_toArray, List.set_cons_zero, List.set_cons_succ]
            refine wpAnyH_take (i := 5) (oi := _) (v := ?_) rfl (by kernel_rfl) (by kernel_rfl) (by kernel_rfl) (fun _ _ _ h => h) (Or.inl ⟨by rfl, ?_⟩) (by assumption) ?_
            rotate_left
            · (intro W hSw; obtain ⟨s0, s1, s2, s3, s4⟩ := hSw; go_simp; try with_reducible rfl)
            try simp only [Act.put, List.getElem_toArray, List.getElem_cons_succ, List.getElem_cons_zero, List.setIfInBounds_toArray, List.set_cons_zero, List.set_cons_succ]
            refine wpAnyH_take (i := 8) (oi := _) (v := ?_) rfl (by kernel_rfl) (by kernel_rfl) (by kernel_rfl) (fun _ _ _ h => h) (Or.inl ⟨by rfl, ?_⟩) (by assumption) ?_
            rotate_left
            · (intro W hSw; clear hSw; go_simp; try with_reducible rfl)
            try simp only [Act.put, List.getElem_toArray, List.getElem_cons_succ, List.getElem_cons_zero, List.setIfInBounds_toArray, List.set_cons_zero, List.set_cons_succ]
            refine wpAnyH_take (i := 9) (oi := _) (v := ?_) rfl (by kernel_rfl) (by kernel_rfl) (by kernel_rfl) (fun _ _ _ h => h) (Or.inl ⟨by rfl, ?_⟩) (by assumption) ?_
            rotate_left
            · (intro W hSw; clear hSw; go_simp; try with_reducible rfl)
            try simp only [Act.put, List.getElem_toArray, List.getElem_cons_succ, List.getElem_cons_zero, List.setIfInBounds_toArray, List.set_cons_zero, List.set_cons_succ]
            refine wpAnyH_take (i := 10) (oi := _) (v := ?_) rfl (by kernel_rfl) (by kernel_rfl) (by kernel_rfl) (fun _ _ _ h => h) (Or.inl ⟨by rfl, ?_⟩) (by assumption) ?_
            rotate_left
            · (intro W hSw; clear hSw; go_simp; try with_reducible rfl)
            try simp only [Act.put, List.getElem_toArray, List.getElem_cons_succ, List.getElem_cons_zero, List.setIfInBounds_toArray, List.set_cons_zero, List.set_cons_succ]
            clear hHeld
            generalize hA2 : (if c = j then A else Option.map (fun x => x.add (j * 5)) A) = A2 at HP ⊢
            clear hA2
            have HL1 : Hid ((ecs (L.take j)).length = j * 5) := by show _ = _; rw [ecs_len, List.length_take, Nat.min_eq_left (by have := HK8.out.len; omega)]
            have HL2 : Hid ((ecs (L.drop j)).length = (m - j) * 5) := by show _ = _; rw [ecs_len, List.length_drop, ← HK8.out.len]
            have HB0 : Hid (Below w8.heap.size w8 w8) := Below.refl _ _
            refine wpAnyH_ready (rs := [0, 6]) (by kernel_rfl) (by simp) ?_
            refine AllReadyH.cons rfl (fun K hK => ?_) (AllReadyH.cons rfl (fun K hK => ?_) AllReadyH.nil)
            · simp only [List.getElem_toArray, List.getElem_cons_zero]
              rw [if_pos (by rfl)]
              go_simp
              refine hK.out _ _ (HS.out _ (HB0.out.alloc HB0.out.size (.cells #[] TEn))) (fun hHeld => ?_)
              clear hK K hHeld
              try simp only [Act.put, List.getElem_toArray, List.getElem_cons_succ, List.getElem_cons_zero, List.setIfInBounds_toArray, List.set_cons_zero, List.set_cons_succ]
              obtain ⟨B3, hB3⟩ : ∃ b, b = w8.heap.size := ⟨_, rfl⟩
              obtain ⟨X1, hX1⟩ : ∃ V, V = w8.alloc (.cells #[] TEn) := ⟨_, rfl⟩
              have HB2 : Hid (Below w8.heap.size w8 X1) := by rw [hX1]; exact HB0.out.alloc HB0.out.size _
              have O4 : Hid (X1.ownsRow w8.heap.size TEn 5 (.slice (some ⟨B3, 0, none⟩) 0 0) 0 []) := by rw [hX1, hB3]; exact World.ownsRow_made w8 #[] 0 HB0.out.size (Nat.zero_le _) rfl
              rw [← hX1, ← hB3]
              clear hX1 hB3
              refine wpAnyH_ready (rs := [4, 6]) (by kernel_rfl) (by simp) ?_
              refine AllReadyH.cons rfl (fun K hK => ?_) (AllReadyH.cons rfl (fun K hK => ?_) AllReadyH.nil)
              · simp only [List.getElem_toArray, List.getElem_cons_succ, List.getElem_cons_zero]
                rw [if_pos (by rfl)]
                refine wp_append_any _ _ _ (by rfl) w8.heap.size TEn i0 en0.val 5 40 Tryz.underlying35 hi' hz0 hz1 hz2 rfl (by decide) _ _ _ (by rfl) O4.out A j c (ecs (L.take j)) (by rfl) HL1.out (HP.out.below HB2.out).f1 HP.out.no1 (ecs_one _) (by unfold maxLen; omega) (by omega) HB2.out.size ?_
                intro v8 X5 hown hg
                have HB6 : Hid (Below w8.heap.size w8 X5) := HB2.out.grown hg HB2.out.size fun k hk => (O4.out.lt k hk).1
                have O7 := Lib.hid hown
                refine hK.out _ _ (HS.out _ HB6.out) (fun hHeld => ?_)
                clear hK K hown hg hHeld
                try simp only [Act.put, List.setIfInBounds_toArray, List.set_cons_zero, List.set_cons_succ]
                refine wpAnyH_ready (rs := [6]) (by kernel_rfl) (by simp) ?_
                refine AllReadyH.cons rfl (fun K hK => ?_) AllReadyH.nil
                · simp only [List.getElem_toArray, List.getElem_cons_succ, List.getElem_cons_zero]
                  rw [if_pos (by rfl)]
                  go_simp
                  refine hK.out _ _ (HS.out _ (HB6.out.alloc HB6.out.size (.cells #[.int .i64 xc, .int .i64 xf, .int .u64 xs, .int .i64 st, .int .i64 ow] TEn))) (fun hHeld => ?_)
                  clear hK K hHeld
                  try simp only [Act.put, List.getElem_toArray, List.getElem_cons_succ, List.getElem_cons_zero, List.setIfInBounds_toArray, List.set_cons_zero, List.set_cons_succ]
                  obtain ⟨B11, hB11⟩ : ∃ b, b = X5.heap.size := ⟨_, rfl⟩
                  obtain ⟨X9, hX9⟩ : ∃ V, V = X5.alloc (.cells #[.int .i64 xc, .int .i64 xf, .int .u64 xs, .int .i64 st, .int .i64 ow] TEn) := ⟨_, rfl⟩
                  have HB10 : Hid (Below w8.heap.size w8 X9) := by rw [hX9]; exact HB6.out.alloc HB6.out.size _
                  have NB12 : Hid (X9.heap[B11]? = some (.cells #[.int .i64 xc, .int .i64 xf, .int .u64 xs, .int .i64 st, .int .i64 ow] TEn)) := by rw [hX9, hB11]; exact heap_alloc_new X5 _
                  have O13 := Lib.hid (O7.out.alloc (.cells #[.int .i64 xc, .int .i64 xf, .int .u64 xs, .int .i64 st, .int .i64 ow] TEn))
                  rw [← hX9] at O13
                  rw [← hX9, ← hB11]
                  clear hX9 hB11
                  refine wpAnyH_ready (rs := [7]) (by kernel_rfl) (by simp) ?_
                  refine AllReadyH.cons rfl (fun K hK => ?_) AllReadyH.nil
                  · simp only [List.getElem_toArray, List.getElem_cons_succ, List.getElem_cons_zero]
                    rw [if_pos (by rfl)]
                    refine wp_append_any _ _ _ (by rfl) w8.heap.size TEn i0 en0.val 5 40 Tryz.underlying35 hi' hz0 hz1 hz2 rfl (by decide) _ _ _ (by rfl) O13.out (some ⟨B11, 0, none⟩) 1 1 (encE ⟨⟨xc, xf, xs⟩, st, ow⟩) (by rfl) rfl (fun ad ha => by injection ha with ha; subst ha; exact World.news_of_block (cs := En.cells ⟨⟨xc, xf, xs⟩, st, ow⟩) NB12.out) (fun h => by cases h) (encE_one _) (by unfold maxLen; omega) (by omega) HB10.out.size ?_
                    intro v17 X14 hown hg
                    have HB15 : Hid (Below w8.heap.size w8 X14) := HB10.out.grown hg HB10.out.size fun k hk => (O13.out.lt k hk).1
                    have O16 := Lib.hid hown
                    refine hK.out _ _ (HS.out _ HB15.out) (fun hHeld => ?_)
                    clear hK K hown hg hHeld
                    try simp only [Act.put, List.setIfInBounds_toArray, List.set_cons_zero, List.set_cons_succ]
                    refine wpAnyH_ready (rs := [11]) (by kernel_rfl) (by simp) ?_
                    refine AllReadyH.cons rfl (fun K hK => ?_) AllReadyH.nil
                    · simp only [List.getElem_toArray, List.getElem_cons_succ, List.getElem_cons_zero]
                      rw [if_pos (by rfl)]
                      refine wp_append_any _ _ _ (by rfl) w8.heap.size TEn i0 en0.val 5 40 Tryz.underlying35 hi' hz0 hz1 hz2 rfl (by decide) _ _ _ (by rfl) O16.out A2 (m - j) (c - j) (ecs (L.drop j)) (by rfl) HL2.out (HP.out.below HB15.out).f2 HP.out.no2 (ecs_one _) (by unfold maxLen; omega) (by omega) HB15.out.size ?_
                      intro v21 X18 hown hg
                      have HB19 : Hid (Below w8.heap.size w8 X18) := HB15.out.grown hg HB15.out.size fun k hk => (O16.out.lt k hk).1
                      have O20 := Lib.hid hown
                      refine hK.out _ _ (HS.out _ HB19.out) (fun hHeld => ?_)
                      clear hK K hown hg hHeld
                      try simp only [Act.put, List.setIfInBounds_toArray, List.set_cons_zero, List.set_cons_succ]
                      have hHeld := HS.out _ HB19.out
                      refine wpAnyH_take (i := 12) (oi := _) (v := ?_) rfl (by kernel_rfl) (by kernel_rfl) (by kernel_rfl) (fun _ _ _ h => h) (Or.inl ⟨by rfl, ?_⟩) (by assumption) ?_
                      rotate_left
                      · (intro W hSw; (try dsimp only at hSw); go_simp; try with_reducible rfl)
                      try simp only [Act.put, List.getElem_toArray, List.getElem_cons_succ, List.getElem_cons_zero, List.setIfInBounds_toArray, List.set_cons_zero, List.set_cons_succ]
                      refine wpAnyH_done (by kernel_rfl) ?_ _
                      clear hHeld
                      obtain ⟨A9, c9, hv9⟩ := own_form5n O20.out
                      subst hv9
                      have hfin := all_step HK8.out O20.out HB19.out HJ.out HM.out HX.out
                      have HFin := Lib.hid hfin
                      clear hfin
                      go_wp2
                      go_roundw
                      case rel => exact ⟨i + 1, _, c9, A9, _, rfl, by go_num, hlt, HFin.out⟩
                      case measure => simp [intOf]; omega
              · simp only [List.getElem_toArray, List.getElem_cons_succ, List.getElem_cons_zero]
                rw [if_pos (by rfl)]
                go_simp
                refine hK.out _ _ (HS.out _ (HB2.out.alloc HB2.out.size (.cells #[.int .i64 xc, .int .i64 xf, .int .u64 xs, .int .i64 st, .int .i64 ow] TEn))) (fun hHeld => ?_)
                clear hK K hHeld
                try simp only [Act.put, List.getElem_toArray, List.getElem_cons_succ, List.getElem_cons_zero, List.setIfInBounds_toArray, List.set_cons_zero, List.set_cons_succ]
                obtain ⟨B24, hB24⟩ : ∃ b, b = X1.heap.size := ⟨_, rfl⟩
                obtain ⟨X22, hX22⟩ : ∃ V, V = X1.alloc (.cells #[.int .i64 xc, .int .i64 xf, .int .u64 xs, .int .i64 st, .int .i64 ow] TEn) := ⟨_, rfl⟩
                have HB23 : Hid (Below w8.heap.size w8 X22) := by rw [hX22]; exact HB2.out.alloc HB2.out.size _
                have NB25 : Hid (X22.heap[B24]? = some (.cells #[.int .i64 xc, .int .i64 xf, .int .u64 xs, .int .i64 st, .int .i64 ow] TEn)) := by rw [hX22, hB24]; exact heap_alloc_new X1 _
                have O26 := Lib.hid (O4.out.alloc (.cells #[.int .i64 xc, .int .i64 xf, .int .u64 xs, .int .i64 st, .int .i64 ow] TEn))
                rw [← hX22] at O26
                have HNE : Hid (B24 ≠ B3) := by have := (O4.out.lt B3 rfl).2; show _ ≠ _; omega
                rw [← hX22, ← hB24]
                clear hX22 hB24
                refine wpAnyH_ready (rs := [4]) (by kernel_rfl) (by simp) ?_
                refine AllReadyH.cons rfl (fun K hK => ?_) AllReadyH.nil
                · simp only [List.getElem_toArray, List.getElem_cons_succ, List.getElem_cons_zero]
                  rw [if_pos (by rfl)]
                  refine wp_append_any _ _ _ (by rfl) w8.heap.size TEn i0 en0.val 5 40 Tryz.underlying35 hi' hz0 hz1 hz2 rfl (by decide) _ _ _ (by rfl) O26.out A j c (ecs (L.take j)) (by rfl) HL1.out (HP.out.below HB23.out).f1 HP.out.no1 (ecs_one _) (by unfold maxLen; omega) (by omega) HB23.out.size ?_
                  intro v30 X27 hown hg
                  have HB28 : Hid (Below w8.heap.size w8 X27) := HB23.out.grown hg HB23.out.size fun k hk => (O26.out.lt k hk).1
                  have O29 := Lib.hid hown
                  have NB31 : Hid (X27.heap[B24]? = some (.cells #[.int .i64 xc, .int .i64 xf, .int .u64 xs, .int .i64 st, .int .i64 ow] TEn)) := (hg.block B24 (Array.getElem?_eq_some_iff.1 NB25.out).1 (fun e => HNE.out (by injection e))).trans NB25.out
                  refine hK.out _ _ (HS.out _ HB28.out) (fun hHeld => ?_)
                  clear hK K hown hg hHeld
                  try simp only [Act.put, List.setIfInBounds_toArray, List.set_cons_zero, List.set_cons_succ]
                  refine wpAnyH_ready (rs := [7]) (by kernel_rfl) (by simp) ?_
                  refine AllReadyH.cons rfl (fun K hK => ?_) AllReadyH.nil
                  · simp only [List.getElem_toArray, List.getElem_cons_succ, List.getElem_cons_zero]
                    rw [if_pos (by rfl)]
                    refine wp_append_any _ _ _ (by rfl) w8.heap.size TEn i0 en0.val 5 40 Tryz.underlying35 hi' hz0 hz1 hz2 rfl (by decide) _ _ _ (by rfl) O29.out (some ⟨B24, 0, none⟩) 1 1 (encE ⟨⟨xc, xf, xs⟩, st, ow⟩) (by rfl) rfl (fun ad ha => by injection ha with ha; subst ha; exact World.news_of_block (cs := En.cells ⟨⟨xc, xf, xs⟩, st, ow⟩) NB31.out) (fun h => by cases h) (encE_one _) (by unfold maxLen; omega) (by omega) HB28.out.size ?_
                    intro v35 X32 hown hg
                    have HB33 : Hid (Below w8.heap.size w8 X32) := HB28.out.grown hg HB28.out.size fun k hk => (O29.out.lt k hk).1
                    have O34 := Lib.hid hown
                    refine hK.out _ _ (HS.out _ HB33.out) (fun hHeld => ?_)
                    clear hK K hown hg hHeld
                    try simp only [Act.put, List.setIfInBounds_toArray, List.set_cons_zero, List.set_cons_succ]
                    refine wpAnyH_ready (rs := [11]) (by kernel_rfl) (by simp) ?_
                    refine AllReadyH.cons rfl (fun K hK => ?_) AllReadyH.nil
                    · simp only [List.getElem_toArray, List.getElem_cons_succ, List.getElem_cons_zero]
                      rw [if_pos (by rfl)]
                      refine wp_append_any _ _ _ (by rfl) w8.heap.size TEn i0 en0.val 5 40 Tryz.underlying35 hi' hz0 hz1 hz2 rfl (by decide) _ _ _ (by rfl) O34.out A2 (m - j) (c - j) (ecs (L.drop j)) (by rfl) HL2.out (HP.out.below HB33.out).f2 HP.out.no2 (ecs_one _) (by unfold maxLen; omega) (by omega) HB33.out.size ?_
                      intro v39 X36 hown hg
                      have HB37 : Hid (Below w8.heap.size w8 X36) := HB33.out.grown hg HB33.out.size fun k hk => (O34.out.lt k hk).1
                      have O38 := Lib.hid hown
                      refine hK.out _ _ (HS.out _ HB37.out) (fun hHeld => ?_)
                      clear hK K hown hg hHeld
                      try simp only [Act.put, List.setIfInBounds_toArray, List.set_cons_zero, List.set_cons_succ]
                      have hHeld := HS.out _ HB37.out
                      refine wpAnyH_take (i := 12) (oi := _) (v := ?_) rfl (by kernel_rfl) (by kernel_rfl) (by kernel_rfl) (fun _ _ _ h => h) (Or.inl ⟨by rfl, ?_⟩) (by assumption) ?_
                      rotate_left
                      · (intro W hSw; (try dsimp only at hSw); go_simp; try with_reducible rfl)
                      try simp only [Act.put, List.getElem_toArray, List.getElem_cons_succ, List.getElem_cons_zero, List.setIfInBounds_toArray, List.set_cons_zero, List.set_cons_succ]
                      refine wpAnyH_done (by kernel_rfl) ?_ _
                      clear hHeld
                      obtain ⟨A9, c9, hv9⟩ := own_form5n O38.out
                      subst hv9
                      have hfin := all_step HK8.out O38.out HB37.out HJ.out HM.out HX.out
                      have HFin := Lib.hid hfin
                      clear hfin
                      go_wp2
                      go_roundw
                      case rel => exact ⟨i + 1, _, c9, A9, _, rfl, by go_num, hlt, HFin.out⟩
                      case measure => simp [intOf]; omega
            · simp only [List.getElem_toArray, List.getElem_cons_succ, List.getElem_cons_zero]
              rw [if_pos (by rfl)]
              go_simp
              refine hK.out _ _ (HS.out _ (HB0.out.alloc HB0.out.size (.cells #[.int .i64 xc, .int .i64 xf, .int .u64 xs, .int .i64 st, .int .i64 ow] TEn))) (fun hHeld => ?_)
              clear hK K hHeld
              try simp only [Act.put, List.getElem_toArray, List.getElem_cons_succ, List.getElem_cons_zero, List.setIfInBounds_toArray, List.set_cons_zero, List.set_cons_succ]
              obtain ⟨B42, hB42⟩ : ∃ b, b = w8.heap.size := ⟨_, rfl⟩
              obtain ⟨X40, hX40⟩ : ∃ V, V = w8.alloc (.cells #[.int .i64 xc, .int .i64 xf, .int .u64 xs, .int .i64 st, .int .i64 ow] TEn) := ⟨_, rfl⟩
              have HB41 : Hid (Below w8.heap.size w8 X40) := by rw [hX40]; exact HB0.out.alloc HB0.out.size _
              have NB43 : Hid (X40.heap[B42]? = some (.cells #[.int .i64 xc, .int .i64 xf, .int .u64 xs, .int .i64 st, .int .i64 ow] TEn)) := by rw [hX40, hB42]; exact heap_alloc_new w8 _
              rw [← hX40, ← hB42]
              clear hX40 hB42
              refine wpAnyH_ready (rs := [0]) (by kernel_rfl) (by simp) ?_
              refine AllReadyH.cons rfl (fun K hK => ?_) AllReadyH.nil
              · simp only [List.getElem_toArray, List.getElem_cons_zero]
                rw [if_pos (by rfl)]
                go_simp
                refine hK.out _ _ (HS.out _ (HB41.out.alloc HB41.out.size (.cells #[] TEn))) (fun hHeld => ?_)
                clear hK K hHeld
                try simp only [Act.put, List.getElem_toArray, List.getElem_cons_succ, List.getElem_cons_zero, List.setIfInBounds_toArray, List.set_cons_zero, List.set_cons_succ]
                obtain ⟨B46, hB46⟩ : ∃ b, b = X40.heap.size := ⟨_, rfl⟩
                obtain ⟨X44, hX44⟩ : ∃ V, V = X40.alloc (.cells #[] TEn) := ⟨_, rfl⟩
                have HB45 : Hid (Below w8.heap.size w8 X44) := by rw [hX44]; exact HB41.out.alloc HB41.out.size _
                have O47 : Hid (X44.ownsRow w8.heap.size TEn 5 (.slice (some ⟨B46, 0, none⟩) 0 0) 0 []) := by rw [hX44, hB46]; exact World.ownsRow_made X40 #[] 0 HB41.out.size (Nat.zero_le _) rfl
                have NB48 : Hid (X44.heap[B42]? = some (.cells #[.int .i64 xc, .int .i64 xf, .int .u64 xs, .int .i64 st, .int .i64 ow] TEn)) := by rw [hX44]; exact (Below.heap_alloc _ _ _ (Array.getElem?_eq_some_iff.1 NB43.out).1).trans NB43.out
                have HNE : Hid (B42 ≠ B46) := by have := (Array.getElem?_eq_some_iff.1 NB43.out).1; show _ ≠ _; omega
                rw [← hX44, ← hB46]
                clear hX44 hB46
                refine wpAnyH_ready (rs := [4]) (by kernel_rfl) (by simp) ?_
                refine AllReadyH.cons rfl (fun K hK => ?_) AllReadyH.nil
                · simp only [List.getElem_toArray, List.getElem_cons_succ, List.getElem_cons_zero]
                  rw [if_pos (by rfl)]
                  refine wp_append_any _ _ _ (by rfl) w8.heap.size TEn i0 en0.val 5 40 Tryz.underlying35 hi' hz0 hz1 hz2 rfl (by decide) _ _ _ (by rfl) O47.out A j c (ecs (L.take j)) (by rfl) HL1.out (HP.out.below HB45.out).f1 HP.out.no1 (ecs_one _) (by unfold maxLen; omega) (by omega) HB45.out.size ?_
                  intro v52 X49 hown hg
                  have HB50 : Hid (Below w8.heap.size w8 X49) := HB45.out.grown hg HB45.out.size fun k hk => (O47.out.lt k hk).1
                  have O51 := Lib.hid hown
                  have NB53 : Hid (X49.heap[B42]? = some (.cells #[.int .i64 xc, .int .i64 xf, .int .u64 xs, .int .i64 st, .int .i64 ow] TEn)) := (hg.block B42 (Array.getElem?_eq_some_iff.1 NB48.out).1 (fun e => HNE.out (by injection e))).trans NB48.out
                  refine hK.out _ _ (HS.out _ HB50.out) (fun hHeld => ?_)
                  clear hK K hown hg hHeld
                  try simp only [Act.put, List.setIfInBounds_toArray, List.set_cons_zero, List.set_cons_succ]
                  refine wpAnyH_ready (rs := [7]) (by kernel_rfl) (by simp) ?_
                  refine AllReadyH.cons rfl (fun K hK => ?_) AllReadyH.nil
                  · simp only [List.getElem_toArray, List.getElem_cons_succ, List.getElem_cons_zero]
                    rw [if_pos (by rfl)]
                    refine wp_append_any _ _ _ (by rfl) w8.heap.size TEn i0 en0.val 5 40 Tryz.underlying35 hi' hz0 hz1 hz2 rfl (by decide) _ _ _ (by rfl) O51.out (some ⟨B42, 0, none⟩) 1 1 (encE ⟨⟨xc, xf, xs⟩, st, ow⟩) (by rfl) rfl (fun ad ha => by injection ha with ha; subst ha; exact World.news_of_block (cs := En.cells ⟨⟨xc, xf, xs⟩, st, ow⟩) NB53.out) (fun h => by cases h) (encE_one _) (by unfold maxLen; omega) (by omega) HB50.out.size ?_
                    intro v57 X54 hown hg
                    have HB55 : Hid (Below w8.heap.size w8 X54) := HB50.out.grown hg HB50.out.size fun k hk => (O51.out.lt k hk).1
                    have O56 := Lib.hid hown
                    refine hK.out _ _ (HS.out _ HB55.out) (fun hHeld => ?_)
                    clear hK K hown hg hHeld
                    try simp only [Act.put, List.setIfInBounds_toArray, List.set_cons_zero, List.set_cons_succ]
                    refine wpAnyH_ready (rs := [11]) (by kernel_rfl) (by simp) ?_
                    refine AllReadyH.cons rfl (fun K hK => ?_) AllReadyH.nil
                    · simp only [List.getElem_toArray, List.getElem_cons_succ, List.getElem_cons_zero]
                      rw [if_pos (by rfl)]
                      refine wp_append_any _ _ _ (by rfl) w8.heap.size TEn i0 en0.val 5 40 Tryz.underlying35 hi' hz0 hz1 hz2 rfl (by decide) _ _ _ (by rfl) O56.out A2 (m - j) (c - j) (ecs (L.drop j)) (by rfl) HL2.out (HP.out.below HB55.out).f2 HP.out.no2 (ecs_one _) (by unfold maxLen; omega) (by omega) HB55.out.size ?_
                      intro v61 X58 hown hg
                      have HB59 : Hid (Below w8.heap.size w8 X58) := HB55.out.grown hg HB55.out.size fun k hk => (O56.out.lt k hk).1
                      have O60 := Lib.hid hown
                      refine hK.out _ _ (HS.out _ HB59.out) (fun hHeld => ?_)
                      clear hK K hown hg hHeld
                      try simp only [Act.put, List.setIfInBounds_toArray, List.set_cons_zero, List.set_cons_succ]
                      have hHeld := HS.out _ HB59.out
                      refine wpAnyH_take (i := 12) (oi := _) (v := ?_) rfl (by kernel_rfl) (by kernel_rfl) (by kernel_rfl) (fun _ _ _ h => h) (Or.inl ⟨by rfl, ?_⟩) (by assumption) ?_
                      rotate_left
                      · (intro W hSw; (try dsimp only at hSw); go_simp; try with_reducible rfl)
                      try simp only [Act.put, List.getElem_toArray, List.getElem_cons_succ, List.getElem_cons_zero, List.setIfInBounds_toArray, List.set_cons_zero, List.set_cons_succ]
                      refine wpAnyH_done (by kernel_rfl) ?_ _
                      clear hHeld
                      obtain ⟨A9, c9, hv9⟩ := own_form5n O60.out
                      subst hv9
                      have hfin := all_step HK8.out O60.out HB59.out HJ.out HM.out HX.out
                      have HFin := Lib.hid hfin
                      clear hfin
                      go_wp2
                      go_roundw
                      case rel => exact ⟨i + 1, _, c9, A9, _, rfl, by go_num, hlt, HFin.out⟩
                      case measure => simp [intOf]; omega
          go_wp2
          go_loopw [7] (fun jv wr => ∃ j : Nat, jv = .int .i64 (j : Int) ∧ j ≤ m ∧ Hid (∀ q, (h : q < j) → (h2 : q < L.length) → ltK (L[q]'h2).k ⟨xc, xf, xs⟩ = true) ∧ Hid (Below w1.heap.size w1 wr)) (fun jv _ => m - (intOf jv).toNat)
          case atStart => exact ⟨0, rfl, Nat.zero_le _, Lib.hid fun q h => by omega, Lib.hid (Below.refl _ _)⟩
          case round =>
            obtain ⟨j, rfl, hj, HJ, HB2⟩ := hrel
            have HK2 := Lib.hid (HW1.out.below HB2.out)
            have hxc := (HB2.out.block X0 (Array.getElem?_eq_some_iff.1 HXB.out).1).trans HXB.out
            have x0 := cell_of_row _ X0 0 _ _ (0, 0) hxc; have x1 := cell_of_row _ X0 1 _ _ (0, 0) hxc; have x2 := cell_of_row _ X0 2 _ _ (0, 0) hxc
            simp only [List.getElem?_toArray, List.getElem?_cons_succ, List.getElem?_cons_zero] at x0 x1 x2
            clear hxc
            have hj0 : (0 : Int) ≤ (j : Int) := by omega
            by_cases hjl : j < m
            · have hj1 : (j : Int) < (m : Int) := by omega
              have hrow : RowE w.heap.size wr (.slice A m c) L := by
                have h9 : wr.ownsRow w.heap.size TEn 5 (.slice A m c) L.length (ecs L) := by rw [← HK2.out.len]; exact HK2.out.row
                exact rowE_of_own h9
              obtain ⟨g5, c1, hv, _, _, he⟩ := hrow.at j (by have := HK2.out.len; omega)
              injection hv with hv hv1 hv2
              clear hv1
              subst hv hv2
              have HTL : Hid (ltK (L[j]'(by have := HK2.out.len; omega)).k ⟨xc, xf, xs⟩ = true → ∀ q, (h : q < j + 1) → (h2 : q < L.length) → ltK (L[q]'h2).k ⟨xc, xf, xs⟩ = true) := fun hh q hq h2 => by
                rcases Nat.lt_or_ge q j with h | h
                · exact HJ.out q h h2
                · obtain rfl : q = j := by omega
                  exact hh
              have HTF : Hid (ltK (L[j]'(by have := HK2.out.len; omega)).k ⟨xc, xf, xs⟩ = false → (L.takeWhile fun e => ltK e.k ⟨xc, xf, xs⟩).length = j) := fun hh => tw_len _ _ _ (by have := HK2.out.len; omega) (fun q hq => HJ.out q hq _) (fun _ => hh)
              generalize L[j]'(by have := HK2.out.len; omega) = me at he HTL HTF
              have HLE := Lib.hid (fun V => rless_any me.k ⟨xc, xf, xs⟩ V)
              have y0 := he.c; have y1 := he.f; have y2 := he.s
              clear he hrow
              cases hl : ltK me.k ⟨xc, xf, xs⟩ with
              | true =>
                rw [hl] at HLE
                have HT := Lib.hid (HTL.out hl)
                clear HTL HTF
                obtain ⟨⟨mc, mf, ms⟩, mst, mow⟩ := me
                unfold K3.val at HLE
                dsimp only at HLE y0 y1 y2
                have HSC : Hid (∀ V, Below wr.heap.size wr V → V.cell? ⟨g5, j * 5, none⟩ = some (.int .i64 mc) ∧ V.cell? ⟨g5, j * 5 + 1, none⟩ = some (.int .i64 mf) ∧ V.cell? ⟨g5, j * 5 + 2, none⟩ = some (.int .u64 ms) ∧ V.cell? ⟨X0, 0, none⟩ = some (.int .i64 xc) ∧ V.cell? ⟨X0, 1, none⟩ = some (.int .i64 xf) ∧ V.cell? ⟨X0, 2, none⟩ = some (.int .u64 xs)) := Lib.hid fun V hb => by
                  have kk : ∀ p u, wr.cell? p = some u → V.cell? p = some u := fun p u hp => (hb.cell (World.block_lt_of_cell? _ _ hp)).trans hp
                  exact ⟨kk _ _ y0, kk _ _ y1, kk _ _ y2, kk _ _ x0, kk _ _ x1, kk _ _ x2⟩
                have hSd := HSC.out wr.drew (Below.refl _ _).drew
                clear x0 x1 x2 y0 y1 y2
                go_wp2
                go_region_held3 (fun W => W.cell? ⟨g5, j * 5, none⟩ = some (.int .i64 mc) ∧ W.cell? ⟨g5, j * 5 + 1, none⟩ = some (.int .i64 mf) ∧ W.cell? ⟨g5, j * 5 + 2, none⟩ = some (.int .u64 ms) ∧ W.cell? ⟨X0, 0, none⟩ = some (.int .i64 xc) ∧ W.cell? ⟨X0, 1, none⟩ = some (.int .i64 xf) ∧ W.cell? ⟨X0, 2, none⟩ = some (.int .u64 xs))
                  (first | assumption | exact HSC.out _ ((Below.refl _ _).drew.trans hb3))
                  (first | (go_at_call 64; ((with_reducible refine (HLE.out _).mono ?_); rintro e w3 ⟨rfl, hb3⟩)))
                have HB3 : Hid (Below w1.heap.size w1 w3) := HB2.out.drew.trans (hb3.mono HB2.out.size)
                clear hb3 hSd
                go_wp2
                go_roundw
                case rel => exact ⟨j + 1, by go_num, by omega, HT.out, HB3.out⟩
                case measure => simp [intOf]; omega
              | false =>
                rw [hl] at HLE
                have HT := Lib.hid (HTF.out hl)
                clear HTL HTF
                obtain ⟨⟨mc, mf, ms⟩, mst, mow⟩ := me
                unfold K3.val at HLE
                dsimp only at HLE y0 y1 y2
                have HSC : Hid (∀ V, Below wr.heap.size wr V → V.cell? ⟨g5, j * 5, none⟩ = some (.int .i64 mc) ∧ V.cell? ⟨g5, j * 5 + 1, none⟩ = some (.int .i64 mf) ∧ V.cell? ⟨g5, j * 5 + 2, none⟩ = some (.int .u64 ms) ∧ V.cell? ⟨X0, 0, none⟩ = some (.int .i64 xc) ∧ V.cell? ⟨X0, 1, none⟩ = some (.int .i64 xf) ∧ V.cell? ⟨X0, 2, none⟩ = some (.int .u64 xs)) := Lib.hid fun V hb => by
                  have kk : ∀ p u, wr.cell? p = some u → V.cell? p = some u := fun p u hp => (hb.cell (World.block_lt_of_cell? _ _ hp)).trans hp
                  exact ⟨kk _ _ y0, kk _ _ y1, kk _ _ y2, kk _ _ x0, kk _ _ x1, kk _ _ x2⟩
                have hSd := HSC.out wr.drew (Below.refl _ _).drew
                clear x0 x1 x2 y0 y1 y2
                go_wp2
                go_region_held3 (fun W => W.cell? ⟨g5, j * 5, none⟩ = some (.int .i64 mc) ∧ W.cell? ⟨g5, j * 5 + 1, none⟩ = some (.int .i64 mf) ∧ W.cell? ⟨g5, j * 5 + 2, none⟩ = some (.int .u64 ms) ∧ W.cell? ⟨X0, 0, none⟩ = some (.int .i64 xc) ∧ W.cell? ⟨X0, 1, none⟩ = some (.int .i64 xf) ∧ W.cell? ⟨X0, 2, none⟩ = some (.int .u64 xs))
                  (first | assumption | exact HSC.out _ ((Below.refl _ _).drew.trans hb3))
                  (first | (go_at_call 64; ((with_reducible refine (HLE.out _).mono ?_); rintro e w3 ⟨rfl, hb3⟩)))
                have HB3 : Hid (Below w1.heap.size w1 w3) := HB2.out.drew.trans (hb3.mono HB2.out.size)
                clear hb3 hSd
                go_wp2
                go_meet
                exact ⟨j, rfl, hj, HT.out, HB3.out⟩
            · obtain rfl : j = m := by omega
              have HT : Hid ((L.takeWhile fun e => ltK e.k ⟨xc, xf, xs⟩).length = j) := tw_len _ _ _ (by have := HK2.out.len; omega) (fun q hq => HJ.out q hq _) (fun h => by have := HK2.out.len; omega)
              have hdf : decide ((j : Int) < (j : Int)) = false := by simp
              clear x0 x1 x2
              go_wp2
              go_quiet (fail)
              go_wp2
              go_meet
              exact ⟨j, rfl, Nat.le_refl _, HT.out, below_drewN HB2.out _⟩
        · obtain rfl : i = mk := by omega
          have hii : ¬ ((i : Int) < (i : Int)) := by omega
          have HE : Hid (AllP w wr A m c L (allL ls (k + 1))) := Lib.hid (by have := HW.out; rw [HMk.out, List.take_length] at this; exact this)
          clear HW hr
          go_wp2
          go_roundw
          case rel => exact ⟨k + 1, m, c, A, L, rfl, by go_num, hkn, HE.out⟩
          case measure => simp [intOf]; omega
    · obtain rfl : k = n := by omega
      have hkk : ¬ ((k : Int) < (k : Int)) := by omega
      obtain ⟨-, -, t0, -⟩ := PT.look (HPT.out.below (hW.bel.mono (Nat.le_refl _))) 0 hn0
      clear hW
      go_wp2
      go_ret
      exact ⟨_, rfl, L, rowE_of_own (show wr.ownsRow w.heap.size TEn 5 (.slice A m c) L.length (ecs L) from by rw [← HW.out.len]; exact HW.out.row), HW.out.perm, HW.out.pw, HW.out.bel⟩
end
end Go.Proofs.YtlpnecmcncekcaaGreat.Mk
