import Derived.Test.YtlgbendncgboiaaGapQ
import Derived.Test.YtlgbendncgboiaaGapOrdBase
import Derived.Deep.RegionHeld3
/- 'GapPlays': Same; the two heaps' acts side by side. -/
namespace Go.Proofs.Ytlgbendncgboiaa.Gp
open Go Go.RowKit Gm

/-- the code's heap and the page's -/
structure Bo (B H Q : Nat) (v1 v2 : Value) (L : List Int) (W : World) : Prop where
  a : GH B W H v1 L
  b : QH B W Q v2 L
  ne : H ≠ Q
  h1 : some Q ≠ v1.ownBlock
  h2 : some H ≠ v2.ownBlock
  ap : ∀ k, v1.ownBlock = some k → v2.ownBlock ≠ some k
theorem Bo.below {B H Q : Nat} {v1 v2 : Value} {L : List Int} {W V : World} (h : Bo B H Q v1 v2 L W) (hb : Below W.heap.size W V) : Bo B H Q v1 v2 L V := ⟨h.a.below hb, h.b.below hb, h.ne, h.h1, h.h2, h.ap⟩
theorem QH.aside {B H Q : Nat} {W V : World} {v v1 v1' : Value} {L : List Int} (h : QH B W Q v L) (f : Fr H v1 v1' W V) (h1 : Q ≠ H) (h2 : some Q ≠ v1.ownBlock) (h3 : ∀ k, v.ownBlock = some k → k ≠ H ∧ some k ≠ v1.ownBlock) : QH B V Q v L := by
  refine ⟨(f.block Q h.lt h1 h2).trans h.box, h.low, ⟨h.row.1, ?_⟩, h.few, h.rise, h.bd⟩
  rcases h.row.2 with h4 | ⟨g, cap, cur, hv, hg, hh, r⟩
  · exact Or.inl h4
  · have hk := h3 g (by rw [hv]; rfl)
    exact Or.inr ⟨g, cap, cur, hv, hg, (f.block g (Array.getElem?_eq_some_iff.1 hh).1 hk.1 hk.2).trans hh, r⟩
/-- the code's act, then the page's -/
theorem Bo.acts {B H Q : Nat} {v1 v2 v1' v2' : Value} {L L' : List Int} {W V U : World} (h : Bo B H Q v1 v2 L W) (hg : GH B V H v1' L') (f : Fr H v1 v1' W V) (hq : QH B U Q v2' L') (k : Fr Q v2 v2' V U) : Bo B H Q v1' v2' L' U := by
  have hb : QH B V Q v2 L := h.b.aside f h.ne.symm h.h1 (fun k hk => ⟨fun e => h.h2 (by rw [hk, e]), fun e => h.ap k e.symm hk⟩)
  have n1 := f.not h.b.lt h.h1
  have ap1 : ∀ k, v1'.ownBlock = some k → v2.ownBlock ≠ some k := fun k h3 h4 => f.not ((own_lt h.b.row k h4).2) (fun e => h.ap k e.symm h4) h3.symm
  have hH : H < V.heap.size := hg.lt
  refine ⟨hg.aside k h.ne h.h2 (fun q hq => ⟨fun e => n1 (by rw [hq, e]), fun e => ap1 q hq e.symm⟩), hq, h.ne, n1, k.not hH h.h2, fun q h3 h4 => ?_⟩
  exact k.not (hg.ownLt q h3) (fun e => ap1 q h3 e.symm) h4.symm
theorem Bo.qmid {B H Q : Nat} {v1 v2 v1' : Value} {L : List Int} {W V : World} (h : Bo B H Q v1 v2 L W) (f : Fr H v1 v1' W V) : QH B V Q v2 L :=
  h.b.aside f h.ne.symm h.h1 (fun k hk => ⟨fun e => h.h2 (by rw [hk, e]), fun e => h.ap k e.symm hk⟩)
/-- what lies below both heaps stands -/
theorem below_of_fr {B Q : Nat} {v v' : Value} {W V : World} {L : List Int} (h : QH B W Q v L) (f : Fr Q v v' W V) : Below B W V :=
  ⟨f.os, f.tape, f.output, f.size, fun k hk => f.block k (by have := h.low; have := h.lt; omega) (by have := h.low; omega) (fun e => by have := (own_lt h.row k e.symm).1; omega)⟩
/-- a row's cell -/
theorem own_cell {W V : World} {n c : Nat} {A : Option Addr} {l : List Int} (h : V.ownsRow W.heap.size TU 1 (.slice A n c) n (uc l)) (hn : n = l.length) (i : Nat) (hi : i < n) : ∃ g, A = some ⟨g, 0, none⟩ ∧ V.cell? ⟨g, i, none⟩ = some (.int .u64 (l.getD i 0)) := by
  rcases h.2 with ⟨h2, h3⟩ | ⟨g, cap, cur, hv, hg, hh, h1, h2, h3, h4⟩
  · omega
  · injection hv with hv
    refine ⟨g, hv, ?_⟩
    have e : (uc l)[i]? = some (.int .u64 (l.getD i 0)) := by simp [uc, List.getD_eq_getElem?_getD, (by omega : i < l.length)]
    rw [← h4, List.getElem?_take_of_lt (by omega)] at e
    simp only [World.cell?, hh]
    simpa using e
set_option maxRecDepth 20000 in
set_option maxHeartbeats 8000000 in
theorem same_any (B H Q : Nat) (v1 v2 : Value) (L : List Int) (W : World) (h : Bo B H Q v1 v2 L W) : Calls Try.prog 14 #[.pointer (some ⟨H, 0, none⟩), .pointer (some ⟨Q, 0, none⟩)] W fun e w' => e = .returned (.bool true) ∧ Below W.heap.size W w' := by
  have HR := Lib.hid (grunsH B H v1 L W h.a)
  have HB := Lib.hid h
  clear h
  go_enter Try.func14, Try.ntmps14
  go_wp2_with fail
  refine HR.out.mono ?_
  rintro _ w1 ⟨va, ls, rfl, hva, hs, hL, b1⟩
  have hB1 := HB.out.below b1
  have hra := RB.of HB.out.a hva
  obtain ⟨A1, c1, rfl⟩ := hra.form
  have HQR := Lib.hid (qruns_any B Q v2 L w1 hB1.b)
  have H1 := Lib.hid (And.intro hB1 (And.intro b1 hra))
  have HL := Lib.hid (And.intro hs hL)
  clear hB1 b1 hra hva hs hL HR HB
  go_wp2_with fail
  refine HQR.out.mono ?_
  rintro _ w2 ⟨vf, vm, rfl, hrr⟩
  have hrow : rowsF L L.length = ls := by rw [HL.out.2]; exact rowsF_exp HL.out.1
  rw [hrow] at hrr
  obtain ⟨A2, c2, rfl⟩ := own_form hrr.a
  obtain ⟨A3, c3, rfl⟩ := own_form hrr.b
  rw [List.length_map] at hrr
  have hB2 := H1.out.1.below hrr.bel
  have hra := H1.out.2.2.below hrr.bel
  obtain ⟨n, hnd⟩ : ∃ n, n = ls.length := ⟨_, rfl⟩
  obtain ⟨A4, c4, hv2⟩ := hB2.b.form
  have q0 := cell_of_row w2 Q 0 _ _ (0, 0) hB2.b.box
  rw [hv2] at q0
  obtain ⟨m, hmd⟩ : ∃ m, m = L.length := ⟨_, rfl⟩
  have hfew := hB2.b.few
  rw [← hmd] at hfew q0
  rw [List.length_map, List.length_map, ← hnd]
  rw [← hnd] at hrr hra
  have hn9 : n ≤ 900 := by
    have := rowsF_len L L.length
    rw [hrow] at this
    omega
  have H2 := Lib.hid (And.intro hB2 (And.intro (H1.out.2.1.trans (hrr.bel.mono H1.out.2.1.size)) (And.intro hra hrr)))
  have HN := Lib.hid (And.intro hnd hmd)
  have HLen := Lib.hid (glenH B H v1 L w2.drew (hB2.below (Below.refl _ w2).drew).a)
  rw [← hmd] at HLen
  have hQl : Q < w2.heap.size := hB2.b.lt
  clear hrow hrr hB2 hra hnd hmd hv2 HQR H1
  have qd : w2.drew.cell? ⟨Q, 0, none⟩ = some (.slice A4 m c4) := q0
  have hKeep : Hid (∀ w3, Below w2.drew.heap.size w2.drew w3 → w3.cell? ⟨Q, 0, none⟩ = some (.slice A4 m c4)) := Lib.hid fun w3 hb => (hb.cell (p := ⟨Q, 0, none⟩) hQl).trans q0
  go_upto_region 3 with fail
  go_region_held3 (fun W => W.cell? ⟨Q, 0, none⟩ = some (.slice A4 m c4)) (first | assumption | exact hKeep.out _ (by assumption))
    ((go_at_call 16; (with_reducible refine HLen.out.mono ?_); rintro e w3 ⟨rfl, hb3⟩))
  have hw : IntKind.u64.wrap (m : Int) = (m : Int) := IntWalk.u64_in _ (by omega)
  have b23 : Below w2.heap.size w2 w3 := (Below.refl _ w2).drew.trans hb3
  have H3 := Lib.hid (And.intro (H2.out.2.1.trans (b23.mono H2.out.2.1.size)) (And.intro (H2.out.2.2.1.below b23) (H2.out.2.2.2.below b23)))
  clear hb3 b23 H2 HLen hKeep q0 qd hQl
  go_upto_region 5 with fail
  clear hw
  go_wp2
  go_loopw [8] (fun i wq => ∃ k q : Nat, k ≤ n ∧ i = .int .i64 (k : Int) ∧ wq = w3.drewN q) (fun i _ => n - (intOf i).toNat)
  case atStart => exact ⟨0, 0, Nat.zero_le _, rfl, rfl⟩
  case round =>
    obtain ⟨k, q, hk, rfl, rfl⟩ := hrel
    by_cases hlt : k < n
    · have hra := H3.out.2.1
      rw [HN.out.1] at hra
      obtain ⟨g1, rfl, r1⟩ := hra.row (by rw [← HN.out.1]; omega)
      have hlk : k < ls.length := by rw [← HN.out.1]; omega
      have d1 := r1.2 k _ (List.getElem?_eq_getElem hlk)
      rw [Nat.zero_add] at d1
      have ra := H3.out.2.2.a
      have rb := H3.out.2.2.b
      rw [List.length_map, ← HN.out.1] at ra rb
      obtain ⟨g2, rfl, e1⟩ := own_cell ra (by rw [List.length_map]; exact HN.out.1) k hlt
      obtain ⟨g3, rfl, e2⟩ := own_cell rb (by rw [List.length_map]; exact HN.out.1) k hlt
      have x1 : (ls.map (·.1)).getD k 0 = ls[k].1 := by simp [List.getD_eq_getElem?_getD, hlk]
      have x2 : (ls.map (·.2)).getD k 0 = ls[k].2 := by simp [List.getD_eq_getElem?_getD, hlk]
      rw [x1] at e1
      rw [x2] at e2
      generalize ls[k] = x at d1 e1 e2
      have d10 := d1.1
      have d11 := d1.2
      clear d1 x1 x2 hra r1 ra rb
      go_wp2_with fail
      go_quiet (fail)
      go_wp2
      go_roundw
      case rel => exact ⟨k + 1, _, by omega, by go_num, rfl⟩
      case measure => simp [intOf]; omega
    · have HE := Lib.hid (below_drewN H3.out.1 q)
      go_wp2
      go_ret
      exact ⟨rfl, HE.out⟩
end Go.Proofs.Ytlgbendncgboiaa.Gp
