/- gap: Put of a number that is not there. -/
import Derived.Test.YtpkkomifenlkaaaGreatGap10
import Derived.Test.YtpkkomifenlkaaaGreatGap18
import Derived.IntWalk
namespace Go.Proofs.YtpkkomifenlkaaaGreat.Gp
open Go Go.RowKit Gm

/-- inside Put: the boxes of the number and of the run, and the heap -/
structure PS (B HH N R : Nat) (v : Value) (W : World) (n f m : Int) (v1 : Value) (r : List (Int × Int)) (w : World) : Prop where
  hp : HpO B w HH v1 r
  ord : Hp r.length r
  bel : Below B W w
  fr : Fr HH v v1 W w
  bn : w.heap[N]? = some (.cells #[.int .u64 n] 22 (0, 0))
  br : w.heap[R]? = some (.cells #[.int .u64 f, .int .u64 m] TRn (0, 0))
  nn : some N ≠ v1.ownBlock
  nr : some R ≠ v1.ownBlock
  hH : HH < W.heap.size
  hN : W.heap.size ≤ N
  hR : W.heap.size ≤ R
  hNR : N ≠ R
  hB : B ≤ W.heap.size
theorem PS.ge {B HH N R : Nat} {v v1 : Value} {W w : World} {n f m : Int} {r : List (Int × Int)} (h : PS B HH N R v W n f m v1 r w) : B ≤ w.heap.size := Nat.le_trans h.hB h.fr.size
theorem PS.go {B HH N R : Nat} {v v1 v2 : Value} {W w w2 : World} {n f m : Int} {r r2 : List (Int × Int)} (h : PS B HH N R v W n f m v1 r w) (h2 : HpO B w2 HH v2 r2) (o2 : Hp r2.length r2) (b2 : Below B w w2) (f2 : Fr HH v1 v2 w w2) : PS B HH N R v W n f m v2 r2 w2 :=
  ⟨h2, o2, h.bel.trans b2, h.fr.trans f2, f2.lies h.bn (by have := h.hH; have := h.hN; omega) h.nn, f2.lies h.br (by have := h.hH; have := h.hR; omega) h.nr, f2.not (Array.getElem?_eq_some_iff.1 h.bn).1 h.nn, f2.not (Array.getElem?_eq_some_iff.1 h.br).1 h.nr, h.hH, h.hN, h.hR, h.hNR, h.hB⟩
theorem PS.alloc {B HH N R : Nat} {v v1 : Value} {W w : World} {n f m : Int} {r : List (Int × Int)} (h : PS B HH N R v W n f m v1 r w) (o : Obj) : PS B HH N R v W n f m v1 r (w.alloc o) :=
  h.go (h.hp.below ((Below.refl _ _).alloc (Nat.le_refl _) o)) h.ord ((Below.refl B w).alloc h.ge o) (Fr.of_below ((Below.refl _ _).alloc (Nat.le_refl _) o))
theorem PS.drew {B HH N R : Nat} {v v1 : Value} {W w : World} {n f m : Int} {r : List (Int × Int)} (h : PS B HH N R v W n f m v1 r w) : PS B HH N R v W n f m v1 r w.drew :=
  h.go h.hp.drew h.ord (Below.refl B w).drew (Fr.of_below (Below.refl _ w).drew)
theorem PS.put1 {B HH N R : Nat} {v v1 : Value} {W w : World} {n f m : Int} {r : List (Int × Int)} (h : PS B HH N R v W n f m v1 r w) (m2 : Int) : PS B HH N R v W n f m2 v1 r (w.setCell ⟨R, 1, none⟩ (.int .u64 m2)) :=
  ⟨h.hp.setOff (by have := h.hH; have := h.hR; omega) h.nr, h.ord, Below.setCell (p := ⟨R, 1, none⟩) h.bel (Nat.le_trans h.hB h.hR) _, h.fr.setNew h.hR, (Below.heap_setCell _ _ _ _ h.hNR).trans h.bn, setCell_at _ h.br, h.nn, h.nr, h.hH, h.hN, h.hR, h.hNR, h.hB⟩
theorem PS.put0 {B HH N R : Nat} {v v1 : Value} {W w : World} {n f m : Int} {r : List (Int × Int)} (h : PS B HH N R v W n f m v1 r w) (f2 : Int) : PS B HH N R v W n f2 m v1 r (w.setCell ⟨R, 0, none⟩ (.int .u64 f2)) :=
  ⟨h.hp.setOff (by have := h.hH; have := h.hR; omega) h.nr, h.ord, Below.setCell (p := ⟨R, 0, none⟩) h.bel (Nat.le_trans h.hB h.hR) _, h.fr.setNew h.hR, (Below.heap_setCell _ _ _ _ h.hNR).trans h.bn, setCell_at _ h.br, h.nn, h.nr, h.hH, h.hN, h.hR, h.hNR, h.hB⟩
theorem PS.cells {B HH N R : Nat} {v v1 : Value} {W w : World} {n f m : Int} {r : List (Int × Int)} (h : PS B HH N R v W n f m v1 r w) : w.cell? ⟨N, 0, none⟩ = some (.int .u64 n) ∧ w.cell? ⟨R, 0, none⟩ = some (.int .u64 f) ∧ w.cell? ⟨R, 1, none⟩ = some (.int .u64 m) ∧ (∀ i, w.frozen? ⟨R, i, none⟩ = false) :=
  ⟨cell_of_row w N 0 _ _ (0, 0) h.bn, cell_of_row w R 0 _ _ (0, 0) h.br, cell_of_row w R 1 _ _ (0, 0) h.br, fun i => by simp [World.frozen?, h.br]⟩
theorem PS.lt {B HH N R : Nat} {v v1 : Value} {W w : World} {n f m : Int} {r : List (Int × Int)} (h : PS B HH N R v W n f m v1 r w) : N < w.heap.size ∧ R < w.heap.size := ⟨(Array.getElem?_eq_some_iff.1 h.bn).1, (Array.getElem?_eq_some_iff.1 h.br).1⟩
theorem ahead_iff {n : Int} {x : Int × Int} (h : Okr x) : p_ahead n x = true ↔ x.1 + x.2 = n := by
  unfold Okr at h
  unfold p_ahead
  rw [IntWalk.u64_in _ (by omega), decide_eq_true_iff]
theorem behind_iff {n : Int} {x : Int × Int} (h0 : 0 ≤ n) (h1 : n ≤ 18446744073709551614) : p_behind n x = true ↔ x.1 = n + 1 := by
  unfold p_behind
  rw [IntWalk.u64_in _ (by omega), decide_eq_true_iff]
theorem in_iff {n : Int} {x : Int × Int} (h : Okr x) (h1 : n ≤ 18446744073709551615) : p_in n x = true ↔ In n x := by
  unfold Okr at h
  unfold p_in In
  by_cases e : x.1 ≤ n
  · rw [IntWalk.u64_in _ (by omega)]
    simp [e]
    omega
  · simp [e]
/-- what Put of a number that isn't there leaves -/
def PutP (B HH : Nat) (v : Value) (l : List (Int × Int)) (n : Int) (W : World) (e : Ending) (w' : World) : Prop :=
  e = .returned (.int .i64 0) ∧ ∃ (v' : Value) (l' a b rest : List (Int × Int)), HpO B w' HH v' l' ∧ Hp l'.length l' ∧ Below B W w' ∧ Fr HH v v' W w' ∧
    (a = [] ∧ (∀ x ∈ l, x.1 + x.2 ≠ n) ∨ ∃ x, a = [x] ∧ x.1 + x.2 = n) ∧ (b = [] ∧ (∀ x ∈ l, x.1 ≠ n + 1) ∨ ∃ x, b = [x] ∧ x.1 = n + 1) ∧
    l.Perm (a ++ b ++ rest) ∧ l'.Perm ((n - sum2 a, sum2 a + 1 + sum2 b) :: rest)
set_option maxRecDepth 20000 in
set_option maxHeartbeats 8000000 in
theorem put_go (B HH : Nat) (v : Value) (l : List (Int × Int)) (n : Int) (W : World) (h : HpO B W HH v l) (hB : B ≤ W.heap.size) (h0 : 0 ≤ n) (h1 : n ≤ 18446744073709551614) (hok : ∀ x ∈ l, Okr x) (hi : ∀ x ∈ l, ¬ In n x) (hl : l.length < 1000) (hp : Hp l.length l) :
    Calls Tryz.prog 49 #[.pointer (some ⟨HH, 0, none⟩), .int .u64 n] W (PutP B HH v l n W) := by
  have hn : n ≠ 18446744073709551615 := by omega
  have hN := heap_alloc_new W (.cells #[.int .u64 n] 22)
  have b0 := (Below.refl W.heap.size W).alloc (Nat.le_refl _) (.cells #[.int .u64 n] 22)
  obtain ⟨w0, hw0⟩ : ∃ X, X = W.alloc (.cells #[.int .u64 n] 22) := ⟨_, rfl⟩
  rw [← hw0] at hN b0
  have hh0 := h.below b0
  have HHas := Lib.hid (has_any HH v l n w0 hh0.is)
  have hseek : decide (0 ≤ seek (p_in n) l 0) = false := by
    rcases seek_or (p_in n) l with ⟨e, -⟩ | ⟨i, hi2, e, e2⟩
    · rw [e]; decide
    · exact absurd ((in_iff (hok _ (List.getElem_mem hi2)) (by omega)).1 e2) (hi _ (List.getElem_mem hi2))
  rw [hseek] at HHas
  have hNl : W.heap.size < w0.heap.size := (Array.getElem?_eq_some_iff.1 hN).1
  have c0 := cell_of_row w0 W.heap.size 0 _ _ (0, 0) hN
  have HX := Lib.hid (And.intro hh0 (And.intro b0 (And.intro hN (And.intro hNl (And.intro h hp)))))
  have HK := Lib.hid (And.intro hok (And.intro h0 h1))
  have HB := Lib.hid hB
  have HL := Lib.hid hl
  clear h hh0 hN b0 hi hB hNl hseek hok hl hp h0 h1
  go_enter Tryz.func49, Tryz.ntmps49
  go_upto_region 1 with fail
  rw [← hw0]
  clear hw0
  go_wp2_with fail
  refine HHas.out.mono ?_
  rintro _ w1 ⟨rfl, b1⟩
  have hR := heap_alloc_new w1 (.cells #[.int .u64 n, .int .u64 1] TRn)
  obtain ⟨R, hRd⟩ : ∃ R, R = w1.heap.size := ⟨_, rfl⟩
  obtain ⟨w2, hw2⟩ : ∃ X, X = w1.alloc (.cells #[.int .u64 n, .int .u64 1] TRn) := ⟨_, rfl⟩
  have b2 : Below w0.heap.size w0 w2 := by rw [hw2]; exact b1.alloc b1.size _
  have bw : Below W.heap.size W w2 := HX.out.2.1.trans (b2.mono HX.out.2.1.size)
  rw [← hw2, ← hRd] at hR
  have P2 : PS B HH W.heap.size R v W n n 1 v l w2 :=
    ⟨HX.out.1.below b2, HX.out.2.2.2.2.2, bw.mono HB.out, Fr.of_below bw, (b2.block _ HX.out.2.2.2.1).trans HX.out.2.2.1, hR,
      fun e => by have := HX.out.2.2.2.2.1.ownLt _ e.symm; omega, fun e => by have := HX.out.2.2.2.2.1.ownLt _ e.symm; have := b1.size; have := HX.out.2.1.size; omega,
      HX.out.2.2.2.2.1.lt, Nat.le_refl _, by have := b1.size; have := HX.out.2.1.size; omega, by have := b1.size; have := HX.out.2.2.2.1; omega, HB.out⟩
  have k1 : w1.cell? ⟨W.heap.size, 0, none⟩ = some (.int .u64 n) := cell_of_row w1 W.heap.size 0 _ _ (0, 0) ((b1.block _ HX.out.2.2.2.1).trans HX.out.2.2.1)
  have HP2 := Lib.hid P2
  clear hR b1 b2 c0 HHas P2 bw
  go_upto_region 8 with fail
  rw [← hw2, ← hRd]
  clear hw2 hRd k1
  have HC := Lib.hid (rem_ahead B HH W.heap.size v l n w2 HP2.out.hp HP2.out.ge HP2.out.cells.1 HP2.out.lt.1 HP2.out.ord)
  clear HX
  go_wp2_with fail
  refine HC.out.mono ?_
  rintro _ w3 ⟨v1, r1, e1, e2, e3, e4, hor⟩
  have P3 := HP2.out.go e1 e2 e3 e4
  clear e1 e2 e3 e4 HC HP2
  rcases hor with ⟨x, rfl, hx1, hx2⟩ | ⟨rfl, hx1, rfl⟩
  · have hxl : x ∈ l := hx2.mem_iff.1 (by simp)
    have HXl := Lib.hid hxl
    have HXn := Lib.hid ((ahead_iff (HK.out.1 x hxl)).1 hx1)
    have HXp := Lib.hid hx2
    have hlen := hx2.length_eq
    have hr1 : r1.length < l.length := by rw [← hlen]; simp
    clear hx1 hx2 hxl hlen
    obtain ⟨w4, hw4⟩ : ∃ X, X = w3.alloc (.cells #[.int .u64 x.1, .int .u64 x.2] TRn) := ⟨_, rfl⟩
    have P4 := P3.alloc (.cells #[.int .u64 x.1, .int .u64 x.2] TRn)
    rw [← hw4] at P4
    have hX := heap_alloc_new w3 (.cells #[.int .u64 x.1, .int .u64 x.2] TRn)
    rw [← hw4] at hX
    have x0 := cell_of_row w4 w3.heap.size 0 _ _ (0, 0) hX
    have x1 := cell_of_row w4 w3.heap.size 1 _ _ (0, 0) hX
    have y0 := P4.cells.2.1
    have y1 := P4.cells.2.2.1
    have yf := P4.cells.2.2.2
    have hw3R : ¬ w3.heap.size = R := by have := P3.lt.2; omega
    have P5 := (P4.put0 x.1).put1 (1 + x.2)
    obtain ⟨w5, hw5⟩ : ∃ X, X = (w4.setCell ⟨R, 0, none⟩ (.int .u64 x.1)).setCell ⟨R, 1, none⟩ (.int .u64 (1 + x.2)) := ⟨_, rfl⟩
    rw [← hw5] at P5
    have HP5 := Lib.hid P5
    have hs1 : IntKind.u64.wrap (1 + x.2) = 1 + x.2 := IntWalk.u64_in _ (by have a1 := (HK.out.1 x (HXl.out)); have a2 := HXn.out; have a3 := HK.out.2.2; unfold Okr at a1; omega)
    clear P3 P4 P5 hX
    go_upto_region 9 with fail
    rw [← hw4]
    clear hw4
    go_upto_region 12 with fail
    rw [← hw5]
    clear hw5 x0 x1 y0 y1 yf hs1 hw3R
    have HC := Lib.hid (rem_behind B HH W.heap.size v1 r1 n w5 HP5.out.hp HP5.out.ge HP5.out.cells.1 HP5.out.lt.1 HP5.out.ord)
    go_wp2_with fail
    refine HC.out.mono ?_
    rintro _ w6 ⟨v2, rest2, e1, e2, e3, e4, hor⟩
    have P6 := HP5.out.go e1 e2 e3 e4
    clear e1 e2 e3 e4 HC HP5
    rcases hor with ⟨y, rfl, hy1, hy2⟩ | ⟨rfl, hy1, rfl⟩
    · have hyr : y ∈ r1 := hy2.mem_iff.1 (by simp)
      have HYl : Hid (y ∈ l) := Lib.hid (HXp.out.mem_iff.1 (List.mem_cons_of_mem _ hyr))
      have HYn := Lib.hid ((behind_iff HK.out.2.1 HK.out.2.2).1 hy1)
      have HYp := Lib.hid hy2
      have hlen2 := hy2.length_eq
      have hr2 : rest2.length < r1.length := by rw [← hlen2]; simp
      clear hy1 hy2 hyr hlen2
      obtain ⟨w7, hw7⟩ : ∃ X, X = w6.alloc (.cells #[.int .u64 y.1, .int .u64 y.2] TRn) := ⟨_, rfl⟩
      have P7 := P6.alloc (.cells #[.int .u64 y.1, .int .u64 y.2] TRn)
      rw [← hw7] at P7
      have hX := heap_alloc_new w6 (.cells #[.int .u64 y.1, .int .u64 y.2] TRn)
      rw [← hw7] at hX
      have x1 := cell_of_row w7 w6.heap.size 1 _ _ (0, 0) hX
      have y0 := P7.cells.2.1
      have y1 := P7.cells.2.2.1
      have yf := P7.cells.2.2.2
      have P8 := P7.put1 (1 + x.2 + y.2)
      obtain ⟨w9, hw9⟩ : ∃ X, X = w7.setCell ⟨R, 1, none⟩ (.int .u64 (1 + x.2 + y.2)) := ⟨_, rfl⟩
      rw [← hw9] at P8
      have HP9 := Lib.hid P8
      have hs2 : IntKind.u64.wrap (1 + x.2 + y.2) = 1 + x.2 + y.2 := IntWalk.u64_in _ (by have a1 := HK.out.1 y HYl.out; have a2 := HYn.out; unfold Okr at a1; have a3 := HK.out.1 x HXl.out; have a4 := HXn.out; unfold Okr at a3; omega)
      clear P6 P7 P8 hX
      go_upto_region 13 with fail
      rw [← hw7]
      clear hw7
      go_upto_region 15 with fail
      rw [← hw9]
      clear hw9 x1 y0 y1 yf hs2
      have P10 := HP9.out.drew
      have r0 := P10.cells.2.1
      have r1 := P10.cells.2.2.1
      have HPu := Lib.hid (hpush_any B HH v2 rest2 (x.1, 1 + x.2 + y.2) _ P10.hp P10.ge (by have := HL.out; omega) P10.ord)
      have H10 := Lib.hid P10
      clear P10
      unfold IH at HPu
      dsimp only at HPu
      refine wp_region_held_drew (S := fun _ => True) (by kernel_rfl) trivial (fun _ => ?_)
      refine wpAnyH_take (i := 0) (oi := _) (v := ?_) rfl (by kernel_rfl) (by kernel_rfl) (by kernel_rfl) (fun _ _ _ h => h) (Or.inl ⟨by rfl, ?_⟩) (by assumption) ?_
      rotate_left
      · (intro W hSw; (try dsimp only at hSw); go_simp; try with_reducible rfl)
      try simp only [Act.put, List.getElem_toArray, List.getElem_cons_zero, List.setIfInBounds_toArray, List.set_cons_zero, List.set_cons_succ]
      refine wpAnyH_take (i := 1) (oi := _) (v := ?_) rfl (by kernel_rfl) (by kernel_rfl) (by kernel_rfl) (fun _ _ _ h => h) (Or.inl ⟨by rfl, ?_⟩) (by assumption) ?_
      rotate_left
      · (intro W hSw; (try dsimp only at hSw); go_simp; try with_reducible rfl)
      try simp only [Act.put, List.getElem_toArray, List.getElem_cons_succ, List.getElem_cons_zero, List.setIfInBounds_toArray, List.set_cons_zero, List.set_cons_succ]
      refine wpAnyH_take (i := 2) (oi := _) (v := ?_) rfl (by kernel_rfl) (by kernel_rfl) (by kernel_rfl) (fun _ _ _ h => h) (Or.inl ⟨by rfl, ?_⟩) (by assumption) ?_
      rotate_left
      · (intro W hSw; (try dsimp only at hSw); go_simp; try with_reducible rfl)
      try simp only [Act.put, List.getElem_toArray, List.getElem_cons_succ, List.getElem_cons_zero, List.setIfInBounds_toArray, List.set_cons_zero, List.set_cons_succ]
      refine wpAnyH_take (i := 3) (oi := _) (v := ?_) rfl (by kernel_rfl) (by kernel_rfl) (by kernel_rfl) (fun _ _ _ h => h) (Or.inl ⟨by rfl, ?_⟩) (by assumption) ?_
      rotate_left
      · (intro W hSw; (try dsimp only at hSw); go_simp; try with_reducible rfl)
      try simp only [Act.put, List.getElem_toArray, List.getElem_cons_succ, List.getElem_cons_zero, List.setIfInBounds_toArray, List.set_cons_zero, List.set_cons_succ]
      refine wpAnyH_ready (rs := [4]) (by kernel_rfl) (by simp) ?_
      refine AllReadyH.cons rfl (fun K hK => ?_) AllReadyH.nil
      simp only [List.getElem_toArray, List.getElem_cons_succ, List.getElem_cons_zero]
      rw [if_pos (by rfl)]
      go_simp
      refine hK.out _ _ trivial (fun _ => ?_)
      clear hK K
      try simp only [Act.put, List.getElem_toArray, List.getElem_cons_succ, List.getElem_cons_zero, List.setIfInBounds_toArray, List.set_cons_zero, List.set_cons_succ]
      refine wpAnyH_take (i := 5) (oi := _) (v := ?_) rfl (by kernel_rfl) (by kernel_rfl) (by kernel_rfl) (fun _ _ _ h => h) (Or.inl ⟨by rfl, ?_⟩) (by assumption) ?_
      rotate_left
      · (intro W hSw; (try dsimp only at hSw); go_simp; try with_reducible rfl)
      try simp only [Act.put, List.getElem_toArray, List.getElem_cons_succ, List.getElem_cons_zero, List.setIfInBounds_toArray, List.set_cons_zero, List.set_cons_succ]
      refine wpAnyH_ready (rs := [6]) (by kernel_rfl) (by simp) ?_
      refine AllReadyH.cons rfl (fun K hK => ?_) AllReadyH.nil
      simp only [List.getElem_toArray, List.getElem_cons_succ, List.getElem_cons_zero]
      rw [if_pos (by rfl)]
      go_simp
      refine HPu.out.mono ?_
      rintro _ w10 ⟨rfl, v10, l10, h10, p10, o10, b10, f10⟩
      have HE := Lib.hid (And.intro h10 (And.intro p10 (And.intro o10 (And.intro b10 f10))))
      clear h10 p10 o10 b10 f10
      go_wp2_with fail
      refine hK.out _ _ trivial (fun _ => ?_)
      clear hK K
      try simp only [Act.put, List.getElem_toArray, List.getElem_cons_succ, List.getElem_cons_zero, List.setIfInBounds_toArray, List.set_cons_zero, List.set_cons_succ]
      refine wpAnyH_done (by kernel_rfl) ?_ _
      clear r0 r1
      go_wp2
      go_ret
      refine ⟨rfl, v10, l10, [x], [y], rest2, HE.out.1, HE.out.2.2.1, H10.out.bel.trans HE.out.2.2.2.1, H10.out.fr.trans HE.out.2.2.2.2, ?_, ?_, ?_, ?_⟩
      · exact Or.inr ⟨x, rfl, HXn.out⟩
      · exact Or.inr ⟨y, rfl, HYn.out⟩
      · exact HXp.out.symm.trans ((HYp.out.symm).cons x)
      · refine HE.out.2.1.trans (List.Perm.of_eq ?_)
        have e1 : sum2 [x] = x.2 := by simp [sum2]
        have e2 : sum2 [y] = y.2 := by simp [sum2]
        simp only [e1, e2]
        congr 2 <;> (have := HXn.out; omega)
    · have hr2 := hr1
      clear hr1
      have HBn : Hid (∀ z ∈ l, z.1 ≠ n + 1) := Lib.hid (fun (z : Int × Int) (hz : z ∈ l) (e : z.1 = n + 1) => by
        rcases List.mem_cons.1 (HXp.out.mem_iff.2 hz) with e2 | hz2
        · rw [e2] at e; have a1 := HXn.out; have a2 := HK.out.1 x HXl.out; unfold Okr at a2; omega
        · exact absurd ((behind_iff HK.out.2.1 HK.out.2.2).2 e) (by rw [hy1 z hz2]; decide))
      have hr1 : rest2.length ≤ rest2.length := Nat.le_refl _
      clear hy1
      obtain ⟨w9, hw9⟩ : ∃ X, X = w6.alloc (.cells #[.int .u64 0, .int .u64 0] TRn) := ⟨_, rfl⟩
      have P7 := P6.alloc (.cells #[.int .u64 0, .int .u64 0] TRn)
      rw [← hw9] at P7
      have HP9 := Lib.hid P7
      clear P6 P7
      go_upto_region 15 with fail
      rw [← hw9]
      clear hw9
      have P10 := HP9.out.drew
      have r0 := P10.cells.2.1
      have r1 := P10.cells.2.2.1
      have HPu := Lib.hid (hpush_any B HH v2 rest2 (x.1, 1 + x.2) _ P10.hp P10.ge (by have := HL.out; omega) P10.ord)
      have H10 := Lib.hid P10
      clear P10
      unfold IH at HPu
      dsimp only at HPu
      refine wp_region_held_drew (S := fun _ => True) (by kernel_rfl) trivial (fun _ => ?_)
      refine wpAnyH_take (i := 0) (oi := _) (v := ?_) rfl (by kernel_rfl) (by kernel_rfl) (by kernel_rfl) (fun _ _ _ h => h) (Or.inl ⟨by rfl, ?_⟩) (by assumption) ?_
      rotate_left
      · (intro W hSw; (try dsimp only at hSw); go_simp; try with_reducible rfl)
      try simp only [Act.put, List.getElem_toArray, List.getElem_cons_zero, List.setIfInBounds_toArray, List.set_cons_zero, List.set_cons_succ]
      refine wpAnyH_take (i := 1) (oi := _) (v := ?_) rfl (by kernel_rfl) (by kernel_rfl) (by kernel_rfl) (fun _ _ _ h => h) (Or.inl ⟨by rfl, ?_⟩) (by assumption) ?_
      rotate_left
      · (intro W hSw; (try dsimp only at hSw); go_simp; try with_reducible rfl)
      try simp only [Act.put, List.getElem_toArray, List.getElem_cons_succ, List.getElem_cons_zero, List.setIfInBounds_toArray, List.set_cons_zero, List.set_cons_succ]
      refine wpAnyH_take (i := 2) (oi := _) (v := ?_) rfl (by kernel_rfl) (by kernel_rfl) (by kernel_rfl) (fun _ _ _ h => h) (Or.inl ⟨by rfl, ?_⟩) (by assumption) ?_
      rotate_left
      · (intro W hSw; (try dsimp only at hSw); go_simp; try with_reducible rfl)
      try simp only [Act.put, List.getElem_toArray, List.getElem_cons_succ, List.getElem_cons_zero, List.setIfInBounds_toArray, List.set_cons_zero, List.set_cons_succ]
      refine wpAnyH_take (i := 3) (oi := _) (v := ?_) rfl (by kernel_rfl) (by kernel_rfl) (by kernel_rfl) (fun _ _ _ h => h) (Or.inl ⟨by rfl, ?_⟩) (by assumption) ?_
      rotate_left
      · (intro W hSw; (try dsimp only at hSw); go_simp; try with_reducible rfl)
      try simp only [Act.put, List.getElem_toArray, List.getElem_cons_succ, List.getElem_cons_zero, List.setIfInBounds_toArray, List.set_cons_zero, List.set_cons_succ]
      refine wpAnyH_ready (rs := [4]) (by kernel_rfl) (by simp) ?_
      refine AllReadyH.cons rfl (fun K hK => ?_) AllReadyH.nil
      simp only [List.getElem_toArray, List.getElem_cons_succ, List.getElem_cons_zero]
      rw [if_pos (by rfl)]
      go_simp
      refine hK.out _ _ trivial (fun _ => ?_)
      clear hK K
      try simp only [Act.put, List.getElem_toArray, List.getElem_cons_succ, List.getElem_cons_zero, List.setIfInBounds_toArray, List.set_cons_zero, List.set_cons_succ]
      refine wpAnyH_take (i := 5) (oi := _) (v := ?_) rfl (by kernel_rfl) (by kernel_rfl) (by kernel_rfl) (fun _ _ _ h => h) (Or.inl ⟨by rfl, ?_⟩) (by assumption) ?_
      rotate_left
      · (intro W hSw; (try dsimp only at hSw); go_simp; try with_reducible rfl)
      try simp only [Act.put, List.getElem_toArray, List.getElem_cons_succ, List.getElem_cons_zero, List.setIfInBounds_toArray, List.set_cons_zero, List.set_cons_succ]
      refine wpAnyH_ready (rs := [6]) (by kernel_rfl) (by simp) ?_
      refine AllReadyH.cons rfl (fun K hK => ?_) AllReadyH.nil
      simp only [List.getElem_toArray, List.getElem_cons_succ, List.getElem_cons_zero]
      rw [if_pos (by rfl)]
      go_simp
      refine HPu.out.mono ?_
      rintro _ w10 ⟨rfl, v10, l10, h10, p10, o10, b10, f10⟩
      have HE := Lib.hid (And.intro h10 (And.intro p10 (And.intro o10 (And.intro b10 f10))))
      clear h10 p10 o10 b10 f10
      go_wp2_with fail
      refine hK.out _ _ trivial (fun _ => ?_)
      clear hK K
      try simp only [Act.put, List.getElem_toArray, List.getElem_cons_succ, List.getElem_cons_zero, List.setIfInBounds_toArray, List.set_cons_zero, List.set_cons_succ]
      refine wpAnyH_done (by kernel_rfl) ?_ _
      clear r0 r1
      go_wp2
      go_ret
      refine ⟨rfl, v10, l10, [x], [], rest2, HE.out.1, HE.out.2.2.1, H10.out.bel.trans HE.out.2.2.2.1, H10.out.fr.trans HE.out.2.2.2.2, ?_, ?_, ?_, ?_⟩
      · exact Or.inr ⟨x, rfl, HXn.out⟩
      · exact Or.inl ⟨rfl, HBn.out⟩
      · exact HXp.out.symm
      · refine HE.out.2.1.trans (List.Perm.of_eq ?_)
        have e1 : sum2 [x] = x.2 := by simp [sum2]
        have e2 : sum2 [] = 0 := by simp [sum2]
        simp only [e1, e2]
        congr 2 <;> (have := HXn.out; omega)
  · have HA : Hid (∀ x ∈ r1, x.1 + x.2 ≠ n) := Lib.hid (fun (x : Int × Int) hx (e : x.1 + x.2 = n) => absurd ((ahead_iff (HK.out.1 x hx)).2 e) (by rw [hx1 x hx]; decide))
    have hr1 : r1.length ≤ r1.length := Nat.le_refl _
    clear hx1
    obtain ⟨w4, hw4⟩ : ∃ X, X = w3.alloc (.cells #[.int .u64 0, .int .u64 0] TRn) := ⟨_, rfl⟩
    have P4 := P3.alloc (.cells #[.int .u64 0, .int .u64 0] TRn)
    rw [← hw4] at P4
    have HP5 := Lib.hid P4
    clear P3 P4
    go_upto_region 12 with fail
    rw [← hw4]
    clear hw4
    generalize w4 = w5 at HP5 ⊢
    have HC := Lib.hid (rem_behind B HH W.heap.size v1 r1 n w5 HP5.out.hp HP5.out.ge HP5.out.cells.1 HP5.out.lt.1 HP5.out.ord)
    go_wp2_with fail
    refine HC.out.mono ?_
    rintro _ w6 ⟨v2, rest2, e1, e2, e3, e4, hor⟩
    have P6 := HP5.out.go e1 e2 e3 e4
    clear e1 e2 e3 e4 HC HP5
    rcases hor with ⟨y, rfl, hy1, hy2⟩ | ⟨rfl, hy1, rfl⟩
    · have hyr : y ∈ r1 := hy2.mem_iff.1 (by simp)
      have HYl : Hid (y ∈ r1) := Lib.hid hyr
      have HYn := Lib.hid ((behind_iff HK.out.2.1 HK.out.2.2).1 hy1)
      have HYp := Lib.hid hy2
      have hlen2 := hy2.length_eq
      have hr2 : rest2.length < r1.length := by rw [← hlen2]; simp
      clear hy1 hy2 hyr hlen2
      obtain ⟨w7, hw7⟩ : ∃ X, X = w6.alloc (.cells #[.int .u64 y.1, .int .u64 y.2] TRn) := ⟨_, rfl⟩
      have P7 := P6.alloc (.cells #[.int .u64 y.1, .int .u64 y.2] TRn)
      rw [← hw7] at P7
      have hX := heap_alloc_new w6 (.cells #[.int .u64 y.1, .int .u64 y.2] TRn)
      rw [← hw7] at hX
      have x1 := cell_of_row w7 w6.heap.size 1 _ _ (0, 0) hX
      have y0 := P7.cells.2.1
      have y1 := P7.cells.2.2.1
      have yf := P7.cells.2.2.2
      have P8 := P7.put1 (1 + y.2)
      obtain ⟨w9, hw9⟩ : ∃ X, X = w7.setCell ⟨R, 1, none⟩ (.int .u64 (1 + y.2)) := ⟨_, rfl⟩
      rw [← hw9] at P8
      have HP9 := Lib.hid P8
      have hs2 : IntKind.u64.wrap (1 + y.2) = 1 + y.2 := IntWalk.u64_in _ (by have a1 := HK.out.1 y HYl.out; have a2 := HYn.out; unfold Okr at a1; have := HK.out.2.1; omega)
      clear P6 P7 P8 hX
      go_upto_region 13 with fail
      rw [← hw7]
      clear hw7
      go_upto_region 15 with fail
      rw [← hw9]
      clear hw9 x1 y0 y1 yf hs2
      have P10 := HP9.out.drew
      have r0 := P10.cells.2.1
      have r1 := P10.cells.2.2.1
      have HPu := Lib.hid (hpush_any B HH v2 rest2 (n, 1 + y.2) _ P10.hp P10.ge (by have := HL.out; omega) P10.ord)
      have H10 := Lib.hid P10
      clear P10
      unfold IH at HPu
      dsimp only at HPu
      refine wp_region_held_drew (S := fun _ => True) (by kernel_rfl) trivial (fun _ => ?_)
      refine wpAnyH_take (i := 0) (oi := _) (v := ?_) rfl (by kernel_rfl) (by kernel_rfl) (by kernel_rfl) (fun _ _ _ h => h) (Or.inl ⟨by rfl, ?_⟩) (by assumption) ?_
      rotate_left
      · (intro W hSw; (try dsimp only at hSw); go_simp; try with_reducible rfl)
      try simp only [Act.put, List.getElem_toArray, List.getElem_cons_zero, List.setIfInBounds_toArray, List.set_cons_zero, List.set_cons_succ]
      refine wpAnyH_take (i := 1) (oi := _) (v := ?_) rfl (by kernel_rfl) (by kernel_rfl) (by kernel_rfl) (fun _ _ _ h => h) (Or.inl ⟨by rfl, ?_⟩) (by assumption) ?_
      rotate_left
      · (intro W hSw; (try dsimp only at hSw); go_simp; try with_reducible rfl)
      try simp only [Act.put, List.getElem_toArray, List.getElem_cons_succ, List.getElem_cons_zero, List.setIfInBounds_toArray, List.set_cons_zero, List.set_cons_succ]
      refine wpAnyH_take (i := 2) (oi := _) (v := ?_) rfl (by kernel_rfl) (by kernel_rfl) (by kernel_rfl) (fun _ _ _ h => h) (Or.inl ⟨by rfl, ?_⟩) (by assumption) ?_
      rotate_left
      · (intro W hSw; (try dsimp only at hSw); go_simp; try with_reducible rfl)
      try simp only [Act.put, List.getElem_toArray, List.getElem_cons_succ, List.getElem_cons_zero, List.setIfInBounds_toArray, List.set_cons_zero, List.set_cons_succ]
      refine wpAnyH_take (i := 3) (oi := _) (v := ?_) rfl (by kernel_rfl) (by kernel_rfl) (by kernel_rfl) (fun _ _ _ h => h) (Or.inl ⟨by rfl, ?_⟩) (by assumption) ?_
      rotate_left
      · (intro W hSw; (try dsimp only at hSw); go_simp; try with_reducible rfl)
      try simp only [Act.put, List.getElem_toArray, List.getElem_cons_succ, List.getElem_cons_zero, List.setIfInBounds_toArray, List.set_cons_zero, List.set_cons_succ]
      refine wpAnyH_ready (rs := [4]) (by kernel_rfl) (by simp) ?_
      refine AllReadyH.cons rfl (fun K hK => ?_) AllReadyH.nil
      simp only [List.getElem_toArray, List.getElem_cons_succ, List.getElem_cons_zero]
      rw [if_pos (by rfl)]
      go_simp
      refine hK.out _ _ trivial (fun _ => ?_)
      clear hK K
      try simp only [Act.put, List.getElem_toArray, List.getElem_cons_succ, List.getElem_cons_zero, List.setIfInBounds_toArray, List.set_cons_zero, List.set_cons_succ]
      refine wpAnyH_take (i := 5) (oi := _) (v := ?_) rfl (by kernel_rfl) (by kernel_rfl) (by kernel_rfl) (fun _ _ _ h => h) (Or.inl ⟨by rfl, ?_⟩) (by assumption) ?_
      rotate_left
      · (intro W hSw; (try dsimp only at hSw); go_simp; try with_reducible rfl)
      try simp only [Act.put, List.getElem_toArray, List.getElem_cons_succ, List.getElem_cons_zero, List.setIfInBounds_toArray, List.set_cons_zero, List.set_cons_succ]
      refine wpAnyH_ready (rs := [6]) (by kernel_rfl) (by simp) ?_
      refine AllReadyH.cons rfl (fun K hK => ?_) AllReadyH.nil
      simp only [List.getElem_toArray, List.getElem_cons_succ, List.getElem_cons_zero]
      rw [if_pos (by rfl)]
      go_simp
      refine HPu.out.mono ?_
      rintro _ w10 ⟨rfl, v10, l10, h10, p10, o10, b10, f10⟩
      have HE := Lib.hid (And.intro h10 (And.intro p10 (And.intro o10 (And.intro b10 f10))))
      clear h10 p10 o10 b10 f10
      go_wp2_with fail
      refine hK.out _ _ trivial (fun _ => ?_)
      clear hK K
      try simp only [Act.put, List.getElem_toArray, List.getElem_cons_succ, List.getElem_cons_zero, List.setIfInBounds_toArray, List.set_cons_zero, List.set_cons_succ]
      refine wpAnyH_done (by kernel_rfl) ?_ _
      clear r0 r1
      go_wp2
      go_ret
      refine ⟨rfl, v10, l10, [], [y], rest2, HE.out.1, HE.out.2.2.1, H10.out.bel.trans HE.out.2.2.2.1, H10.out.fr.trans HE.out.2.2.2.2, ?_, ?_, ?_, ?_⟩
      · exact Or.inl ⟨rfl, HA.out⟩
      · exact Or.inr ⟨y, rfl, HYn.out⟩
      · exact HYp.out.symm
      · refine HE.out.2.1.trans (List.Perm.of_eq ?_)
        have e1 : sum2 [] = 0 := by simp [sum2]
        have e2 : sum2 [y] = y.2 := by simp [sum2]
        simp only [e1, e2]
        congr 2 <;> omega
    · clear hr1
      have HBn : Hid (∀ z ∈ rest2, z.1 ≠ n + 1) := Lib.hid (fun (z : Int × Int) (hz : z ∈ rest2) (e : z.1 = n + 1) => absurd ((behind_iff HK.out.2.1 HK.out.2.2).2 e) (by rw [hy1 z hz]; decide))
      have hr1 : rest2.length ≤ rest2.length := Nat.le_refl _
      clear hy1
      obtain ⟨w9, hw9⟩ : ∃ X, X = w6.alloc (.cells #[.int .u64 0, .int .u64 0] TRn) := ⟨_, rfl⟩
      have P7 := P6.alloc (.cells #[.int .u64 0, .int .u64 0] TRn)
      rw [← hw9] at P7
      have HP9 := Lib.hid P7
      clear P6 P7
      go_upto_region 15 with fail
      rw [← hw9]
      clear hw9
      have P10 := HP9.out.drew
      have r0 := P10.cells.2.1
      have r1 := P10.cells.2.2.1
      have HPu := Lib.hid (hpush_any B HH v2 rest2 (n, 1) _ P10.hp P10.ge (by have := HL.out; omega) P10.ord)
      have H10 := Lib.hid P10
      clear P10
      unfold IH at HPu
      dsimp only at HPu
      refine wp_region_held_drew (S := fun _ => True) (by kernel_rfl) trivial (fun _ => ?_)
      refine wpAnyH_take (i := 0) (oi := _) (v := ?_) rfl (by kernel_rfl) (by kernel_rfl) (by kernel_rfl) (fun _ _ _ h => h) (Or.inl ⟨by rfl, ?_⟩) (by assumption) ?_
      rotate_left
      · (intro W hSw; (try dsimp only at hSw); go_simp; try with_reducible rfl)
      try simp only [Act.put, List.getElem_toArray, List.getElem_cons_zero, List.setIfInBounds_toArray, List.set_cons_zero, List.set_cons_succ]
      refine wpAnyH_take (i := 1) (oi := _) (v := ?_) rfl (by kernel_rfl) (by kernel_rfl) (by kernel_rfl) (fun _ _ _ h => h) (Or.inl ⟨by rfl, ?_⟩) (by assumption) ?_
      rotate_left
      · (intro W hSw; (try dsimp only at hSw); go_simp; try with_reducible rfl)
      try simp only [Act.put, List.getElem_toArray, List.getElem_cons_succ, List.getElem_cons_zero, List.setIfInBounds_toArray, List.set_cons_zero, List.set_cons_succ]
      refine wpAnyH_take (i := 2) (oi := _) (v := ?_) rfl (by kernel_rfl) (by kernel_rfl) (by kernel_rfl) (fun _ _ _ h => h) (Or.inl ⟨by rfl, ?_⟩) (by assumption) ?_
      rotate_left
      · (intro W hSw; (try dsimp only at hSw); go_simp; try with_reducible rfl)
      try simp only [Act.put, List.getElem_toArray, List.getElem_cons_succ, List.getElem_cons_zero, List.setIfInBounds_toArray, List.set_cons_zero, List.set_cons_succ]
      refine wpAnyH_take (i := 3) (oi := _) (v := ?_) rfl (by kernel_rfl) (by kernel_rfl) (by kernel_rfl) (fun _ _ _ h => h) (Or.inl ⟨by rfl, ?_⟩) (by assumption) ?_
      rotate_left
      · (intro W hSw; (try dsimp only at hSw); go_simp; try with_reducible rfl)
      try simp only [Act.put, List.getElem_toArray, List.getElem_cons_succ, List.getElem_cons_zero, List.setIfInBounds_toArray, List.set_cons_zero, List.set_cons_succ]
      refine wpAnyH_ready (rs := [4]) (by kernel_rfl) (by simp) ?_
      refine AllReadyH.cons rfl (fun K hK => ?_) AllReadyH.nil
      simp only [List.getElem_toArray, List.getElem_cons_succ, List.getElem_cons_zero]
      rw [if_pos (by rfl)]
      go_simp
      refine hK.out _ _ trivial (fun _ => ?_)
      clear hK K
      try simp only [Act.put, List.getElem_toArray, List.getElem_cons_succ, List.getElem_cons_zero, List.setIfInBounds_toArray, List.set_cons_zero, List.set_cons_succ]
      refine wpAnyH_take (i := 5) (oi := _) (v := ?_) rfl (by kernel_rfl) (by kernel_rfl) (by kernel_rfl) (fun _ _ _ h => h) (Or.inl ⟨by rfl, ?_⟩) (by assumption) ?_
      rotate_left
      · (intro W hSw; (try dsimp only at hSw); go_simp; try with_reducible rfl)
      try simp only [Act.put, List.getElem_toArray, List.getElem_cons_succ, List.getElem_cons_zero, List.setIfInBounds_toArray, List.set_cons_zero, List.set_cons_succ]
      refine wpAnyH_ready (rs := [6]) (by kernel_rfl) (by simp) ?_
      refine AllReadyH.cons rfl (fun K hK => ?_) AllReadyH.nil
      simp only [List.getElem_toArray, List.getElem_cons_succ, List.getElem_cons_zero]
      rw [if_pos (by rfl)]
      go_simp
      refine HPu.out.mono ?_
      rintro _ w10 ⟨rfl, v10, l10, h10, p10, o10, b10, f10⟩
      have HE := Lib.hid (And.intro h10 (And.intro p10 (And.intro o10 (And.intro b10 f10))))
      clear h10 p10 o10 b10 f10
      go_wp2_with fail
      refine hK.out _ _ trivial (fun _ => ?_)
      clear hK K
      try simp only [Act.put, List.getElem_toArray, List.getElem_cons_succ, List.getElem_cons_zero, List.setIfInBounds_toArray, List.set_cons_zero, List.set_cons_succ]
      refine wpAnyH_done (by kernel_rfl) ?_ _
      clear r0 r1
      go_wp2
      go_ret
      refine ⟨rfl, v10, l10, [], [], rest2, HE.out.1, HE.out.2.2.1, H10.out.bel.trans HE.out.2.2.2.1, H10.out.fr.trans HE.out.2.2.2.2, ?_, ?_, ?_, ?_⟩
      · exact Or.inl ⟨rfl, HA.out⟩
      · exact Or.inl ⟨rfl, HBn.out⟩
      · exact List.Perm.refl _
      · refine HE.out.2.1.trans (List.Perm.of_eq ?_)
        have e1 : sum2 [] = 0 := by simp [sum2]
        simp only [e1]
        congr 2 <;> omega
end Go.Proofs.YtpkkomifenlkaaaGreat.Gp
