/- life: steps of the law's own closure. -/
import Derived.Test.YticcobciafbleaaLifeAwake
namespace Go.Proofs.Yticcobciafbleaa.Life
open Go.RowKit

/-- All that stood stands as it was, but blocks g and d. -/
def Kept (g d : Nat) (w w' : World) : Prop := ∀ (j : Nat) (o : Obj), j ≠ g → j ≠ d → w.heap[j]? = some o → w'.heap[j]? = some o
theorem Kept.refl (g d : Nat) (w : World) : Kept g d w w := fun _ _ _ _ h => h
theorem Kept.alloc {g d : Nat} {w w1 : World} (h : Kept g d w w1) (o : Obj) : Kept g d w (w1.alloc o) := fun j x a b c => blk_alloc (h j x a b c)
theorem Kept.set {g d m i : Nat} {w w1 : World} (h : Kept g d w w1) (hm : m = g ∨ m = d ∨ w.heap.size ≤ m) (v : Value) : Kept g d w (w1.setCell ⟨m, i, none⟩ v) := fun j x a b c =>
  blk_far (h j x a b c) (by have := blk_lt c; rcases hm with rfl | rfl | hm <;> omega)
theorem Kept.trans {g d : Nat} {w w1 w2 : World} (h : Kept g d w w1) (h2 : Kept g d w1 w2) : Kept g d w w2 := fun j o a b c => h2 j o a b (h j o a b c)

def D (w : World) (d : Nat) (m : Int) : Prop := w.heap[d]? = some (.cells #[.int .i64 m] 3 (0, 0))
def G (w : World) (b : Nat) (goes : Bool) : Prop := w.heap[b]? = some (.cells #[.bool goes] 4 (0, 0))
theorem ne_dg {w : World} {g d : Nat} {who st k how m : Int} (h : L w g who st k how) (hd : D w d m) : d ≠ g := by
  rintro rfl; unfold L at h; unfold D at hd; rw [h] at hd; injection hd with hd; injection hd with hd _; injection hd with hd; injection hd with _ hd; cases hd
theorem ne_bg {w : World} {g b : Nat} {who st k how : Int} {x : Bool} (h : L w g who st k how) (hb : G w b x) : b ≠ g := by
  rintro rfl; unfold L at h; unfold G at hb; rw [h] at hb; injection hb with hb; injection hb with hb _; injection hb with hb; injection hb with _ hb; cases hb
theorem ne_bd {w : World} {d b : Nat} {m : Int} {x : Bool} (h : D w d m) (hb : G w b x) : b ≠ d := by
  rintro rfl; unfold D at h; unfold G at hb; rw [h] at hb; injection hb with hb; injection hb with hb _; injection hb with hb; injection hb with hb _; cases hb

theorem fn_run {w : World} {d b : Nat} {m : Int} {goes : Bool} (hd : D w d m) (hb : G w b goes) (m0 : 0 ≤ m) (m1 : m ≤ 100) :
    Calls Try.prog 37 #[.pointer (some ⟨d, 0, none⟩), .pointer (some ⟨b, 0, none⟩)] w fun e w' => e = .returned (.bool goes) ∧ w' = w.setCell ⟨d, 0, none⟩ (.int .i64 (m + 1)) := by
  have hne := ne_bd hd hb
  have hnb : (b == d) = false := by simpa using hne
  have hnb2 : ¬ d = b := fun e => hne e.symm
  have c := blk_cell hd
  have f := blk_free hd 0
  have c2 := blk_cell hb
  clear hd hb
  go_enter Try.func37, Try.ntmps37
  go_wp2
  go_ret
  exact ⟨rfl, rfl⟩

def fn (d b : Nat) : Value := .func (.func 37) #[] #[.pointer (some ⟨d, 0, none⟩), .pointer (some ⟨b, 0, none⟩)]

set_option maxRecDepth 20000 in
theorem clo_run {w : World} {n g d b : Nat} {who st k how m : Int} {goes : Bool} (hl : L w g who st k how) (hd : D w d m) (hb : G w b goes) (hg : g < n) (hdn : d < n) (h0 : 0 ≤ k) (h1 : k ≤ 100) (m0 : 0 ≤ m) (m1 : m ≤ 100)
    (c0 : w.heap[n]? = some (.cells #[.pointer (some ⟨g, 0, none⟩)] 69 (0, 0))) (c1 : w.heap[n + 1]? = some (.cells #[fn d b] 24 (0, 0))) (c2 : w.heap[n + 1 + 1]? = some (.cells #[.bool false] 4 (0, 0))) (c3 : w.heap[n + 1 + 1 + 1]? = some (.cells #[.bool false] 4 (0, 0))) :
    Calls Try.prog 103 #[.pointer (some ⟨n + 1 + 1, 0, none⟩), .pointer (some ⟨n, 0, none⟩), .pointer (some ⟨n + 1, 0, none⟩), .pointer (some ⟨n + 1 + 1 + 1, 0, none⟩)] w fun e w' =>
      e = .returned (.tuple #[]) ∧ w' = ((w.setCell ⟨g, 2, none⟩ (.int .i64 (k + 1))).setCell ⟨d, 0, none⟩ (.int .i64 (m + 1))).setCell ⟨n + 1 + 1 + 1, 0, none⟩ (.bool goes) := by
  have hdg := ne_dg hl hd
  have hbg := ne_bg hl hb
  have e0 : (n == g) = false := by simp; omega
  have e1 : (n + 1 == g) = false := by simp; omega
  have g1 : ¬ n + 1 = g := by omega
  have HF := Lib.hid (fn_run (w := w.setCell ⟨g, 2, none⟩ (.int .i64 (k + 1))) (d := d) (b := b) (m := m) (goes := goes) (blk_far hd hdg) (blk_far hb hbg) m0 m1)
  have f3 := blk_free (blk_far (i := 0) (v := .int .i64 (m + 1)) (blk_far (i := 2) (v := .int .i64 (k + 1)) c3 (by omega : n + 1 + 1 + 1 ≠ g)) (by omega : n + 1 + 1 + 1 ≠ d)) 0
  have p3 := blk_cell c3
  have y1 : (n + 1 + 1 + 1 == g) = false := by simp; omega
  have y2 : (n + 1 + 1 + 1 == d) = false := by simp; omega
  have y3 : ¬ n + 1 + 1 + 1 = g := by omega
  have y4 : ¬ n + 1 + 1 + 1 = d := by omega
  have F3 := Lib.hid f3
  obtain ⟨_, _, d2, _, f⟩ := hl.facts
  have f2 := f 2
  have p0 := blk_cell c0
  have p1 := blk_cell c1
  have p2 := blk_cell c2
  unfold fn at p1
  clear f hl hd hb c0 c1 c2 c3 f3
  go_enter Try.func103, Try.ntmps103
  go_wp2_with fail
  refine HF.out.mono ?_
  rintro e w1 ⟨rfl, rfl⟩
  have f3 := F3.out
  go_wp2
  go_end0
  exact ⟨rfl, rfl⟩

set_option maxRecDepth 20000 in
set_option maxHeartbeats 1000000 in
theorem step_runs {w : World} {B g d b : Nat} {who st k how m : Int} {goes : Bool} (h : L w g who st k how) (hs : st = 0 ∨ st = 1) (h0 : 0 ≤ k) (h1 : k ≤ 100) (hd : D w d m) (m0 : 0 ≤ m) (m1 : m ≤ 100) (hb : G w b goes) (hBg : B ≤ g) (hBd : B ≤ d) :
    Calls Try.prog 38 #[.pointer (some ⟨g, 0, none⟩), fn d b, .bool false] w fun e w' =>
    e = .returned (.bool goes) ∧ L w' g who (if goes then 1 else 2) (k + 1) (if goes then how else 1) ∧ D w' d (m + 1) ∧ Kept g d w w' ∧ Below B w w' := by
  have hmf : ∀ (fn : Fn) (first cap : Array Value) (w : World), (Instr.makeFunc fn first cap).run Try.prog w = .ok (.func fn first cap) w := fun _ _ _ _ => rfl
  have hnf := nf1
  have hst : (st == 2) = false := by rcases hs with rfl | rfl <;> rfl
  have hlt := h.lt
  have hdl := blk_lt hd
  have hdg := ne_dg h hd
  have hL : L (((w.alloc (.cells #[.pointer (some ⟨g, 0, none⟩)] 69)).alloc (.cells #[fn d b] 24)).alloc (.cells #[.bool false] 4)) g who st k how := blk_alloc (blk_alloc (blk_alloc h))
  have HS := Lib.hid (state_some hL)
  have hB : Below B w (((w.alloc (.cells #[.pointer (some ⟨g, 0, none⟩)] 69)).alloc (.cells #[fn d b] 24)).alloc (.cells #[.bool false] 4)) := (((Below.refl _ _).alloc (by omega) _).alloc (by simp; omega) _).alloc (by simp; omega) _
  have hK : Kept g d w (((w.alloc (.cells #[.pointer (some ⟨g, 0, none⟩)] 69)).alloc (.cells #[fn d b] 24)).alloc (.cells #[.bool false] 4)) := (((Kept.refl _ _ _).alloc _).alloc _).alloc _
  have hD1 : D (((w.alloc (.cells #[.pointer (some ⟨g, 0, none⟩)] 69)).alloc (.cells #[fn d b] 24)).alloc (.cells #[.bool false] 4)) d m := blk_alloc (blk_alloc (blk_alloc hd))
  have hG1 : G (((w.alloc (.cells #[.pointer (some ⟨g, 0, none⟩)] 69)).alloc (.cells #[fn d b] 24)).alloc (.cells #[.bool false] 4)) b goes := blk_alloc (blk_alloc (blk_alloc hb))
  have q0 : (((w.alloc (.cells #[.pointer (some ⟨g, 0, none⟩)] 69)).alloc (.cells #[fn d b] 24)).alloc (.cells #[.bool false] 4)).heap[w.heap.size]? = some (.cells #[.pointer (some ⟨g, 0, none⟩)] 69 (0, 0)) := blk_alloc (blk_alloc (blk_new _ _ _ _ rfl))
  have q1 : (((w.alloc (.cells #[.pointer (some ⟨g, 0, none⟩)] 69)).alloc (.cells #[fn d b] 24)).alloc (.cells #[.bool false] 4)).heap[w.heap.size + 1]? = some (.cells #[fn d b] 24 (0, 0)) := blk_alloc (blk_new _ _ _ _ (by simp))
  have q2 : (((w.alloc (.cells #[.pointer (some ⟨g, 0, none⟩)] 69)).alloc (.cells #[fn d b] 24)).alloc (.cells #[.bool false] 4)).heap[w.heap.size + 1 + 1]? = some (.cells #[.bool false] 4 (0, 0)) := blk_new _ _ _ _ (by simp)
  have hz : (((w.alloc (.cells #[.pointer (some ⟨g, 0, none⟩)] 69)).alloc (.cells #[fn d b] 24)).alloc (.cells #[.bool false] 4)).heap.size = w.heap.size + 1 + 1 + 1 := by simp
  have HQ := Lib.hid (And.intro (And.intro hL (And.intro hD1 (And.intro hG1 hK))) (And.intro hB (And.intro q0 (And.intro q1 (And.intro q2 hz)))))
  clear hL hB q0 q1 q2 hz h hD1 hG1 hK hd hb
  have HK : Hid (∀ j, w.heap.size ≤ j → j = g ∨ j = d ∨ w.heap.size ≤ j) := Lib.hid fun j hj => .inr (.inr hj)
  unfold fn
  go_enter Try.func38, Try.ntmps38
  go_wp2_with fail
  refine HS.out.mono ?_
  rintro e w1 ⟨rfl, he⟩
  have HQ1 : Hid (_ ∧ _) := HQ
  rw [← he] at HQ1
  clear he HQ HS
  have hB := HQ1.out.2.1
  have hz := HQ1.out.2.2.2.2.2
  have HB := Lib.hid hB
  generalize hn : w.heap.size = n at *
  have q0 := blk_cell HQ1.out.2.2.1
  have q1 := blk_cell HQ1.out.2.2.2.1
  obtain ⟨d0, d1, d2, d3, f⟩ := HQ1.out.1.1.facts
  have f1 := f 1
  clear f hB
  unfold fn at q1
  go_wp2_with fail
  clear d0 d1 d2 d3 f1 q0 q1
  obtain ⟨⟨hL, hD1, hG1, hK⟩, _, r0, r1, r2, _⟩ := HQ1.out
  have l1 := (hL.set1 1)
  have vD : D ((w1.setCell ⟨g, 1, none⟩ (.int .i64 1)).alloc (.cells #[.bool false] 4)) d m := blk_alloc (blk_far hD1 hdg)
  have vG : G ((w1.setCell ⟨g, 1, none⟩ (.int .i64 1)).alloc (.cells #[.bool false] 4)) b goes := blk_alloc (blk_far hG1 (ne_bg hL hG1))
  have vK : Kept g d w ((w1.setCell ⟨g, 1, none⟩ (.int .i64 1)).alloc (.cells #[.bool false] 4)) := (hK.set (.inl rfl) _).alloc _
  have v0 := blk_alloc (o' := .cells #[.bool false] 4) (blk_far (i := 1) (v := .int .i64 1) r0 (by omega : n ≠ g))
  have v1 := blk_alloc (o' := .cells #[.bool false] 4) (blk_far (i := 1) (v := .int .i64 1) r1 (by omega : n + 1 ≠ g))
  have v2 := blk_alloc (o' := .cells #[.bool false] 4) (blk_far (i := 1) (v := .int .i64 1) r2 (by omega : n + 1 + 1 ≠ g))
  have v3 := blk_new (w1.setCell ⟨g, 1, none⟩ (.int .i64 1)) #[.bool false] 4 (n + 1 + 1 + 1) (by rw [← hz]; simp [World.setCell])
  have lv : L ((w1.setCell ⟨g, 1, none⟩ (.int .i64 1)).alloc (.cells #[.bool false] 4)) g who 1 k how := blk_alloc l1
  have hBv : Below B w ((w1.setCell ⟨g, 1, none⟩ (.int .i64 1)).alloc (.cells #[.bool false] 4)) := (HB.out.setCell (p := ⟨g, 1, none⟩) hBg _).alloc (by simp [World.setCell]; omega) _
  have hzv : ((w1.setCell ⟨g, 1, none⟩ (.int .i64 1)).alloc (.cells #[.bool false] 4)).heap.size = n + 1 + 1 + 1 + 1 := by simp [World.setCell, hz]
  clear hL r0 r1 r2 l1 hz HQ1 HB hD1 hG1 hK
  generalize (w1.setCell ⟨g, 1, none⟩ (.int .i64 1)).alloc (.cells #[.bool false] 4) = V at *
  have lW : L (V.alloc (.cells #[.bool true] 4)) g who 1 k how := blk_alloc lv
  have u4 := blk_new V #[.bool true] 4 (n + 1 + 1 + 1 + 1) hzv.symm
  have hc := clo_run (w := V.alloc (.cells #[.bool true] 4)) (n := n) (b := b) (d := d) (m := m) (goes := goes) lW (blk_alloc vD) (blk_alloc vG) hlt hdl h0 h1 m0 m1 (blk_alloc v0) (blk_alloc v1) (blk_alloc v2) (blk_alloc v3)
  have hsafe := safe_step #[.pointer (some ⟨n + 1 + 1, 0, none⟩), .pointer (some ⟨n, 0, none⟩), .pointer (some ⟨n + 1, 0, none⟩), .pointer (some ⟨n + 1 + 1 + 1, 0, none⟩)] V
    (fun w0 => L w0 g who 1 (k + 1) how ∧ D w0 d (m + 1) ∧ Kept g d w w0 ∧ w0.heap[n]? = some (.cells #[.pointer (some ⟨g, 0, none⟩)] 69 (0, 0)) ∧ w0.heap[n + 1 + 1 + 1]? = some (.cells #[.bool goes] 4 (0, 0)) ∧ Below B w w0) (hc.mono fun e w' ⟨he, hw⟩ => by
      subst hw
      rw [hzv]
      have r4 := blk_far (i := 0) (v := .bool goes) (blk_far (i := 0) (v := .int .i64 (m + 1)) (blk_far (i := 2) (v := .int .i64 (k + 1)) u4 (by omega : n + 1 + 1 + 1 + 1 ≠ g)) (by omega : n + 1 + 1 + 1 + 1 ≠ d)) (by omega : n + 1 + 1 + 1 + 1 ≠ n + 1 + 1 + 1)
      refine ⟨he, blk_cell r4, blk_free r4 0, blk_far (blk_far (lW.set2 (k + 1)) (by omega)) (by omega), blk_far (blk_set (blk_far (blk_alloc vD) hdg)) (by omega), ?_, blk_far (blk_far (blk_far (blk_alloc v0) (by omega)) (by omega)) (by omega), blk_set (blk_far (blk_far (blk_alloc v3) (by omega)) (by omega)), ?_⟩
      · exact (((vK.alloc _).set (.inl rfl) _).set (.inr (.inl rfl)) _).set (.inr (.inr (by omega))) _
      · exact (((hBv.alloc (by omega) _).setCell (p := ⟨g, 2, none⟩) hBg _).setCell (p := ⟨d, 0, none⟩) hBd _).setCell (p := ⟨n + 1 + 1 + 1, 0, none⟩) (by show B ≤ n + 1 + 1 + 1; omega) _)
  rw [hzv] at hsafe
  clear hc u4 lW lv v0 v1 v2 v3 hBv vD vG vK
  refine hsafe.mono ?_
  rintro e w5 ⟨rfl, w0, ⟨l0, dd0, k0, a0, a3, hB0⟩, rfl⟩
  have l5 : L (w0.setCell ⟨n + 1 + 1 + 1 + 1, 0, none⟩ (.bool false)) g who 1 (k + 1) how := blk_far l0 (by omega)
  have dd5 : D (w0.setCell ⟨n + 1 + 1 + 1 + 1, 0, none⟩ (.bool false)) d (m + 1) := blk_far dd0 (by omega)
  have k5 : Kept g d w (w0.setCell ⟨n + 1 + 1 + 1 + 1, 0, none⟩ (.bool false)) := k0.set (.inr (.inr (by omega))) _
  have b0 : (w0.setCell ⟨n + 1 + 1 + 1 + 1, 0, none⟩ (.bool false)).heap[n]? = _ := blk_far a0 (by omega)
  have b3 : (w0.setCell ⟨n + 1 + 1 + 1 + 1, 0, none⟩ (.bool false)).heap[n + 1 + 1 + 1]? = _ := blk_far a3 (by omega)
  have hB5 : Below B w (w0.setCell ⟨n + 1 + 1 + 1 + 1, 0, none⟩ (.bool false)) := hB0.setCell (p := ⟨n + 1 + 1 + 1 + 1, 0, none⟩) (by show B ≤ n + 1 + 1 + 1 + 1; omega) _
  clear l0 a0 a3 hB0 hsafe dd0 k0
  generalize w0.setCell ⟨n + 1 + 1 + 1 + 1, 0, none⟩ (.bool false) = w6 at *
  have p0 := blk_cell b0
  have p3 := blk_cell b3
  have d1 := l5.facts.2.1
  have HE := Lib.hid (end_any l5 1)
  have H5 := Lib.hid (And.intro l5 (And.intro dd5 (And.intro k5 (And.intro hB5 b0))))
  clear l5 hB5 b0 b3 dd5 k5
  cases goes
  · go_wp2_with fail
    refine HE.out.mono ?_
    rintro e w7 ⟨rfl, rfl⟩
    obtain ⟨l5, dd5, k5, hB5, b0⟩ := H5.out
    have l7 := (l5.set1 2).set3 1
    have hB7 := (hB5.setCell (p := ⟨g, 1, none⟩) hBg (.int .i64 2)).setCell (p := ⟨g, 3, none⟩) hBg (.int .i64 1)
    have b7 := blk_cell (blk_far (i := 3) (v := .int .i64 1) (blk_far (i := 1) (v := .int .i64 2) b0 (by omega : n ≠ g)) (by omega : n ≠ g))
    have dd7 : D ((w6.setCell ⟨g, 1, none⟩ (.int .i64 2)).setCell ⟨g, 3, none⟩ (.int .i64 1)) d (m + 1) := blk_far (blk_far dd5 hdg) hdg
    have k7 : Kept g d w ((w6.setCell ⟨g, 1, none⟩ (.int .i64 2)).setCell ⟨g, 3, none⟩ (.int .i64 1)) := (k5.set (.inl rfl) _).set (.inl rfl) _
    clear b0 p0 d1 HE l5 dd5 k5 hB5 H5
    generalize (w6.setCell ⟨g, 1, none⟩ (.int .i64 2)).setCell ⟨g, 3, none⟩ (.int .i64 1) = w8 at *
    have d1 := l7.facts.2.1
    have H7 := Lib.hid (And.intro l7 (And.intro dd7 (And.intro k7 hB7)))
    clear l7 hB7 dd7 k7
    go_wp2
    go_ret
    exact ⟨rfl, H7.out⟩
  · go_wp2
    go_ret
    exact ⟨rfl, H5.out.1, H5.out.2.1, H5.out.2.2.1, H5.out.2.2.2.1⟩
set_option maxRecDepth 20000 in
set_option maxHeartbeats 1000000 in
theorem step_crashes {w : World} {B g d b : Nat} {who st k how : Int} (h : L w g who st k how) (hs : st = 0 ∨ st = 1) (hBg : B ≤ g) : Calls Try.prog 38 #[.pointer (some ⟨g, 0, none⟩), fn d b, .bool true] w fun e w' =>
    e = .returned (.bool false) ∧ L w' g who 2 k 2 ∧ Kept g g w w' ∧ Below B w w' := by
  have hmf : ∀ (fn : Fn) (first cap : Array Value) (w : World), (Instr.makeFunc fn first cap).run Try.prog w = .ok (.func fn first cap) w := fun _ _ _ _ => rfl
  have hnf := nf1
  have hst : (st == 2) = false := by rcases hs with rfl | rfl <;> rfl
  have hlt := h.lt
  have hL : L (((w.alloc (.cells #[.pointer (some ⟨g, 0, none⟩)] 69)).alloc (.cells #[fn d b] 24)).alloc (.cells #[.bool true] 4)) g who st k how := blk_alloc (blk_alloc (blk_alloc h))
  have HS := Lib.hid (state_some hL)
  have hB : Below B w (((w.alloc (.cells #[.pointer (some ⟨g, 0, none⟩)] 69)).alloc (.cells #[fn d b] 24)).alloc (.cells #[.bool true] 4)) := (((Below.refl _ _).alloc (by omega) _).alloc (by simp; omega) _).alloc (by simp; omega) _
  have hK : Kept g g w (((w.alloc (.cells #[.pointer (some ⟨g, 0, none⟩)] 69)).alloc (.cells #[fn d b] 24)).alloc (.cells #[.bool true] 4)) := (((Kept.refl _ _ _).alloc _).alloc _).alloc _
  have q0 : (((w.alloc (.cells #[.pointer (some ⟨g, 0, none⟩)] 69)).alloc (.cells #[fn d b] 24)).alloc (.cells #[.bool true] 4)).heap[w.heap.size]? = some (.cells #[.pointer (some ⟨g, 0, none⟩)] 69 (0, 0)) := blk_alloc (blk_alloc (blk_new _ _ _ _ rfl))
  have q1 : (((w.alloc (.cells #[.pointer (some ⟨g, 0, none⟩)] 69)).alloc (.cells #[fn d b] 24)).alloc (.cells #[.bool true] 4)).heap[w.heap.size + 1]? = some (.cells #[fn d b] 24 (0, 0)) := blk_alloc (blk_new _ _ _ _ (by simp))
  have q2 : (((w.alloc (.cells #[.pointer (some ⟨g, 0, none⟩)] 69)).alloc (.cells #[fn d b] 24)).alloc (.cells #[.bool true] 4)).heap[w.heap.size + 1 + 1]? = some (.cells #[.bool true] 4 (0, 0)) := blk_new _ _ _ _ (by simp)
  have hz : (((w.alloc (.cells #[.pointer (some ⟨g, 0, none⟩)] 69)).alloc (.cells #[fn d b] 24)).alloc (.cells #[.bool true] 4)).heap.size = w.heap.size + 1 + 1 + 1 := by simp
  have HQ := Lib.hid (And.intro (And.intro hL hK) (And.intro hB (And.intro q0 (And.intro q1 (And.intro q2 hz)))))
  clear hL hB q0 q1 q2 hz h hK
  unfold fn
  go_enter Try.func38, Try.ntmps38
  go_wp2_with fail
  refine HS.out.mono ?_
  rintro e w1 ⟨rfl, he⟩
  have HQ1 : Hid (_ ∧ _) := HQ
  rw [← he] at HQ1
  clear he HQ HS
  have hB := HQ1.out.2.1
  have hz := HQ1.out.2.2.2.2.2
  have HB := Lib.hid hB
  generalize hn : w.heap.size = n at *
  have q0 := blk_cell HQ1.out.2.2.1
  have q1 := blk_cell HQ1.out.2.2.2.1
  obtain ⟨d0, d1, d2, d3, f⟩ := HQ1.out.1.1.facts
  have f1 := f 1
  clear f hB
  unfold fn at q1
  go_wp2_with fail
  clear d0 d1 d2 d3 f1 q0 q1
  obtain ⟨⟨hL, hK⟩, _, r0, r1, r2, _⟩ := HQ1.out
  have l1 := (hL.set1 1)
  have vK : Kept g g w ((w1.setCell ⟨g, 1, none⟩ (.int .i64 1)).alloc (.cells #[.bool false] 4)) := (hK.set (.inl rfl) _).alloc _
  have v0 := blk_alloc (o' := .cells #[.bool false] 4) (blk_far (i := 1) (v := .int .i64 1) r0 (by omega : n ≠ g))
  have v1 := blk_alloc (o' := .cells #[.bool false] 4) (blk_far (i := 1) (v := .int .i64 1) r1 (by omega : n + 1 ≠ g))
  have v2 := blk_alloc (o' := .cells #[.bool false] 4) (blk_far (i := 1) (v := .int .i64 1) r2 (by omega : n + 1 + 1 ≠ g))
  have v3 := blk_new (w1.setCell ⟨g, 1, none⟩ (.int .i64 1)) #[.bool false] 4 (n + 1 + 1 + 1) (by rw [← hz]; simp [World.setCell])
  have lv : L ((w1.setCell ⟨g, 1, none⟩ (.int .i64 1)).alloc (.cells #[.bool false] 4)) g who 1 k how := blk_alloc l1
  have hBv : Below B w ((w1.setCell ⟨g, 1, none⟩ (.int .i64 1)).alloc (.cells #[.bool false] 4)) := (HB.out.setCell (p := ⟨g, 1, none⟩) hBg _).alloc (by simp [World.setCell]; omega) _
  have hzv : ((w1.setCell ⟨g, 1, none⟩ (.int .i64 1)).alloc (.cells #[.bool false] 4)).heap.size = n + 1 + 1 + 1 + 1 := by simp [World.setCell, hz]
  clear hL r0 r1 r2 l1 hz HQ1 HB hK
  generalize (w1.setCell ⟨g, 1, none⟩ (.int .i64 1)).alloc (.cells #[.bool false] 4) = V at *
  have lW : L (V.alloc (.cells #[.bool true] 4)) g who 1 k how := blk_alloc lv
  have u4 := blk_new V #[.bool true] 4 (n + 1 + 1 + 1 + 1) hzv.symm
  have hc := clo_crash n (.pointer (some ⟨n, 0, none⟩)) (.pointer (some ⟨n + 1, 0, none⟩)) (.pointer (some ⟨n + 1 + 1 + 1, 0, none⟩)) (V.alloc (.cells #[.bool true] 4)) (blk_cell (blk_alloc v2))
  have hsafe := safe_crash #[.pointer (some ⟨n + 1 + 1, 0, none⟩), .pointer (some ⟨n, 0, none⟩), .pointer (some ⟨n + 1, 0, none⟩), .pointer (some ⟨n + 1 + 1 + 1, 0, none⟩)] V
    (fun w0 => L w0 g who 1 k how ∧ w0.heap[n]? = some (.cells #[.pointer (some ⟨g, 0, none⟩)] 69 (0, 0)) ∧ Kept g g w w0 ∧ Below B w w0) _ _ (hc.mono fun e w' ⟨he, hw⟩ => by
      subst hw
      rw [hzv]
      exact ⟨he, blk_cell u4, lW, blk_alloc v0, vK.alloc _, hBv.alloc (by omega) _⟩)
  clear hc u4 lW lv v0 v1 v2 v3 hBv vK
  refine hsafe.mono ?_
  rintro e w6 ⟨rfl, l5, b0, k5, hB5⟩
  have p0 := blk_cell b0
  have d1 := l5.facts.2.1
  have HE := Lib.hid (end_any l5 2)
  have H5 := Lib.hid (And.intro l5 (And.intro k5 hB5))
  clear l5 hB5 hsafe k5
  go_wp2_with fail
  refine HE.out.mono ?_
  rintro e w7 ⟨rfl, rfl⟩
  have l7 := (H5.out.1.set1 2).set3 2
  have hB7 := (H5.out.2.2.setCell (p := ⟨g, 1, none⟩) hBg (.int .i64 2)).setCell (p := ⟨g, 3, none⟩) hBg (.int .i64 2)
  have k7 : Kept g g w ((w6.setCell ⟨g, 1, none⟩ (.int .i64 2)).setCell ⟨g, 3, none⟩ (.int .i64 2)) := (H5.out.2.1.set (.inl rfl) _).set (.inl rfl) _
  have b7 := blk_cell (blk_far (i := 3) (v := .int .i64 2) (blk_far (i := 1) (v := .int .i64 2) b0 (by omega : n ≠ g)) (by omega : n ≠ g))
  clear b0 p0 d1 HE
  generalize (w6.setCell ⟨g, 1, none⟩ (.int .i64 2)).setCell ⟨g, 3, none⟩ (.int .i64 2) = w8 at *
  have d1 := l7.facts.2.1
  have H7 := Lib.hid (And.intro l7 (And.intro k7 hB7))
  clear l7 hB7 k7
  go_wp2
  go_ret
  exact ⟨rfl, H7.out⟩

theorem step_over {w : World} {B g d b : Nat} {who k how : Int} (h : L w g who 2 k how) (c : Bool) (hB : B ≤ w.heap.size) : Calls Try.prog 38 #[.pointer (some ⟨g, 0, none⟩), fn d b, .bool c] w fun e w' =>
    e = .returned (.bool false) ∧ L w' g who 2 k how ∧ Kept g g w w' ∧ Below B w w' := by
  have hL : L (((w.alloc (.cells #[.pointer (some ⟨g, 0, none⟩)] 69)).alloc (.cells #[fn d b] 24)).alloc (.cells #[.bool c] 4)) g who 2 k how := blk_alloc (blk_alloc (blk_alloc h))
  have hK : Kept g g w (((w.alloc (.cells #[.pointer (some ⟨g, 0, none⟩)] 69)).alloc (.cells #[fn d b] 24)).alloc (.cells #[.bool c] 4)) := (((Kept.refl _ _ _).alloc _).alloc _).alloc _
  have hBv : Below B w (((w.alloc (.cells #[.pointer (some ⟨g, 0, none⟩)] 69)).alloc (.cells #[fn d b] 24)).alloc (.cells #[.bool c] 4)) := (((Below.refl _ _).alloc hB _).alloc (by simp; omega) _).alloc (by simp; omega) _
  have HL := Lib.hid (And.intro hL (And.intro hK hBv))
  clear hL h hK hBv
  unfold fn
  go_enter Try.func38, Try.ntmps38
  go_wp2_with fail
  refine (state_some HL.out.1).mono ?_
  rintro e w1 ⟨rfl, rfl⟩
  go_wp2
  go_ret
  exact ⟨rfl, HL.out⟩
end Go.Proofs.Yticcobciafbleaa.Life
