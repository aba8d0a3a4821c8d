/- 'LifePlays' holds for every input, with no condition: what a life is, behind whatever steps. -/
import Derived.Test.YticcobciafbleaaLifeGo
namespace Go.Proofs.Yticcobciafbleaa.lifePlays
open Go.RowKit Life

/-- What a step makes of a life: state, steps, how it ended, and what it tells. -/
def stN (st : Int) (goes crash : Bool) : Int := if st == 2 then 2 else if crash then 2 else if goes then 1 else 2
def kN (st k : Int) (crash : Bool) : Int := if st == 2 then k else if crash then k else k + 1
def howN (st how : Int) (goes crash : Bool) : Int := if st == 2 then how else if crash then 2 else if goes then how else 1
def retN (st : Int) (goes crash : Bool) : Bool := if st == 2 then false else if crash then false else goes

theorem x_step {w : World} {B g d b : Nat} {who st k how m : Int} {goes crash : Bool} (h : L w g who st k how) (hs : st = 0 ∨ st = 1 ∨ st = 2) (h0 : 0 ≤ k) (h1 : k ≤ 100) (hd : D w d m) (m0 : 0 ≤ m) (m1 : m ≤ 100) (hb : G w b goes) (hBg : B ≤ g) (hBd : B ≤ d) :
    Calls Try.prog 38 #[.pointer (some ⟨g, 0, none⟩), fn d b, .bool crash] w fun e w' =>
    e = .returned (.bool (retN st goes crash)) ∧ L w' g who (stN st goes crash) (kN st k crash) (howN st how goes crash) ∧ D w' d (kN st m crash) ∧ Kept g d w w' ∧ Below B w w' := by
  have hdg := ne_dg h hd
  by_cases h2 : st = 2
  · subst h2
    refine (step_over (d := d) (b := b) h crash (Nat.le_trans hBg (Nat.le_of_lt h.lt))).mono fun e w' ⟨he, hl, hk, hB⟩ => ⟨he, hl, hk d _ hdg hdg hd, fun j o a _ c => hk j o a a c, hB⟩
  · have hs' : st = 0 ∨ st = 1 := by omega
    have hsb : (st == 2) = false := by simpa using h2
    cases crash
    · refine (step_runs h hs' h0 h1 hd m0 m1 hb hBg hBd).mono fun e w' ⟨he, hl, hD, hk, hB⟩ => ?_
      simp only [retN, stN, kN, howN, hsb, Bool.false_eq_true, if_false]
      exact ⟨he, hl, hD, hk, hB⟩
    · refine (step_crashes (d := d) (b := b) h hs' hBg).mono fun e w' ⟨he, hl, hk, hB⟩ => ?_
      simp only [retN, stN, kN, howN, hsb, Bool.false_eq_true, if_false, if_true]
      exact ⟨he, hl, hk d _ hdg hdg hd, fun j o a _ c => hk j o a a c, hB⟩

/-- At block r stands the page's life. -/
def R (w : World) (r : Nat) (who st k how : Int) : Prop := w.heap[r]? = some (.cells #[.int .i64 who, .int .i64 st, .int .i64 k, .int .i64 how] 73 (0, 0))
theorem R.facts {w : World} {g : Nat} {who st k how : Int} (h : R w g who st k how) : w.cell? ⟨g, 0, none⟩ = some (.int .i64 who) ∧ w.cell? ⟨g, 1, none⟩ = some (.int .i64 st) ∧ w.cell? ⟨g, 2, none⟩ = some (.int .i64 k) ∧ w.cell? ⟨g, 3, none⟩ = some (.int .i64 how) ∧ ∀ j, w.frozen? ⟨g, j, none⟩ = false :=
  ⟨cell_of_row w g 0 _ _ (0, 0) h, cell_of_row w g 1 _ _ (0, 0) h, cell_of_row w g 2 _ _ (0, 0) h, cell_of_row w g 3 _ _ (0, 0) h, fun j => by unfold R at h; simp [World.frozen?, h]⟩
theorem R.set1 {w : World} {g : Nat} {who st k how : Int} (h : R w g who st k how) (x : Int) : R (w.setCell ⟨g, 1, none⟩ (.int .i64 x)) g who x k how := by
  unfold R at *; simp [World.setCell, Array.getElem?_modify, h]
theorem R.set2 {w : World} {g : Nat} {who st k how : Int} (h : R w g who st k how) (x : Int) : R (w.setCell ⟨g, 2, none⟩ (.int .i64 x)) g who st x how := by
  unfold R at *; simp [World.setCell, Array.getElem?_modify, h]
theorem R.set3 {w : World} {g : Nat} {who st k how : Int} (h : R w g who st k how) (x : Int) : R (w.setCell ⟨g, 3, none⟩ (.int .i64 x)) g who st k x := by
  unfold R at *; simp [World.setCell, Array.getElem?_modify, h]

theorem q_step {w : World} {B r : Nat} {who st k how : Int} {goes crash : Bool} (h : R w r who st k how) (h0 : 0 ≤ k) (h1 : k ≤ 100) (hB : B ≤ r) :
    Calls Try.prog 39 #[.pointer (some ⟨r, 0, none⟩), .bool goes, .bool crash] w fun e w' =>
    e = .returned (.bool (retN st goes crash)) ∧ R w' r who (stN st goes crash) (kN st k crash) (howN st how goes crash) ∧ Kept r r w w' ∧ Below B w w' := by
  obtain ⟨d0, d1, d2, d3, f⟩ := h.facts
  have f1 := f 1
  have f2 := f 2
  have f3 := f 3
  have H := Lib.hid h
  clear f h d0
  by_cases hs : st = 2
  · subst hs
    go_enter Try.func39, Try.ntmps39
    go_wp2
    go_ret
    exact ⟨rfl, H.out, Kept.refl _ _ _, Below.refl _ _⟩
  · have hsb : (st == 2) = false := by simpa using hs
    clear hs
    simp only [retN, stN, kN, howN, hsb, Bool.false_eq_true, if_false]
    cases crash
    · cases goes
      · go_enter Try.func39, Try.ntmps39
        go_wp2
        go_ret
        refine ⟨rfl, (((H.out.set1 1).set2 (k + 1)).set1 2).set3 1, ((((Kept.refl _ _ _).set (.inl rfl) _).set (.inl rfl) _).set (.inl rfl) _).set (.inl rfl) _, ?_⟩
        exact ((((Below.refl _ _).setCell (p := ⟨r, 1, none⟩) hB _).setCell (p := ⟨r, 2, none⟩) hB _).setCell (p := ⟨r, 1, none⟩) hB _).setCell (p := ⟨r, 3, none⟩) hB _
      · go_enter Try.func39, Try.ntmps39
        go_wp2
        go_ret
        refine ⟨rfl, (H.out.set1 1).set2 (k + 1), ((Kept.refl _ _ _).set (.inl rfl) _).set (.inl rfl) _, ?_⟩
        exact ((Below.refl _ _).setCell (p := ⟨r, 1, none⟩) hB _).setCell (p := ⟨r, 2, none⟩) hB _
    · go_enter Try.func39, Try.ntmps39
      go_wp2
      go_ret
      refine ⟨rfl, ((H.out.set1 1).set1 2).set3 2, (((Kept.refl _ _ _).set (.inl rfl) _).set (.inl rfl) _).set (.inl rfl) _, ?_⟩
      exact (((Below.refl _ _).setCell (p := ⟨r, 1, none⟩) hB _).setCell (p := ⟨r, 1, none⟩) hB _).setCell (p := ⟨r, 3, none⟩) hB _

theorem q_exit_some {w : World} {g : Nat} {who k how : Int} (h : R w g who 2 k how) : Calls Try.prog 41 #[.pointer (some ⟨g, 0, none⟩)] w fun e w' => e = .returned (.tuple #[.agg #[.int .i64 who, .int .i64 how, .int .i64 k], .bool true]) ∧ Below w.heap.size w w' := by
  obtain ⟨d0, d1, d2, d3, f⟩ := h.facts
  have hlt := blk_lt h
  clear f h
  have hne : ¬ w.heap.size = g := by omega
  have hne2 : ¬ g = w.heap.size := by omega
  go_enter Try.func41, Try.ntmps41
  go_wp2
  go_region_held3 (fun w' => w'.cell? ⟨g, 0, none⟩ = some (.int .i64 who) ∧ w'.cell? ⟨g, 2, none⟩ = some (.int .i64 k) ∧ w'.cell? ⟨g, 3, none⟩ = some (.int .i64 how))
    (first | assumption | exact E3.new hlt ⟨d0, d2, d3⟩ | exact E3.store (by assumption) hne2 | exact E3.store (E3.drew (by assumption)) hne2 | exact E3.drew (by assumption) | exact E3.store (E3.new hlt ⟨d0, d2, d3⟩) hne2)
    (fail)
  go_wp2
  refine bodyPost_ret (v := .tuple #[.agg #[.int .i64 who, .int .i64 how, .int .i64 k], .bool true]) (by simp [results, Try.results41, go_sem]) rfl ⟨rfl, ?_⟩
  exact ((Below.refl _ _).alloc (Nat.le_refl _) _).drew

theorem q_exit_none {w : World} {g : Nat} {who st k how : Int} (h : R w g who st k how) (hs : st ≠ 2) : Calls Try.prog 41 #[.pointer (some ⟨g, 0, none⟩)] w fun e w' => e = .returned (.tuple #[.agg #[.int .i64 0, .int .i64 0, .int .i64 0], .bool false]) ∧ Below w.heap.size w w' := by
  obtain ⟨d0, d1, d2, d3, f⟩ := h.facts
  have hsb : (st == 2) = false := by simpa using hs
  have hlt := blk_lt h
  have hne : ¬ w.heap.size = g := by omega
  have hne2 : ¬ g = w.heap.size := by omega
  clear f h hs d0 d2 d3
  go_enter Try.func41, Try.ntmps41
  go_wp2
  refine bodyPost_ret (v := .tuple #[.agg #[.int .i64 0, .int .i64 0, .int .i64 0], .bool false]) (by simp [results, Try.results41, go_sem]) rfl ⟨rfl, (Below.refl _ _).alloc (Nat.le_refl _) _⟩

theorem x_exit_none {w : World} {g : Nat} {who st k how : Int} (h : L w g who st k how) (hs : st ≠ 2) : Calls Try.prog 40 #[.pointer (some ⟨g, 0, none⟩)] w fun e w' => e = .returned (.tuple #[.agg #[.int .i64 0, .int .i64 0, .int .i64 0], .bool false]) ∧ Below w.heap.size w w' := by
  obtain ⟨d0, d1, d2, d3, f⟩ := h.facts
  have hsb : (st == 2) = false := by simpa using hs
  have hlt := blk_lt h
  have hne : ¬ w.heap.size = g := by omega
  have hne2 : ¬ g = w.heap.size := by omega
  clear f h hs d0 d2 d3
  go_enter Try.func40, Try.ntmps40
  go_wp2
  refine bodyPost_ret (v := .tuple #[.agg #[.int .i64 0, .int .i64 0, .int .i64 0], .bool false]) (by simp [results, Try.results40, go_sem]) rfl ⟨rfl, (Below.refl _ _).alloc (Nat.le_refl _) _⟩

/-- How a life is told to have ended. -/
def xs (who st k how : Int) : Int × Int × Int := if st = 2 then (who, how, k) else (0, 0, 0)
theorem x_exit {w : World} {g : Nat} {who st k how : Int} (h : L w g who st k how) : Calls Try.prog 40 #[.pointer (some ⟨g, 0, none⟩)] w fun e w' => e = .returned (.tuple #[.agg #[.int .i64 (xs who st k how).1, .int .i64 (xs who st k how).2.1, .int .i64 (xs who st k how).2.2], .bool (st == 2)]) ∧ Below w.heap.size w w' := by
  by_cases hs : st = 2
  · subst hs; exact exit_some h
  · have hsb : (st == 2) = false := by simpa using hs
    unfold xs
    rw [if_neg hs, hsb]
    exact x_exit_none h hs
theorem q_exit {w : World} {g : Nat} {who st k how : Int} (h : R w g who st k how) : Calls Try.prog 41 #[.pointer (some ⟨g, 0, none⟩)] w fun e w' => e = .returned (.tuple #[.agg #[.int .i64 (xs who st k how).1, .int .i64 (xs who st k how).2.1, .int .i64 (xs who st k how).2.2], .bool (st == 2)]) ∧ Below w.heap.size w w' := by
  by_cases hs : st = 2
  · subst hs; exact q_exit_some h
  · have hsb : (st == 2) = false := by simpa using hs
    unfold xs
    rw [if_neg hs, hsb]
    exact q_exit_none h hs
theorem steps_some {w : World} {g : Nat} {who st k how : Int} (h : L w g who st k how) : Calls Try.prog 43 #[.pointer (some ⟨g, 0, none⟩)] w fun e w' => e = .returned (.int .i64 k) ∧ w' = w := by
  obtain ⟨d0, d1, d2, d3, f⟩ := h.facts
  clear f
  go_enter Try.func43, Try.ntmps43
  go_wp2
  go_ret
  exact ⟨rfl, rfl⟩

/-- A slice that reads as bytes. -/
def Rb (w : World) (A : Option Addr) (len : Nat) (zs : List Int) : Prop :=
  0 < len → ∃ b off, A = some ⟨b, off, none⟩ ∧ b < w.heap.size ∧ ∀ i, i < len → w.cell? ⟨b, off + i, none⟩ = some (.int .u8 (zs.getD i 0))

theorem c1_new {g i : Nat} {v : Value} {w : World} {o : Obj} (hlt : g < w.heap.size) (h : w.cell? ⟨g, i, none⟩ = some v) : (w.alloc o).drew.cell? ⟨g, i, none⟩ = some v := (World.cell?_alloc_lt w _ _ hlt).trans h
theorem c1_drew {g i : Nat} {v : Value} {w : World} (h : w.cell? ⟨g, i, none⟩ = some v) : w.drew.cell? ⟨g, i, none⟩ = some v := h

set_option maxRecDepth 20000 in
set_option maxHeartbeats 1000000 in
theorem walk_few (who : Int) (A : Option Addr) (len cap : Nat) (zs : List Int) (hl : len ≤ 60) (w : World) (hr : Rb w A len zs) : Calls Try.prog 7 #[.int .i64 who, .slice A len cap] w fun e w' => e = .returned (.bool true) ∧ Below w.heap.size w w' := by
  have hmf : ∀ (fn : Fn) (first cap : Array Value) (w : World), (Instr.makeFunc fn first cap).run Try.prog w = .ok (.func fn first cap) w := fun _ _ _ _ => rfl
  have he := neq_exit
  have HR := Lib.hid hr
  clear hr
  have hlen : (len : Int) ≤ 60 := by omega
  go_enter Try.func7, Try.ntmps7
  go_wp2_with fail
  refine (of_any _ _).mono ?_
  rintro e w1 ⟨rfl, l1, b1⟩
  go_wp2
  have l2 : L ((w1.alloc (.cells #[.int .i64 who, .int .i64 0, .int .i64 0, .int .i64 0] 73)).alloc (.cells #[.int .i64 0] 3)) w.heap.size who 0 0 0 := blk_alloc (blk_alloc l1)
  have r2 : R ((w1.alloc (.cells #[.int .i64 who, .int .i64 0, .int .i64 0, .int .i64 0] 73)).alloc (.cells #[.int .i64 0] 3)) w1.heap.size who 0 0 0 := blk_alloc (blk_new _ _ _ _ rfl)
  have d2 : D ((w1.alloc (.cells #[.int .i64 who, .int .i64 0, .int .i64 0, .int .i64 0] 73)).alloc (.cells #[.int .i64 0] 3)) (w1.heap.size + 1) 0 := blk_new _ _ _ _ (by simp)
  have hB2 : Below w.heap.size w ((w1.alloc (.cells #[.int .i64 who, .int .i64 0, .int .i64 0, .int .i64 0] 73)).alloc (.cells #[.int .i64 0] 3)) := (b1.alloc b1.size _).alloc (by simp; have := b1.size; omega) _
  have hz1 := b1.size
  have hgr : w.heap.size < w1.heap.size := l1.lt
  have H2 := Lib.hid (And.intro l2 (And.intro r2 (And.intro d2 hB2)))
  clear l1 b1 l2 r2 d2 hB2
  go_loopw [8, 9] (fun was i wr => ∃ k : Nat, i = .int .i64 (k : Int) ∧ k ≤ len ∧ ∃ (st m how : Int), was = .int .i64 m ∧ 0 ≤ m ∧ m ≤ (k : Int) ∧ (st = 0 ∨ st = 1 ∨ st = 2) ∧ L wr w.heap.size who st m how ∧ R wr w1.heap.size who st m how ∧ D wr (w1.heap.size + 1) m ∧ Below w.heap.size w wr)
    (fun _ i _ => len - (intOf i).toNat)
  case atStart => exact ⟨0, rfl, Nat.zero_le _, 0, 0, 0, rfl, by decide, by decide, .inl rfl, H2.out⟩
  case round =>
    obtain ⟨k, rfl, hk, st, m, how, rfl, m0, m1, hst, hL, hRr, hD, hB⟩ := hrel
    have HH := Lib.hid (And.intro hst (And.intro hL (And.intro hRr (And.intro hD hB))))
    by_cases hlt : k < len
    · obtain ⟨b, off, rfl, hbl, hc⟩ := HR.out (by omega)
      have hc := (hB.cell (p := ⟨b, off + k, none⟩) hbl).trans (hc k hlt)
      have hk0 : (0 : Int) ≤ (k : Int) := by omega
      have hk1 : (k : Int) < (len : Int) := by omega
      have m2 : m ≤ 100 := by omega
      generalize zs.getD k 0 = z at hc
      have HST := Lib.hid hst
      have hbz := hB.size
      have hdb : w1.heap.size + 1 < wr.heap.size := blk_lt hD
      have hbw : b < wr.heap.size := Nat.lt_of_lt_of_le hbl hbz
      have hne : b ≠ wr.heap.size := by omega
      have hne1 : (b == wr.heap.size) = false := by simp; omega
      have hne2 : (wr.heap.size == b) = false := by simp; omega
      clear hst hL hRr hD hB
      go_wp2_with fail
      go_region_held3 (fun W => W.cell? ⟨b, off + k, none⟩ = some (.int .u8 z)) (first | assumption | exact c1_new hbw hc | exact cell_far (by assumption) hne | exact cell_far (c1_drew (by assumption)) hne | exact c1_drew (by assumption) | exact cell_far (c1_new hbw hc) hne) (fail)
      obtain ⟨hst, hL, hRr, hD, hB⟩ := HH.out
      have vL : L (wr.alloc (.cells #[.bool (bits .and .u8 z 1 == 1)] 4)).drew w.heap.size who st m how := blk_alloc hL
      have vR : R (wr.alloc (.cells #[.bool (bits .and .u8 z 1 == 1)] 4)).drew w1.heap.size who st m how := blk_alloc hRr
      have vD : D (wr.alloc (.cells #[.bool (bits .and .u8 z 1 == 1)] 4)).drew (w1.heap.size + 1) m := blk_alloc hD
      have vG : G (wr.alloc (.cells #[.bool (bits .and .u8 z 1 == 1)] 4)).drew wr.heap.size (bits .and .u8 z 1 == 1) := blk_new _ _ _ _ rfl
      have vB : Below w.heap.size w (wr.alloc (.cells #[.bool (bits .and .u8 z 1 == 1)] 4)).drew := (hB.alloc hB.size _).drew
      clear hst hL hRr hD hB hne hne1 hne2 hbw hbz hc HH
      generalize (wr.alloc (.cells #[.bool (bits .and .u8 z 1 == 1)] 4)).drew = V at *
      generalize (bits .and .u8 z 1 == 1) = goes at *
      generalize (bits .and .u8 z 6 == 6) = crash at *
      generalize wr.heap.size = bb at *
      have hst := (HST.out : st = 0 ∨ st = 1 ∨ st = 2)
      obtain ⟨_, e1, _, _, _⟩ := vR.facts
      have HV := Lib.hid (And.intro hst (And.intro vL (And.intro vR (And.intro vD (And.intro vG vB)))))
      have hcase : ∃ kn, kn = kN st m crash ∧ 0 ≤ kn ∧ kn ≤ (k : Int) + 1 ∧ ((st = 2 ∧ kn = m) ∨ ((st == 2) = false ∧ crash = true ∧ kn = m) ∨ ((st == 2) = false ∧ crash = false ∧ kn = m + 1)) := by
        refine ⟨_, rfl, ?_⟩
        unfold kN
        by_cases h2 : st = 2
        · simp [h2]; omega
        · have h2b : (st == 2) = false := by simpa using h2
          cases crash <;> simp [h2] <;> omega
      obtain ⟨kn, hkn, kn0, kn1, hcase⟩ := hcase
      have HK := Lib.hid hkn
      clear hst vL vR vD vG vB hkn
      have hv0 : V.cell? ⟨bb, 0, none⟩ = some (.bool goes) := blk_cell HV.out.2.2.2.2.1
      have hkm : kn ≤ 100 := by omega
      have en1 : bb ≠ w.heap.size := by omega
      have en2 : bb ≠ w1.heap.size + 1 := by omega
      have en3 : w1.heap.size ≠ w.heap.size := by omega
      have en4 : w1.heap.size ≠ w1.heap.size + 1 := by omega
      have en5 : bb ≠ w1.heap.size := by omega
      have hBd : w.heap.size ≤ w1.heap.size + 1 := by omega
      have HX : Hid (∀ W : World, W.heap = V.heap → Calls Try.prog 38 #[.pointer (some ⟨w.heap.size, 0, none⟩), .func (.func 37) #[] #[.pointer (some ⟨w1.heap.size + 1, 0, none⟩), .pointer (some ⟨bb, 0, none⟩)], .bool crash] W fun e w' =>
          e = .returned (.bool (retN st goes crash)) ∧ L w' w.heap.size who (stN st goes crash) (kN st m crash) (howN st how goes crash) ∧ D w' (w1.heap.size + 1) (kN st m crash) ∧ R w' w1.heap.size who st m how ∧ G w' bb goes ∧ Below w.heap.size W w') := Lib.hid fun W hW => by
        obtain ⟨o0, o1, o2, o3, o4, _⟩ := HV.out
        unfold L at o1
        unfold R at o2
        unfold D at o3
        unfold G at o4
        rw [← hW] at o1 o2 o3 o4
        exact (x_step (B := w.heap.size) (w := W) o1 o0 m0 m2 o3 m0 m2 o4 (Nat.le_refl _) hBd).mono fun e w' ⟨q0, q1, q2, q3, q4⟩ => ⟨q0, q1, q2, q3 _ _ en3 en4 o2, q3 _ _ en1 en2 o4, q4⟩
      have HQ : Hid (∀ W : World, R W w1.heap.size who st m how → Calls Try.prog 39 #[.pointer (some ⟨w1.heap.size, 0, none⟩), .bool goes, .bool crash] W fun e w' =>
          e = .returned (.bool (retN st goes crash)) ∧ R w' w1.heap.size who (stN st goes crash) (kN st m crash) (howN st how goes crash) ∧ Kept w1.heap.size w1.heap.size W w' ∧ Below w.heap.size W w') := Lib.hid fun W hW => q_step hW m0 m2 hz1
      rcases hcase with ⟨hs2, hke⟩ | ⟨hs2, hcr, hke⟩ | ⟨hs2, hcr, hke⟩
      · have HKE := Lib.hid hke
        subst hs2
        clear hke
        go_wp2_with fail
        go_region_held3 (fun W => W.cell? ⟨bb, 0, none⟩ = some (.bool goes))
          (first | assumption | exact hv0 | exact c1_drew (by assumption) | exact blk_cell g2 | exact blk_cell (k3 _ _ en5 en5 g2))
          (first
            | (go_at_call 38; (refine (HX.out _ (by rfl)).mono ?_); rintro e w2 ⟨rfl, l2, d2, r2, g2, B2⟩)
            | (go_at_call 39; (refine (HQ.out _ r2).mono ?_); rintro e w3 ⟨rfl, r3, k3, B3⟩))
        have l3 : L w3 w.heap.size who (stN 2 goes crash) (kN 2 m crash) (howN 2 how goes crash) := k3 _ _ en3.symm en3.symm l2
        have d3 : D w3 (w1.heap.size + 1) (kN 2 m crash) := k3 _ _ en4.symm en4.symm d2
        have B4 : Below w.heap.size w w3 := (HV.out.2.2.2.2.2.drew).trans (B2.trans B3)
        have hst' : stN 2 goes crash = 0 ∨ stN 2 goes crash = 1 ∨ stN 2 goes crash = 2 := by unfold stN; cases crash <;> cases goes <;> simp
        rw [← HK.out, HKE.out] at l3 d3 r3
        clear HK HX HQ HV l2 d2 r2 g2 B2 k3 B3 hv0
        generalize stN 2 goes crash = st' at *
        generalize howN 2 how goes crash = how' at *
        generalize retN 2 goes crash = rr at *
        go_wp2_with fail
        refine (x_exit l3).mono ?_
        rintro e w4 ⟨rfl, b4⟩
        go_wp2_with fail
        obtain ⟨p1, p2, p3, hp⟩ : ∃ p1 p2 p3, xs who st' m how' = (p1, p2, p3) := ⟨_, _, _, rfl⟩
        have HX := Lib.hid hp
        rw [hp]
        clear hp
        dsimp only
        have r5 : R (w4.alloc (.cells #[.int .i64 p1, .int .i64 p2, .int .i64 p3] 77)) w1.heap.size who st' m how' := blk_alloc ((b4.block _ (blk_lt r3)).trans r3)
        have l5 : L (w4.alloc (.cells #[.int .i64 p1, .int .i64 p2, .int .i64 p3] 77)) w.heap.size who st' m how' := blk_alloc ((b4.block _ (blk_lt l3)).trans l3)
        have d5 : D (w4.alloc (.cells #[.int .i64 p1, .int .i64 p2, .int .i64 p3] 77)) (w1.heap.size + 1) m := blk_alloc ((b4.block _ (blk_lt d3)).trans d3)
        have x5 : (w4.alloc (.cells #[.int .i64 p1, .int .i64 p2, .int .i64 p3] 77)).heap[w4.heap.size]? = some (.cells #[.int .i64 p1, .int .i64 p2, .int .i64 p3] 77 (0, 0)) := heap_alloc_new w4 _
        have B5 : Below w.heap.size w (w4.alloc (.cells #[.int .i64 p1, .int .i64 p2, .int .i64 p3] 77)) := (B4.trans (b4.mono B4.size)).alloc (B4.trans (b4.mono B4.size)).size _
        clear r3 l3 d3 b4 B4
        generalize w4.alloc (.cells #[.int .i64 p1, .int .i64 p2, .int .i64 p3] 77) = w5 at *
        generalize w4.heap.size = xb at *
        have hq := q_exit r5
        rw [HX.out] at hq
        have HQ := Lib.hid hq
        clear hq
        refine HQ.out.mono ?_
        rintro e w6 ⟨rfl, b6⟩
        have x6 := (b6.block _ (blk_lt x5)).trans x5
        have r6 : R w6 w1.heap.size who st' m how' := (b6.block _ (blk_lt r5)).trans r5
        have l6 : L w6 w.heap.size who st' m how' := (b6.block _ (blk_lt l5)).trans l5
        have d6 : D w6 (w1.heap.size + 1) m := (b6.block _ (blk_lt d5)).trans d5
        have B6 := B5.trans (b6.mono B5.size)
        have hx6 := blk_lt x6
        have H6 := Lib.hid (And.intro r6 (And.intro l6 (And.intro d6 (And.intro B6 x6))))
        have z0 := cell_of_row w6 _ 0 _ _ (0, 0) x6
        have z1 := cell_of_row w6 _ 1 _ _ (0, 0) x6
        have z2 := cell_of_row w6 _ 2 _ _ (0, 0) x6
        simp at z0 z1 z2
        have hxn : ¬ w6.heap.size = xb := by omega
        have hxn2 : ¬ xb = w6.heap.size := by omega
        clear x5 x6 r5 r6 l5 l6 d5 d6 B5 B6 b6 HQ
        go_wp2_with fail
        have x7 := heap_alloc_new w6 (.cells #[.int .i64 p1, .int .i64 p2, .int .i64 p3] 77)
        have r7 : R (w6.alloc (.cells #[.int .i64 p1, .int .i64 p2, .int .i64 p3] 77)) w1.heap.size who st' m how' := blk_alloc H6.out.1
        have l7 : L (w6.alloc (.cells #[.int .i64 p1, .int .i64 p2, .int .i64 p3] 77)) w.heap.size who st' m how' := blk_alloc H6.out.2.1
        have d7 : D (w6.alloc (.cells #[.int .i64 p1, .int .i64 p2, .int .i64 p3] 77)) (w1.heap.size + 1) m := blk_alloc H6.out.2.2.1
        have B7 : Below w.heap.size w (w6.alloc (.cells #[.int .i64 p1, .int .i64 p2, .int .i64 p3] 77)) := H6.out.2.2.2.1.alloc H6.out.2.2.2.1.size _
        have y7 := blk_alloc (o' := .cells #[.int .i64 p1, .int .i64 p2, .int .i64 p3] 77) H6.out.2.2.2.2
        clear z0 z1 z2 hxn hxn2 hx6 H6
        generalize w6.alloc (.cells #[.int .i64 p1, .int .i64 p2, .int .i64 p3] 77) = w7 at *
        generalize w6.heap.size = fb at *
        have z0 := cell_of_row w7 _ 0 _ _ (0, 0) y7
        have z1 := cell_of_row w7 _ 1 _ _ (0, 0) y7
        have z2 := cell_of_row w7 _ 2 _ _ (0, 0) y7
        have t0 := cell_of_row w7 _ 0 _ _ (0, 0) x7
        have t1 := cell_of_row w7 _ 1 _ _ (0, 0) x7
        have t2 := cell_of_row w7 _ 2 _ _ (0, 0) x7
        have s0 := blk_cell d7
        obtain ⟨_, q1, q2, _, _⟩ := r7.facts
        simp at z0 z1 z2 t0 t1 t2
        have H7 := Lib.hid (And.intro r7 (And.intro l7 (And.intro d7 B7)))
        clear r7 l7 d7 B7 x7 y7
        go_quiet ((first
          | (go_at_call 42; exact Calls.quiet_of_same (state_some (who := who) (k := m) (how := how') H7.out.2.1))
          | (go_at_call 43; exact Calls.quiet_of_same (steps_some (who := who) (st := st') (how := how') H7.out.2.1))))
        go_wp2
        exact ⟨⟨k + 1, by go_num, by omega, st', m, how', by go_num, by omega, by push_cast; omega, hst', H7.out.2.1, H7.out.1, H7.out.2.2.1, below_drewN H7.out.2.2.2 _⟩, by simp [intOf]; omega⟩
      · have HKE := Lib.hid hke
        subst hcr
        clear hke
        have hs3 : ¬ st = 2 := by simpa using hs2
        go_wp2_with fail
        go_region_held3 (fun W => W.cell? ⟨bb, 0, none⟩ = some (.bool goes))
          (first | assumption | exact hv0 | exact c1_drew (by assumption) | exact blk_cell g2 | exact blk_cell (k3 _ _ en5 en5 g2))
          (first
            | (go_at_call 38; (refine (HX.out _ (by rfl)).mono ?_); rintro e w2 ⟨rfl, l2, d2, r2, g2, B2⟩)
            | (go_at_call 39; (refine (HQ.out _ r2).mono ?_); rintro e w3 ⟨rfl, r3, k3, B3⟩))
        have l3 : L w3 w.heap.size who (stN st goes true) (kN st m true) (howN st how goes true) := k3 _ _ en3.symm en3.symm l2
        have d3 : D w3 (w1.heap.size + 1) (kN st m true) := k3 _ _ en4.symm en4.symm d2
        have B4 : Below w.heap.size w w3 := (HV.out.2.2.2.2.2.drew).trans (B2.trans B3)
        have hst' : stN st goes true = 0 ∨ stN st goes true = 1 ∨ stN st goes true = 2 := by unfold stN; cases goes <;> simp [hs2]
        rw [← HK.out, HKE.out] at l3 d3 r3
        clear HK HX HQ HV l2 d2 r2 g2 B2 k3 B3 hv0
        generalize stN st goes true = st' at *
        generalize howN st how goes true = how' at *
        generalize retN st goes true = rr at *
        go_wp2_with fail
        refine (x_exit l3).mono ?_
        rintro e w4 ⟨rfl, b4⟩
        go_wp2_with fail
        obtain ⟨p1, p2, p3, hp⟩ : ∃ p1 p2 p3, xs who st' m how' = (p1, p2, p3) := ⟨_, _, _, rfl⟩
        have HX := Lib.hid hp
        rw [hp]
        clear hp
        dsimp only
        have r5 : R (w4.alloc (.cells #[.int .i64 p1, .int .i64 p2, .int .i64 p3] 77)) w1.heap.size who st' m how' := blk_alloc ((b4.block _ (blk_lt r3)).trans r3)
        have l5 : L (w4.alloc (.cells #[.int .i64 p1, .int .i64 p2, .int .i64 p3] 77)) w.heap.size who st' m how' := blk_alloc ((b4.block _ (blk_lt l3)).trans l3)
        have d5 : D (w4.alloc (.cells #[.int .i64 p1, .int .i64 p2, .int .i64 p3] 77)) (w1.heap.size + 1) m := blk_alloc ((b4.block _ (blk_lt d3)).trans d3)
        have x5 : (w4.alloc (.cells #[.int .i64 p1, .int .i64 p2, .int .i64 p3] 77)).heap[w4.heap.size]? = some (.cells #[.int .i64 p1, .int .i64 p2, .int .i64 p3] 77 (0, 0)) := heap_alloc_new w4 _
        have B5 : Below w.heap.size w (w4.alloc (.cells #[.int .i64 p1, .int .i64 p2, .int .i64 p3] 77)) := (B4.trans (b4.mono B4.size)).alloc (B4.trans (b4.mono B4.size)).size _
        clear r3 l3 d3 b4 B4
        generalize w4.alloc (.cells #[.int .i64 p1, .int .i64 p2, .int .i64 p3] 77) = w5 at *
        generalize w4.heap.size = xb at *
        have hq := q_exit r5
        rw [HX.out] at hq
        have HQ := Lib.hid hq
        clear hq
        refine HQ.out.mono ?_
        rintro e w6 ⟨rfl, b6⟩
        have x6 := (b6.block _ (blk_lt x5)).trans x5
        have r6 : R w6 w1.heap.size who st' m how' := (b6.block _ (blk_lt r5)).trans r5
        have l6 : L w6 w.heap.size who st' m how' := (b6.block _ (blk_lt l5)).trans l5
        have d6 : D w6 (w1.heap.size + 1) m := (b6.block _ (blk_lt d5)).trans d5
        have B6 := B5.trans (b6.mono B5.size)
        have hx6 := blk_lt x6
        have H6 := Lib.hid (And.intro r6 (And.intro l6 (And.intro d6 (And.intro B6 x6))))
        have z0 := cell_of_row w6 _ 0 _ _ (0, 0) x6
        have z1 := cell_of_row w6 _ 1 _ _ (0, 0) x6
        have z2 := cell_of_row w6 _ 2 _ _ (0, 0) x6
        simp at z0 z1 z2
        have hxn : ¬ w6.heap.size = xb := by omega
        have hxn2 : ¬ xb = w6.heap.size := by omega
        clear x5 x6 r5 r6 l5 l6 d5 d6 B5 B6 b6 HQ
        go_wp2_with fail
        have x7 := heap_alloc_new w6 (.cells #[.int .i64 p1, .int .i64 p2, .int .i64 p3] 77)
        have r7 : R (w6.alloc (.cells #[.int .i64 p1, .int .i64 p2, .int .i64 p3] 77)) w1.heap.size who st' m how' := blk_alloc H6.out.1
        have l7 : L (w6.alloc (.cells #[.int .i64 p1, .int .i64 p2, .int .i64 p3] 77)) w.heap.size who st' m how' := blk_alloc H6.out.2.1
        have d7 : D (w6.alloc (.cells #[.int .i64 p1, .int .i64 p2, .int .i64 p3] 77)) (w1.heap.size + 1) m := blk_alloc H6.out.2.2.1
        have B7 : Below w.heap.size w (w6.alloc (.cells #[.int .i64 p1, .int .i64 p2, .int .i64 p3] 77)) := H6.out.2.2.2.1.alloc H6.out.2.2.2.1.size _
        have y7 := blk_alloc (o' := .cells #[.int .i64 p1, .int .i64 p2, .int .i64 p3] 77) H6.out.2.2.2.2
        clear z0 z1 z2 hxn hxn2 hx6 H6
        generalize w6.alloc (.cells #[.int .i64 p1, .int .i64 p2, .int .i64 p3] 77) = w7 at *
        generalize w6.heap.size = fb at *
        have z0 := cell_of_row w7 _ 0 _ _ (0, 0) y7
        have z1 := cell_of_row w7 _ 1 _ _ (0, 0) y7
        have z2 := cell_of_row w7 _ 2 _ _ (0, 0) y7
        have t0 := cell_of_row w7 _ 0 _ _ (0, 0) x7
        have t1 := cell_of_row w7 _ 1 _ _ (0, 0) x7
        have t2 := cell_of_row w7 _ 2 _ _ (0, 0) x7
        have s0 := blk_cell d7
        obtain ⟨_, q1, q2, _, _⟩ := r7.facts
        simp at z0 z1 z2 t0 t1 t2
        have H7 := Lib.hid (And.intro r7 (And.intro l7 (And.intro d7 B7)))
        clear r7 l7 d7 B7 x7 y7
        go_quiet ((first
          | (go_at_call 42; exact Calls.quiet_of_same (state_some (who := who) (k := m) (how := how') H7.out.2.1))
          | (go_at_call 43; exact Calls.quiet_of_same (steps_some (who := who) (st := st') (how := how') H7.out.2.1))))
        go_wp2
        exact ⟨⟨k + 1, by go_num, by omega, st', m, how', by go_num, by omega, by push_cast; omega, hst', H7.out.2.1, H7.out.1, H7.out.2.2.1, below_drewN H7.out.2.2.2 _⟩, by simp [intOf]; omega⟩
      · have HKE := Lib.hid hke
        subst hcr
        clear hke
        have hs3 : ¬ st = 2 := by simpa using hs2
        go_wp2_with fail
        go_region_held3 (fun W => W.cell? ⟨bb, 0, none⟩ = some (.bool goes))
          (first | assumption | exact hv0 | exact c1_drew (by assumption) | exact blk_cell g2 | exact blk_cell (k3 _ _ en5 en5 g2))
          (first
            | (go_at_call 38; (refine (HX.out _ (by rfl)).mono ?_); rintro e w2 ⟨rfl, l2, d2, r2, g2, B2⟩)
            | (go_at_call 39; (refine (HQ.out _ r2).mono ?_); rintro e w3 ⟨rfl, r3, k3, B3⟩))
        have l3 : L w3 w.heap.size who (stN st goes false) (kN st m false) (howN st how goes false) := k3 _ _ en3.symm en3.symm l2
        have d3 : D w3 (w1.heap.size + 1) (kN st m false) := k3 _ _ en4.symm en4.symm d2
        have B4 : Below w.heap.size w w3 := (HV.out.2.2.2.2.2.drew).trans (B2.trans B3)
        have hst' : stN st goes false = 0 ∨ stN st goes false = 1 ∨ stN st goes false = 2 := by unfold stN; cases goes <;> simp [hs2]
        rw [← HK.out, HKE.out] at l3 d3 r3
        clear HK HX HQ HV l2 d2 r2 g2 B2 k3 B3 hv0
        generalize stN st goes false = st' at *
        generalize howN st how goes false = how' at *
        generalize retN st goes false = rr at *
        go_wp2_with fail
        refine (x_exit l3).mono ?_
        rintro e w4 ⟨rfl, b4⟩
        go_wp2_with fail
        obtain ⟨p1, p2, p3, hp⟩ : ∃ p1 p2 p3, xs who st' (m + 1) how' = (p1, p2, p3) := ⟨_, _, _, rfl⟩
        have HX := Lib.hid hp
        rw [hp]
        clear hp
        dsimp only
        have r5 : R (w4.alloc (.cells #[.int .i64 p1, .int .i64 p2, .int .i64 p3] 77)) w1.heap.size who st' (m + 1) how' := blk_alloc ((b4.block _ (blk_lt r3)).trans r3)
        have l5 : L (w4.alloc (.cells #[.int .i64 p1, .int .i64 p2, .int .i64 p3] 77)) w.heap.size who st' (m + 1) how' := blk_alloc ((b4.block _ (blk_lt l3)).trans l3)
        have d5 : D (w4.alloc (.cells #[.int .i64 p1, .int .i64 p2, .int .i64 p3] 77)) (w1.heap.size + 1) (m + 1) := blk_alloc ((b4.block _ (blk_lt d3)).trans d3)
        have x5 : (w4.alloc (.cells #[.int .i64 p1, .int .i64 p2, .int .i64 p3] 77)).heap[w4.heap.size]? = some (.cells #[.int .i64 p1, .int .i64 p2, .int .i64 p3] 77 (0, 0)) := heap_alloc_new w4 _
        have B5 : Below w.heap.size w (w4.alloc (.cells #[.int .i64 p1, .int .i64 p2, .int .i64 p3] 77)) := (B4.trans (b4.mono B4.size)).alloc (B4.trans (b4.mono B4.size)).size _
        clear r3 l3 d3 b4 B4
        generalize w4.alloc (.cells #[.int .i64 p1, .int .i64 p2, .int .i64 p3] 77) = w5 at *
        generalize w4.heap.size = xb at *
        have hq := q_exit r5
        rw [HX.out] at hq
        have HQ := Lib.hid hq
        clear hq
        refine HQ.out.mono ?_
        rintro e w6 ⟨rfl, b6⟩
        have x6 := (b6.block _ (blk_lt x5)).trans x5
        have r6 : R w6 w1.heap.size who st' (m + 1) how' := (b6.block _ (blk_lt r5)).trans r5
        have l6 : L w6 w.heap.size who st' (m + 1) how' := (b6.block _ (blk_lt l5)).trans l5
        have d6 : D w6 (w1.heap.size + 1) (m + 1) := (b6.block _ (blk_lt d5)).trans d5
        have B6 := B5.trans (b6.mono B5.size)
        have hx6 := blk_lt x6
        have H6 := Lib.hid (And.intro r6 (And.intro l6 (And.intro d6 (And.intro B6 x6))))
        have z0 := cell_of_row w6 _ 0 _ _ (0, 0) x6
        have z1 := cell_of_row w6 _ 1 _ _ (0, 0) x6
        have z2 := cell_of_row w6 _ 2 _ _ (0, 0) x6
        simp at z0 z1 z2
        have hxn : ¬ w6.heap.size = xb := by omega
        have hxn2 : ¬ xb = w6.heap.size := by omega
        clear x5 x6 r5 r6 l5 l6 d5 d6 B5 B6 b6 HQ
        go_wp2_with fail
        have x7 := heap_alloc_new w6 (.cells #[.int .i64 p1, .int .i64 p2, .int .i64 p3] 77)
        have r7 : R (w6.alloc (.cells #[.int .i64 p1, .int .i64 p2, .int .i64 p3] 77)) w1.heap.size who st' (m + 1) how' := blk_alloc H6.out.1
        have l7 : L (w6.alloc (.cells #[.int .i64 p1, .int .i64 p2, .int .i64 p3] 77)) w.heap.size who st' (m + 1) how' := blk_alloc H6.out.2.1
        have d7 : D (w6.alloc (.cells #[.int .i64 p1, .int .i64 p2, .int .i64 p3] 77)) (w1.heap.size + 1) (m + 1) := blk_alloc H6.out.2.2.1
        have B7 : Below w.heap.size w (w6.alloc (.cells #[.int .i64 p1, .int .i64 p2, .int .i64 p3] 77)) := H6.out.2.2.2.1.alloc H6.out.2.2.2.1.size _
        have y7 := blk_alloc (o' := .cells #[.int .i64 p1, .int .i64 p2, .int .i64 p3] 77) H6.out.2.2.2.2
        clear z0 z1 z2 hxn hxn2 hx6 H6
        generalize w6.alloc (.cells #[.int .i64 p1, .int .i64 p2, .int .i64 p3] 77) = w7 at *
        generalize w6.heap.size = fb at *
        have z0 := cell_of_row w7 _ 0 _ _ (0, 0) y7
        have z1 := cell_of_row w7 _ 1 _ _ (0, 0) y7
        have z2 := cell_of_row w7 _ 2 _ _ (0, 0) y7
        have t0 := cell_of_row w7 _ 0 _ _ (0, 0) x7
        have t1 := cell_of_row w7 _ 1 _ _ (0, 0) x7
        have t2 := cell_of_row w7 _ 2 _ _ (0, 0) x7
        have s0 := blk_cell d7
        obtain ⟨_, q1, q2, _, _⟩ := r7.facts
        simp at z0 z1 z2 t0 t1 t2
        have H7 := Lib.hid (And.intro r7 (And.intro l7 (And.intro d7 B7)))
        clear r7 l7 d7 B7 x7 y7
        go_quiet ((first
          | (go_at_call 42; exact Calls.quiet_of_same (state_some (who := who) (k := (m + 1)) (how := how') H7.out.2.1))
          | (go_at_call 43; exact Calls.quiet_of_same (steps_some (who := who) (st := st') (how := how') H7.out.2.1))))
        go_wp2
        exact ⟨⟨k + 1, by go_num, by omega, st', (m + 1), how', by go_num, by omega, by push_cast; omega, hst', H7.out.2.1, H7.out.1, H7.out.2.2.1, below_drewN H7.out.2.2.2 _⟩, by simp [intOf]; omega⟩
    · obtain rfl : k = len := by omega
      go_wp2_with fail
      refine (awake_any _).mono ?_
      rintro e w2 ⟨rfl, hb⟩
      go_wp2
      go_ret
      exact ⟨rfl, HH.out.2.2.2.2.trans (hb.mono HH.out.2.2.2.2.size)⟩
end Go.Proofs.Yticcobciafbleaa.lifePlays
