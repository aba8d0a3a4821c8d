/- 'QueuePlays' holds for every input, with no condition: what stands in line, behind whatever is put and got. -/
import Derived.Test.YticcobciafbleaaQueueRef
import Derived.Test.YticcobciafbleaaQueueAwake
import Derived.Deep.RegionHeld3
import Derived.Deep.CutBlock
import Derived.Deep.DeepCutAuto
namespace Go.Proofs.Yticcobciafbleaa.queuePlays
open Go.RowKit Go.Shelf Queue

def Ap (v u : Value) : Prop := v.ownBlock = none ∨ v.ownBlock ≠ u.ownBlock
theorem Ap.symm {v u : Value} (h : Ap v u) : Ap u v := by
  unfold Ap at *
  rcases h with h | h
  · rw [h]
    cases u.ownBlock with
    | none => exact .inl rfl
    | some k => exact .inr (by simp)
  · exact .inr (fun e => h e.symm)

/-- Both queues, with the same in them. -/
def S (w : World) (B g r : Nat) (room : Int) (xs ys : List Int) : Prop := ∃ v u, Qv TQ w B g room xs v ∧ Qv TR w B r room ys u ∧ Ap v u

theorem ne_gr {w : World} {B g r : Nat} {room room2 : Int} {xs ys : List Int} {v u : Value} (h : Qv TQ w B g room xs v) (h2 : Qv TR w B r room2 ys u) : g ≠ r := by
  rintro rfl
  have := h.2.1
  rw [h2.2.1] at this
  injection this with this
  injection this with _ ht
  exact absurd ht (by decide)
theorem lt_own {w : World} {B g : Nat} {T : TypeId} {room : Int} {xs : List Int} {v : Value} (h : Qv T w B g room xs v) : ∀ k, v.ownBlock = some k → k < w.heap.size := fun k hk => (h.2.2.lt k hk).2

theorem S.left {w w' : World} {B g r : Nat} {room : Int} {xs ys zs : List Int} {v u : Value} (h : Qv TQ w B g room xs v) (h2 : Qv TR w B r room ys u) (ha : Ap v u) {v' : Value} (_ : Qv TQ w' B g room zs v') (hf : Fr g v.ownBlock w w') (hn : New w v.ownBlock v'.ownBlock) : Qv TR w' B r room ys u ∧ Ap v' u :=
  ⟨h2.kept h (by decide) (by decide) (ne_gr h h2).symm ha.symm hf, Ap.symm (hn.keeps (lt_own h2) ha.symm)⟩
theorem S.right {w w' : World} {B g r : Nat} {room : Int} {xs ys zs : List Int} {v u : Value} (h : Qv TQ w B g room xs v) (h2 : Qv TR w B r room ys u) (ha : Ap v u) {u' : Value} (_ : Qv TR w' B r room zs u') (hf : Fr r u.ownBlock w w') (hn : New w u.ownBlock u'.ownBlock) : Qv TQ w' B g room xs v ∧ Ap v u' :=
  ⟨h.kept h2 (by decide) (by decide) (ne_gr h h2) ha hf, hn.keeps (lt_own h) ha⟩

theorem new_bad (room : Int) (h : room < 1 ∨ 1024 < room) (w : World) :
    Calls Try.prog 69 #[.int .i64 room] w fun e w' => e = .returned (.tuple #[.pointer none, .int .i64 1]) ∧ w' = w := by
  by_cases h0 : room < 1
  · go_enter Try.func69, Try.ntmps69
    go_wp2
    go_ret2
    exact ⟨rfl, rfl⟩
  · have h1 : 1024 < room := by omega
    go_enter Try.func69, Try.ntmps69
    go_wp2
    go_ret2
    exact ⟨rfl, rfl⟩

/-- A slice that reads as pairs of numbers. -/
def Rp (w : World) (A : Option Addr) (len : Nat) (zs : List (Int × Int)) : Prop :=
  0 < len → ∃ b off, A = some ⟨b, off, none⟩ ∧ b < w.heap.size ∧ ∀ i, i < len → w.cell? ⟨b, off + i * 2, none⟩ = some (.int .i64 (zs.getD i (0, 0)).1) ∧ w.cell? ⟨b, off + i * 2 + 1, none⟩ = some (.int .i64 (zs.getD i (0, 0)).2)

def pc (xs : List Int) (room : Int) : Int := if (xs.length : Int) < room then 0 else 6
def pl (xs : List Int) (room y : Int) : List Int := if (xs.length : Int) < room then xs ++ [y] else xs
theorem pl_len (xs : List Int) (room y : Int) (h : (xs.length : Int) ≤ room) : ((pl xs room y).length : Int) ≤ room := by
  unfold pl; split
  · simp; omega
  · exact h
theorem put_x {w : World} {B g : Nat} {room : Int} {xs : List Int} {v : Value} (h : Qv TQ w B g room xs v) (h0 : (xs.length : Int) ≤ room) (h1 : room ≤ 1024) (y : Int) :
    Calls Try.prog 70 #[.pointer (some ⟨g, 0, none⟩), .int .i64 y] w fun e w' => e = .returned (.int .i64 (pc xs room)) ∧ ∃ v', Qv TQ w' B g room (pl xs room y) v' ∧ Fr g v.ownBlock w w' ∧ New w v.ownBlock v'.ownBlock ∧ Below B w w' := by
  unfold pc pl
  by_cases hlt : (xs.length : Int) < room
  · rw [if_pos hlt, if_pos hlt]; exact put_v h hlt h1 y
  · rw [if_neg hlt, if_neg hlt]
    refine (put_full h.toQ (by omega) h1 y).mono fun e w' ⟨he, n, hw⟩ => ⟨he, v, ?_⟩
    subst hw
    exact ⟨h, Fr.refl g _ w, .inl rfl, below_drewN (Below.refl B w) n⟩
theorem ref_put_x {w : World} {B g : Nat} {room : Int} {xs : List Int} {v : Value} (h : Qv TR w B g room xs v) (h0 : (xs.length : Int) ≤ room) (h1 : room ≤ 1024) (y : Int) :
    Calls Try.prog 71 #[.pointer (some ⟨g, 0, none⟩), .int .i64 y] w fun e w' => e = .returned (.int .i64 (pc xs room)) ∧ ∃ v', Qv TR w' B g room (pl xs room y) v' ∧ Fr g v.ownBlock w w' ∧ New w v.ownBlock v'.ownBlock ∧ Below B w w' := by
  unfold pc pl
  by_cases hlt : (xs.length : Int) < room
  · rw [if_pos hlt, if_pos hlt]; exact ref_put h hlt h1 y
  · rw [if_neg hlt, if_neg hlt]
    refine (ref_put_full h (by omega) y).mono fun e w' ⟨he, n, hw⟩ => ⟨he, v, ?_⟩
    subst hw
    exact ⟨h, Fr.refl g _ w, .inl rfl, below_drewN (Below.refl B w) n⟩
theorem own_low {w : World} {base base' e n : Nat} {v : Value} {xs : List Value} (h : w.ownsRow base e 1 v n xs) (hb : base' ≤ base) : w.ownsRow base' e 1 v n xs := by
  refine ⟨h.1, ?_⟩
  rcases h.2 with h2 | ⟨g, cap, cur, hv, hg, hh, r⟩
  · exact Or.inl h2
  · exact Or.inr ⟨g, cap, cur, hv, by omega, hh, r⟩
theorem own_reads {w : World} {B n c : Nat} {A : Option Addr} {zs : List Int} (h : w.ownsRow B 3 1 (.slice A n c) n (ints zs)) (hz : zs.length = n) : 0 < n → ∃ b off, A = some ⟨b, off, none⟩ ∧ ∀ i, i < n → w.cell? ⟨b, off + i, none⟩ = some (.int .i64 (zs.getD i 0)) := fun hn => by
  obtain ⟨u, rfl, _⟩ := own_at h hn
  refine ⟨u, 0, rfl, fun i hi => ?_⟩
  rw [Nat.zero_add, h.cellAt i (by omega)]
  exact ints_at zs i (by omega)
theorem Qv.below {w w' : World} {T : TypeId} {B g : Nat} {room : Int} {xs : List Int} {v : Value} (h : Qv T w B g room xs v) (hb : Below w.heap.size w w') : Qv T w' B g room xs v := ⟨h.1, (hb.block _ (lt_blk h.2.1)).trans h.2.1, own_below h.2.2 hb⟩

set_option maxRecDepth 200000 in
set_option maxHeartbeats 4000000 in
theorem walk_few (room : Int) (hr0 : 1 ≤ room) (hr1 : room ≤ 1024) (A : Option Addr) (len cap : Nat) (zs : List (Int × Int)) (hl : len ≤ 100) (w : World) (hr : Rp w A len zs) : Calls Try.prog 12 #[.int .i64 room, .slice A len cap] w fun e w' => e = .returned (.bool true) ∧ Below w.heap.size w w' := by
  have HR := Lib.hid hr
  clear hr
  have hlen : (len : Int) ≤ 100 := by omega
  go_enter Try.func12, Try.ntmps12
  go_wp2_with fail
  refine (new_any room hr0 hr1 _).mono ?_
  rintro e w1 ⟨rfl, q1, b1, z1⟩
  go_wp2
  have s2 : S (w1.alloc (.cells #[.slice none 0 0, .int .i64 room] TR)) w.heap.size w.heap.size w1.heap.size room [] [] := by
    obtain ⟨_, A, c, hb, hown⟩ := q1
    exact ⟨_, _, ⟨Nat.le_refl _, (Below.heap_alloc _ _ _ (lt_blk hb)).trans hb, hown.alloc _⟩, ⟨Nat.le_of_lt z1, heap_alloc_new w1 _, World.ownsRow_nil _ _ _ _⟩, Ap.symm (.inl rfl)⟩
  have hB2 : Below w.heap.size w (w1.alloc (.cells #[.slice none 0 0, .int .i64 room] TR)) := b1.alloc (Nat.le_of_lt z1) _
  have H2 := Lib.hid (And.intro s2 hB2)
  clear q1 b1 s2 hB2
  go_loopw [8] (fun i wr => ∃ k : Nat, i = .int .i64 (k : Int) ∧ k ≤ len ∧ ∃ xs : List Int, (xs.length : Int) ≤ room ∧ S wr w.heap.size w.heap.size w1.heap.size room xs xs ∧ Below w.heap.size w wr)
    (fun i _ => len - (intOf i).toNat)
  case atStart => exact ⟨0, rfl, Nat.zero_le _, [], by simp; omega, H2.out⟩
  case round =>
    obtain ⟨k, rfl, hk, xs, hxl, hS, hB⟩ := hrel
    have HH := Lib.hid (And.intro hxl (And.intro hS hB))
    by_cases hlt : k < len
    · obtain ⟨b, off, rfl, hbl, hc⟩ := HR.out (by omega)
      obtain ⟨ca, cb⟩ := hc k hlt
      have ca := (hB.cell (p := ⟨b, off + k * 2, none⟩) hbl).trans ca
      have cb := (hB.cell (p := ⟨b, off + k * 2 + 1, none⟩) hbl).trans cb
      have hk0 : (0 : Int) ≤ (k : Int) := by omega
      have hk1 : (k : Int) < (len : Int) := by omega
      generalize (zs.getD k (0, 0)).1 = za at ca
      generalize (zs.getD k (0, 0)).2 = zb at cb
      clear hS hB hc hxl
      go_upto_block 2 with fail
      generalize bits .and .i64 za 7 = t
      go_cut [] (fun wx => ∃ ys : List Int, (ys.length : Int) ≤ room ∧ S wx w.heap.size w.heap.size w1.heap.size room ys ys ∧ Below w.heap.size w wx)
      case first =>
        obtain ⟨hxl, ⟨v, u, qv, qu, hap⟩, hB⟩ := HH.out
        obtain ⟨Av, cv, rfl⟩ := own_form qv.2.2
        obtain ⟨Au, cu, rfl⟩ := own_form qu.2.2
        have hgr := ne_gr qv qu
        have HV := Lib.hid (And.intro hxl (And.intro qv (And.intro qu (And.intro hap hB))))
        clear hxl qv qu hap hB
        by_cases h4 : t = 0 ∨ t = 1 ∨ t = 2 ∨ t = 3
        · have HX : Hid (∀ W : World, W.heap = wr.heap → Below w.heap.size wr W → Calls Try.prog 70 #[.pointer (some ⟨w.heap.size, 0, none⟩), .int .i64 zb] W fun e w' => e = .returned (.int .i64 (pc xs room)) ∧ w'.cell? ⟨b, off + k * 2 + 1, none⟩ = some (.int .i64 zb) ∧ (∃ v' u', Qv TQ w' w.heap.size w.heap.size room (pl xs room zb) v' ∧ Qv TR w' w.heap.size w1.heap.size room xs u' ∧ Ap v' u') ∧ Below w.heap.size wr w') := Lib.hid fun W hW hBW => by
            obtain ⟨hxl, qv, qu, hap, hB⟩ := HV.out
            unfold Qv World.ownsRow at qv qu
            rw [← hW] at qv qu
            have qv : Qv TQ W w.heap.size w.heap.size room xs _ := qv
            have qu : Qv TR W w.heap.size w1.heap.size room xs _ := qu
            refine (put_x qv hxl hr1 zb).mono fun e w' ⟨he, v', q1, f1, n1, B1⟩ => ?_
            obtain ⟨q2, a2⟩ := S.left qv qu hap q1 f1 n1
            have hBt := hBW.trans B1
            exact ⟨he, (hBt.cell (p := ⟨b, off + k * 2 + 1, none⟩) hbl).trans cb, ⟨_, _, q1, q2, a2⟩, hBt⟩
          have HY : Hid (∀ W : World, (∃ v' u', Qv TQ W w.heap.size w.heap.size room (pl xs room zb) v' ∧ Qv TR W w.heap.size w1.heap.size room xs u' ∧ Ap v' u') → Calls Try.prog 71 #[.pointer (some ⟨w1.heap.size, 0, none⟩), .int .i64 zb] W fun e w' => e = .returned (.int .i64 (pc xs room)) ∧ S w' w.heap.size w.heap.size w1.heap.size room (pl xs room zb) (pl xs room zb) ∧ Below w.heap.size W w') := Lib.hid fun W ⟨v', u', q1, q2, a⟩ => by
            refine (ref_put_x q2 HV.out.1 hr1 zb).mono fun e w' ⟨he, u2, q3, f3, n3, B3⟩ => ?_
            obtain ⟨q4, a4⟩ := S.right q1 q2 a q3 f3 n3
            exact ⟨he, ⟨_, _, q4, q3, a4⟩, B3⟩
          rcases h4 with rfl | rfl | rfl | rfl
          all_goals
            go_wp2_with fail
            go_region_held3 (fun W => W.cell? ⟨b, off + k * 2 + 1, none⟩ = some (.int .i64 zb))
              (first | assumption | exact cb | exact c2 | exact (B3.cell (p := ⟨b, off + k * 2 + 1, none⟩) hbl).trans c2)
              (first
                | (go_at_call 70; (refine (HX.out _ (by rfl) (by first | exact Below.refl _ _ | exact (Below.refl _ _).drew | exact below_drewN (Below.refl _ _) _)).mono ?_); rintro e w2 ⟨rfl, c2, s2, B2⟩)
                | (go_at_call 71; (refine (HY.out _ (by exact s2)).mono ?_); rintro e w3 ⟨rfl, s3, B3⟩))
            go_wp2
            go_meet
            exact ⟨pl xs room zb, pl_len xs room zb HV.out.1, s3, HV.out.2.2.2.2.trans (B2.trans B3)⟩
        · have e0 : (t == 0) = false := by simp; omega
          have e1 : (t == 1) = false := by simp; omega
          have e2 : (t == 2) = false := by simp; omega
          have e3 : (t == 3) = false := by simp; omega
          clear ca cb
          by_cases h7 : t = 7
          · subst h7
            have HC := Lib.hid (clear_v HV.out.2.1)
            go_wp2_with fail
            refine HC.out.mono ?_
            rintro e w2 ⟨rfl, v2, q1, f1, n1, B1⟩
            obtain ⟨hxl, qv, qu, hap, hB⟩ := HV.out
            obtain ⟨q2, a2⟩ := S.left qv qu hap q1 f1 n1
            have d0 := cell_blk q2.2.1 0
            have g0 := free_blk q2.2.1 0
            simp at d0
            have q3 : Qv TR (w2.setCell ⟨w1.heap.size, 0, none⟩ (.slice none 0 0)) w.heap.size w1.heap.size room [] (.slice none 0 0) := ⟨q2.1, set0_blk q2.2.1, World.ownsRow_nil _ _ _ _⟩
            obtain ⟨q4, a4⟩ := S.right q1 q2 a2 q3 ((Fr.refl _ _ _).set _) (.inr (.inl rfl))
            have hB3 := (hB.trans B1).setCell (p := ⟨w1.heap.size, 0, none⟩) q2.1 (.slice none 0 0)
            have H3 := Lib.hid (And.intro q4 (And.intro q3 (And.intro a4 hB3)))
            clear qv qu hap hB q1 f1 n1 B1 q2 a2 q3 q4 a4 hB3 HC hxl
            go_wp2
            go_meet
            exact ⟨[], by simp; omega, ⟨_, _, H3.out.1, H3.out.2.1, H3.out.2.2.1⟩, H3.out.2.2.2⟩
          · have e7 : (t == 7) = false := by simpa using h7
            rcases xs with _ | ⟨x, xs⟩
            · have HP := Lib.hid (peek_none HV.out.2.1.toQ)
              have HG := Lib.hid (get_none HV.out.2.1.toQ)
              have HF := Lib.hid (ref_get_none HV.out.2.2.1)
              go_wp2_with fail
              refine HP.out.mono ?_
              rintro e w2 ⟨rfl, rfl⟩
              go_wp2_with fail
              refine HG.out.mono ?_
              rintro e w2 ⟨rfl, rfl⟩
              go_wp2_with fail
              refine HF.out.mono ?_
              rintro e w2 ⟨rfl, rfl⟩
              go_wp2
              go_meet
              obtain ⟨hxl, qv, qu, hap, hB⟩ := HV.out
              exact ⟨[], hxl, ⟨_, _, qv, qu, hap⟩, hB⟩
            · have HP := Lib.hid (peek_any HV.out.2.1.toQ)
              have HG := Lib.hid (get_v HV.out.2.1)
              go_wp2_with fail
              refine HP.out.mono ?_
              rintro e w2 ⟨rfl, rfl⟩
              go_wp2_with fail
              refine HG.out.mono ?_
              rintro e w2 ⟨rfl, v2, q1, f1, n1, B1⟩
              obtain ⟨hxl, qv, qu, hap, hB⟩ := HV.out
              obtain ⟨q2, a2⟩ := S.left qv qu hap q1 f1 n1
              have hxs : xs.length ≤ 1024 := by simp at hxl; omega
              have HF := Lib.hid (ref_get q2 hxs)
              have H2' := Lib.hid (And.intro q1 (And.intro q2 (And.intro a2 (hB.trans B1))))
              clear qv qu hap hB q1 f1 n1 B1 q2 a2 hxl
              go_wp2_with fail
              refine HF.out.mono ?_
              rintro e w3 ⟨rfl, u3, q3, f3, n3, B3⟩
              obtain ⟨q1, q2, a2, hB⟩ := H2'.out
              obtain ⟨q4, a4⟩ := S.right q1 q2 a2 q3 f3 n3
              have H3 := Lib.hid (And.intro q4 (And.intro q3 (And.intro a4 (hB.trans B3))))
              clear q1 q2 a2 hB q3 f3 n3 B3 q4 a4
              go_wp2
              go_meet
              have hxl := HV.out.1
              exact ⟨xs, by simp at hxl; omega, ⟨_, _, H3.out.1, H3.out.2.1, H3.out.2.2.1⟩, H3.out.2.2.2⟩
      case rest =>
        obtain ⟨ys, hyl, ⟨v, u, qv, qu, hap⟩, hB⟩ := hcut
        obtain ⟨Au, cu, rfl⟩ := own_form qu.2.2
        have hc0 := cell_blk qu.2.1 0
        simp at hc0
        have hy : ys.length ≤ 1024 := by omega
        have hy0 : (0 : Int) ≤ (ys.length : Int) := by omega
        have hwr : IntKind.i64.wrap (room - (ys.length : Int)) = room - (ys.length : Int) := IntWalk.i64_in _ ⟨by omega, by omega⟩
        have HV := Lib.hid (And.intro qv (And.intro qu (And.intro hap hB)))
        clear qv qu hap hB
        have HA : Hid (∀ W : World, W.heap = wc.heap → Below w.heap.size wc W → Calls Try.prog 78 #[.pointer (some ⟨w.heap.size, 0, none⟩)] W fun e w' => ∃ A c, e = .returned (.slice A ys.length c) ∧ w'.cell? ⟨w1.heap.size, 0, none⟩ = some (.slice Au ys.length cu) ∧ (w'.ownsRow w.heap.size 3 1 (.slice A ys.length c) ys.length (ints ys) ∧ w'.ownsRow w.heap.size 3 1 (.slice Au ys.length cu) ys.length (ints ys) ∧ S w' w.heap.size w.heap.size w1.heap.size room ys ys) ∧ Below w.heap.size wc w') := Lib.hid fun W hW hBW => by
          obtain ⟨qv, qu, hap, hB⟩ := HV.out
          unfold Qv World.ownsRow at qv qu
          rw [← hW] at qv qu
          have qv : Qv TQ W w.heap.size w.heap.size room ys _ := qv
          have qu : Qv TR W w.heap.size w1.heap.size room ys _ := qu
          refine (all_v qv hy).mono fun e w' ⟨va, he, oa, ba⟩ => ?_
          obtain ⟨Aa, ca, rfl⟩ := own_form oa
          have qv2 := Qv.below qv ba
          have qu2 := Qv.below qu ba
          have hlw : w.heap.size ≤ W.heap.size := Nat.le_of_lt (Nat.lt_of_le_of_lt qv.1 (lt_blk qv.2.1))
          have hcc := cell_blk qu2.2.1 0
          simp at hcc
          exact ⟨_, _, he, hcc, ⟨own_low oa hlw, qu2.2.2, ⟨_, _, qv2, qu2, hap⟩⟩, hBW.trans (ba.mono hlw)⟩
        have HS : Hid (∀ (W : World) (A : Option Addr) (c : Nat), (W.ownsRow w.heap.size 3 1 (.slice A ys.length c) ys.length (ints ys) ∧ W.ownsRow w.heap.size 3 1 (.slice Au ys.length cu) ys.length (ints ys) ∧ S W w.heap.size w.heap.size w1.heap.size room ys ys) → W.cell? ⟨w1.heap.size, 0, none⟩ = some (.slice Au ys.length cu) → Calls Try.prog 56 #[.slice A ys.length c, .slice Au ys.length cu] W fun e w' => e = .returned (.bool true) ∧ w'.cell? ⟨w1.heap.size, 0, none⟩ = some (.slice Au ys.length cu) ∧ S w' w.heap.size w.heap.size w1.heap.size room ys ys ∧ Below w.heap.size W w') := Lib.hid fun W A c ⟨o1, o2, s⟩ hcw => by
          refine (same_eq A Au ys.length c cu ys (by omega) W (own_reads o1 rfl) (own_reads o2 rfl)).mono fun e w' ⟨he, q, hw⟩ => ?_
          subst hw
          obtain ⟨v, u, s1, s2, s3⟩ := s
          exact ⟨he, hcw, ⟨v, u, s1, s2, s3⟩, below_drewN (Below.refl _ _) q⟩
        go_wp2_with fail
        go_region_held3 (fun W => W.cell? ⟨w1.heap.size, 0, none⟩ = some (.slice Au ys.length cu))
          (first | assumption | exact hc0 | exact c2 | exact c3)
          (first
            | (go_at_call 76; (refine (len_any (by exact HV.out.1.toQ)).mono ?_); rintro e w2 ⟨rfl, rfl⟩)
            | (go_at_call 77; (refine (room_any (by exact HV.out.1.toQ) hyl hr1).mono ?_); rintro e w2 ⟨rfl, n2, rfl⟩)
            | (go_at_call 78; (refine (HA.out _ (by rfl) (by first | exact Below.refl _ _ | exact (Below.refl _ _).drew | exact below_drewN (Below.refl _ _) _)).mono ?_); rintro e w2 ⟨Aa, ca, rfl, c2, s2, B2⟩)
            | (go_at_call 56; (refine (HS.out _ _ _ (by exact s2) (by exact c2)).mono ?_); rintro e w3 ⟨rfl, c3, s3, B3⟩))
        go_wp2
        exact ⟨⟨k + 1, by go_num, by omega, ys, hyl, s3, HV.out.2.2.2.trans (B2.trans B3)⟩, by simp [intOf]; omega⟩
    · obtain rfl : k = len := by omega
      go_wp2_with fail
      refine (awake_any _).mono ?_
      rintro e w2 ⟨rfl, hb⟩
      go_wp2
      go_ret
      exact ⟨rfl, HH.out.2.2.trans (hb.mono HH.out.2.2.size)⟩
end Go.Proofs.Yticcobciafbleaa.queuePlays
