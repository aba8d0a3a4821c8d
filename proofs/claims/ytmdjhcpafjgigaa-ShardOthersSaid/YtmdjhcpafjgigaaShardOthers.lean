/- 'ShardOthers': an act changes the entry of its key alone. -/
import Derived.Test.YtmdjhcpafjgigaaSnap
import Derived.Test.YtmdjhcpafjgigaaShardGet
import Derived.Test.YtmdjhcpafjgigaaShardDoes
import Derived.Test.YtmdjhcpafjgigaaEnSame
import Derived.Test.YtmdjhcpafjgigaaActsOpen
namespace Go.Proofs.Ytmdjhcpafjgigaa.Mk
open Go Go.RowKit Go.MuLone

theorem eql_key (a b : K3) (W : World) : (binOp .eql 35 a.val b.val).run Try.prog W = .ok (.bool (decide (a = b))) W := by
  have h := eq_key a b W
  unfold K3.val at h ⊢
  simp only [binOp, Sem.run_bind, h, Result.andThen_ok]
  rfl
/-- an act's kind, as an operation -/
def kindOf (m : Int) : Int := if m = 0 then 5 else m
set_option maxRecDepth 20000 in
theorem kind_any (kd who : Int) (k : K3) (h0 : 0 ≤ kd) (W : World) : Calls Try.prog 9 #[actV kd who k] W fun e w' => e = .returned (.int .i64 (kindOf (kd.tmod 5))) ∧ Below W.heap.size W w' := by
  have bA := (Below.refl W.heap.size W).alloc (Nat.le_refl _) (.cells #[.int .u8 kd, .int .i64 who, .int .i64 k.c, .int .i64 k.f, .int .u64 k.s] 37)
  have hm : kd.tmod 5 = 0 ∨ kd.tmod 5 = 1 ∨ kd.tmod 5 = 2 ∨ kd.tmod 5 = 3 ∨ kd.tmod 5 = 4 := by
    rw [Int.tmod_eq_emod_of_nonneg h0]; omega
  have hw : (IntKind.u8).wrap (kd.tmod 5) = kd.tmod 5 := by rcases hm with h | h | h | h | h <;> rw [h] <;> rfl
  have h50 : ¬ (5 : Int) = 0 := by decide
  generalize hmm : kd.tmod 5 = m at hm hw
  unfold actV
  rcases hm with h | h | h | h | h <;> subst h
  all_goals
    go_enter Try.func9, Try.ntmps9
    go_wp2
    go_ret
    exact ⟨rfl, bA⟩
theorem key_eq {a b : K3} (h1 : ltK a b = false) (h2 : ltK b a = false) : a = b := by
  obtain ⟨c, f, s⟩ := a
  obtain ⟨c', f', s'⟩ := b
  simp only [ltK, decide_eq_false_iff_not] at h1 h2
  simp only [K3.mk.injEq]
  omega
/-- two that are sorted and have the same entries -/
theorem sorted_eq {l : List Ms} {clock : Nat} (hok : MOk l clock) {a b : List En} (ha : a.Perm (ens l)) (hb : b.Perm (ens l)) (pa : a.Pairwise fun x y => ltE y x = false) (pb : b.Pairwise fun x y => ltE y x = false) : a = b := by
  refine List.Perm.eq_of_pairwise (le := fun x y => ltE y x = false) (fun x y hx hy h1 h2 => ?_) pa pb (ha.trans hb.symm)
  obtain ⟨p, hp, rfl⟩ := List.mem_map.1 (ha.subset hx)
  obtain ⟨q, hq, rfl⟩ := List.mem_map.1 (hb.subset hy)
  have hk : p.2.1.k = q.2.1.k := key_eq h2 h1
  have h3 := ent_of_mem hok.keys p hp
  have h4 := ent_of_mem hok.keys q hq
  rw [← hok.own p hp] at h3
  rw [← hok.own q hq, ← hk, h3] at h4
  injection h4
theorem ent_of_en {l : List Ms} {clock : Nat} (hok : MOk l clock) {e : En} (he : e ∈ ens l) : entM e.k l = some e := by
  obtain ⟨p, hp, rfl⟩ := List.mem_map.1 he
  have h3 := ent_of_mem hok.keys p hp
  rwa [← hok.own p hp] at h3
/-- the law's world -/
structure OW (W V : World) (S B : Nat) (most : Int) (l : List Ms) (clock : Nat) : Prop where
  sh : ShIs V S B most l clock 0
  ok : MOk l clock
  few : (l.length : Int) ≤ most
  bel : Below W.heap.size W V
  lo : W.heap.size ≤ S ∧ W.heap.size ≤ B
theorem OW.call {W V V' : World} {S B : Nat} {most : Int} {l l' : List Ms} {clock clock' : Nat} (h : OW W V S B most l clock) (hs : ShIs V' S B most l' clock' 0) (hO : Only2 S B V V') (hok : MOk l' clock') (hf : (l'.length : Int) ≤ most) : OW W V' S B most l' clock' :=
  ⟨hs, hok, hf, Only2.below h.bel hO h.lo.1 h.lo.2 h.bel.size, h.lo⟩
theorem OW.below {W V V' : World} {S B : Nat} {most : Int} {l : List Ms} {clock : Nat} (h : OW W V S B most l clock) (hb : Below V.heap.size V V') : OW W V' S B most l clock :=
  ⟨h.sh.below hb, h.ok, h.few, h.bel.trans (hb.mono h.bel.size), h.lo⟩
set_option maxRecDepth 20000 in
set_option maxHeartbeats 40000000 in
theorem law_others (rm : Int) (hr0 : 0 ≤ rm) (hr1 : rm ≤ 255) (A : Option Addr) (len cap : Nat) (qs : List A5) (W : World) (hq : RdT W A len qs) (hl : len ≤ 100) :
    Calls Try.prog 4 #[.int .u8 rm, .slice A len cap] W fun e w' => e = .returned (.bool true) ∧ Below W.heap.size W w' := by
  obtain ⟨mo, hmo⟩ : ∃ mo : Int, mo = 1 + rm % 64 := ⟨_, rfl⟩
  have hm64 : 0 ≤ rm % 64 ∧ rm % 64 < 64 := by omega
  have hm1 : 1 ≤ mo ∧ mo ≤ 64 := by omega
  have h640 : ¬ (64 : Int) = 0 := by decide
  have HQ := Lib.hid hq
  clear hq
  have HN := Lib.hid (snew_ok mo W hm1.1 hm1.2)
  go_enter Try.func4, Try.ntmps4
  go_wp2_with fail
  rw [← hmo]
  refine HN.out.mono ?_
  rintro _ w1 ⟨⟨S, B, rfl, h1, hS, hB⟩, b1⟩
  have H1 : Hid (OW W w1 S B mo [] 0) := ⟨h1, MOk.nil, by simp; omega, b1, hS, hB⟩
  clear HN h1 hS hB b1 hm64 h640 hmo
  go_wp2
  go_loopw [8] (fun vi wr => ∃ (i : Nat) (l : List Ms) (clock : Nat), vi = .int .i64 (i : Int) ∧ i ≤ len ∧ OW W wr S B mo l clock) (fun vi _ => len - (intOf vi).toNat)
  case atStart => exact ⟨0, [], 0, rfl, Nat.zero_le _, H1.out⟩
  case round =>
    clear H1
    obtain ⟨i, l, clock, rfl, hi, how⟩ := hrel
    have HO := Lib.hid how
    clear how
    by_cases hlt : i < len
    · have hi0 : ¬ ((i : Int) < 0) := by omega
      have hi1 : (i : Int) < (len : Int) := by omega
      obtain ⟨b, off, hA, hbl, hcs⟩ := HQ.out.cells (by omega)
      have ha := hcs i (by have := HQ.out.many; omega)
      have hkd := HQ.out.kinds _ (List.getElem_mem (h := (by have := HQ.out.many; omega : i < qs.length)))
      generalize qs[i]'(by have := HQ.out.many; omega) = q at ha hkd
      subst hA
      clear hcs
      go_wp2_with fail
      refine (snap_any S B mo l clock wr HO.out.sh HO.out.ok (by have := HO.out.few; omega)).mono ?_
      rintro _ w2 ⟨v1, ls1, rfl, hrw1, hp1, hpw1, hs2, hO2⟩
      have how2 := HO.out.call hs2 hO2 HO.out.ok HO.out.few
      have HSB : Hid (S < wr.heap.size ∧ B < wr.heap.size) := ⟨HO.out.sh.ltS, HO.out.sh.ltB⟩
      have HOK := Lib.hid HO.out.ok
      have HF0 := Lib.hid HO.out.few
      have HP1 := Lib.hid hp1
      have HPW1 := Lib.hid hpw1
      have HR1 := Lib.hid hrw1
      obtain ⟨A1, cc1, hv1⟩ := hrw1.form
      subst hv1
      clear hp1 hpw1 hrw1
      obtain ⟨kd, who, ⟨qc, qf, qs'⟩⟩ := q
      dsimp only at hkd
      have ha2 := ha.keep (how2.bel.block b hbl)
      obtain ⟨a20, a21, a22, a23, a24⟩ := ha2
      dsimp only at a20 a21 a22 a23 a24
      have hd := does_any S B mo kd who l clock ⟨qc, qf, qs'⟩ hkd.1 w2 hs2
      have hown := act_own (m := kd.tmod 5) (room := mo) (who := who) (k := ⟨qc, qf, qs'⟩) how2.ok
      have hoth := fun k' h => act_other (m := kd.tmod 5) (room := mo) (who := who) (k := ⟨qc, qf, qs'⟩) (l := l) (clock := clock) (k' := k') h
      have hnone := act_none (m := kd.tmod 5) (room := mo) (who := who) (k := ⟨qc, qf, qs'⟩) (l := l) (clock := clock)
      have hok' := act_ok (m := kd.tmod 5) (room := mo) (who := who) (k := ⟨qc, qf, qs'⟩) how2.ok
      have hlen' := act_len (m := kd.tmod 5) (who := who) (k := ⟨qc, qf, qs'⟩) (clock := clock) how2.few
      have HKD := Lib.hid (fun V => kind_any kd who ⟨qc, qf, qs'⟩ hkd.1 V)
      have hm5 : Hid (kd.tmod 5 = 0 ∨ kd.tmod 5 = 1 ∨ kd.tmod 5 = 2 ∨ kd.tmod 5 = 3 ∨ kd.tmod 5 = 4) := by show _ ∨ _; rw [Int.tmod_eq_emod_of_nonneg hkd.1]; omega
      obtain ⟨mk, hmk⟩ : ∃ m, m = kd.tmod 5 := ⟨_, rfl⟩
      rw [← hmk] at hd hown hoth hnone hok' hlen' HKD hm5
      generalize actRes mk mo who ⟨qc, qf, qs'⟩ l clock = R at hd hown hoth hnone hok' hlen'
      obtain ⟨r, l', c'⟩ := R
      dsimp only at hd hown hoth hnone hok' hlen'
      unfold actV at hd HKD
      dsimp only at hd HKD
      have HD := Lib.hid hd
      have HOWN := Lib.hid hown
      have HOTH := Lib.hid hoth
      have HNONE := Lib.hid hnone
      have HL' := Lib.hid (And.intro hok' hlen')
      have HW2 := Lib.hid how2
      clear hd hown hoth hnone hok' hlen' how2 hmk HO hs2 hkd
      go_wp2_with fail
      refine HD.out.mono ?_
      rintro _ w3 ⟨rfl, hs3, hO3⟩
      have HW3 := Lib.hid (HW2.out.call hs3 hO3 HL'.out.1 HL'.out.2)
      have HR3 := Lib.hid (HR1.out.only hO3 HSB.out.1 HSB.out.2)
      clear hO3 a20 a21 a22 a23 a24 HD HR1
      go_wp2_with fail
      refine (snap_any S B mo l' c' w3 hs3 HL'.out.1 (by have := HL'.out.2; omega)).mono ?_
      rintro _ w4 ⟨v2, ls2, rfl, hrw2, hp2, hpw2, hs4, hO4⟩
      have how4 := HW3.out.call hs4 hO4 HL'.out.1 HL'.out.2
      have hrow4 := HR3.out.only hO4 HSB.out.1 HSB.out.2
      have hls2 : ¬ (mo < (ls2.length : Int)) := by
        have h1 := hp2.length_eq
        have h2 := HL'.out.2
        simp only [ens, List.length_map] at h1
        omega
      obtain ⟨A2, cc2, hv2⟩ := hrw2.form
      subst hv2
      have HX := Lib.hid (And.intro how4 hrow4)
      have HR2 := Lib.hid (And.intro hrw2 (And.intro hp2 hpw2))
      have ha4 := ha.keep (how4.bel.block b hbl)
      obtain ⟨a40, a41, a42, a43, a44⟩ := ha4
      dsimp only at a40 a41 a42 a43 a44
      obtain ⟨n1, hn1⟩ : ∃ n, n = ls1.length := ⟨_, rfl⟩
      have HN1 : Hid (n1 = ls1.length) := hn1
      have hn64 : n1 ≤ 64 := by
        have h1 := HP1.out.length_eq
        have h2 := HX.out.1.few
        have h3 := HF0.out
        simp only [ens, List.length_map] at h1
        omega
      rw [← hn1] at HX
      clear HW3 HR3 hs3 hs4 hO4 hp2 hpw2 hrw2 how4 hrow4 hO2 HW2
      by_cases hr : r = 0
      · subst hr
        rw [← hn1]
        clear hn1
        obtain ⟨n2, hn2⟩ : ∃ n, n = ls2.length := ⟨_, rfl⟩
        rw [← hn2] at hls2 ⊢
        clear hn2
        obtain ⟨gone, hgone⟩ : ∃ g : Bool, g = decide (mk ≠ 1 ∧ mk ≠ 2 ∧ mk ≠ 3 ∧ mk ≠ 4) := ⟨_, rfl⟩
        have hkk : (kindOf mk == 5) = gone := by
          have := hm5.out
          rw [hgone]; unfold kindOf
          rcases this with h | h | h | h | h <;> subst h <;> rfl
        rw [← hgone] at HOWN
        simp only [decide_true, Bool.true_and] at HOWN
        generalize kindOf mk = kk at HKD hkk
        clear hgone HNONE HR2 HPW1
        go_wp2_with (refine (HKD.out _).mono ?_; rintro _ w5 ⟨rfl, b5⟩)
        have HX2 := Lib.hid (And.intro (HX.out.1.below b5) (HX.out.2.below b5))
        clear HX b5 HKD hkk a40 a41 a42 a43 a44 hls2
        have HX := HX2
        clear HX2
        have hgg : ((!gone) == gone) = false := by cases gone <;> rfl
        go_loopw [13] (fun vk wr2 => ∃ k : Nat, vk = .int .i64 (k : Int) ∧ k ≤ n1 ∧ OW W wr2 S B mo l' c' ∧ RowE wr.heap.size wr2 (.slice A1 n1 cc1) ls1) (fun vk _ => n1 - (intOf vk).toNat)
        case atStart => exact ⟨0, rfl, Nat.zero_le _, HX.out.1, HX.out.2⟩
        case round =>
          clear HX
          rename World => wq
          obtain ⟨k, rfl, hk, how, hrow⟩ := hrel
          have HX := Lib.hid (And.intro how hrow)
          clear how hrow
          by_cases hlk : k < n1
          · have hk1 : (k : Int) < (n1 : Int) := by omega
            have hk0 : ¬ ((k : Int) < 0) := by omega
            obtain ⟨g, cg, hv, hg1, hg2, he⟩ := HX.out.2.at k (by have := HN1.out; omega)
            have hmem := List.getElem_mem (h := (by have := HN1.out; omega : k < ls1.length))
            generalize ls1[k]'(by have := HN1.out; omega) = e at he hmem
            injection hv with hv hv1 hv2
            clear hv1
            subst hv hv2
            have hent : entM e.k l = some e := ent_of_en HOK.out (HP1.out.subset hmem)
            have HE := Lib.hid he
            obtain ⟨e0, e1, e2, -, -⟩ := he
            clear hmem
            by_cases hke : e.k = (⟨qc, qf, qs'⟩ : K3)
            · skip
              have hx : (entM e.k l').isSome = !gone := by
                rw [hke] at hent ⊢
                exact HOWN.out (by rw [hent]; exact fun h => by cases h)
              have hg := sget_full S B mo l' c' e.k wq HX.out.1.sh
              rw [hx] at hg
              generalize (entM e.k l').getD en0 = x at hg
              have HK := Lib.hid hke
              clear hx hent hke
              unfold K3.val at hg
              have HG := Lib.hid hg
              clear hg
              go_wp2_with fail
              refine HG.out.mono ?_
              rintro _ w5 ⟨rfl, hs5, hO5⟩
              have how5 := HX.out.1.call hs5 hO5 HX.out.1.ok HX.out.1.few
              have hrow5 := HX.out.2.only hO5 HSB.out.1 HSB.out.2
              have he5 : EAt w5 g k e := by
                have hk := hO5.block g hg2 (by have := HSB.out; omega) (by have := HSB.out; omega)
                have kk : ∀ o, w5.cell? ⟨g, o, none⟩ = wq.cell? ⟨g, o, none⟩ := fun o => World.cell?_of_block (a := ⟨g, o, none⟩) hk
                exact ⟨(kk _).trans HE.out.c, (kk _).trans HE.out.f, (kk _).trans HE.out.s, (kk _).trans HE.out.st, (kk _).trans HE.out.ow⟩
              clear HG hs5 hO5 e0 e1 e2 HE hg2
              obtain ⟨⟨xc, xf, xs⟩, xst, xow⟩ := x
              unfold En.cells
              dsimp only
              have hb6 := (Below.refl w5.heap.size w5).alloc (Nat.le_refl _) (.cells #[.int .i64 xc, .int .i64 xf, .int .u64 xs, .int .i64 xst, .int .i64 xow] TEn)
              have hx6 := heap_alloc_new w5 (.cells #[.int .i64 xc, .int .i64 xf, .int .u64 xs, .int .i64 xst, .int .i64 xow] TEn)
              go_upto_region 20 with fail
              obtain ⟨w6, hw6⟩ : ∃ V, V = w5.alloc (.cells #[.int .i64 xc, .int .i64 xf, .int .u64 xs, .int .i64 xst, .int .i64 xow] TEn) := ⟨_, rfl⟩
              rw [← hw6] at hb6 hx6 ⊢
              have how6 := how5.below hb6
              have he6 := he5.below hb6
              have hrow6 := hrow5.below hb6
              have hA6 := ha.keep (how6.bel.block b hbl)
              have x0 := cell_of_row w6 w5.heap.size 0 _ _ (0, 0) hx6
              have x1 := cell_of_row w6 w5.heap.size 1 _ _ (0, 0) hx6
              have x2 := cell_of_row w6 w5.heap.size 2 _ _ (0, 0) hx6
              have x3 := cell_of_row w6 w5.heap.size 3 _ _ (0, 0) hx6
              have x4 := cell_of_row w6 w5.heap.size 4 _ _ (0, 0) hx6
              obtain ⟨Xb, hXb⟩ : ∃ X, X = w5.heap.size := ⟨_, rfl⟩
              rw [← hXb] at x0 x1 x2 x3 x4 ⊢
              have H6 := Lib.hid (And.intro how6 hrow6)
              clear hw6 hXb hb6 hx6 how5 hrow5 how6 hrow6 he5 HX
              obtain ⟨e0, e1, e2, e3, e4⟩ := he6
              obtain ⟨q0, q1, q2, q3, q4⟩ := hA6
              have hcmp := fun W => eql_key e.k ⟨qc, qf, qs'⟩ W
              rw [decide_eq_true HK.out] at hcmp
              unfold K3.val at hcmp
              dsimp only at hcmp
              go_quiet (fail)
              go_wp2
              go_roundw
              case rel => exact ⟨k + 1, by go_num, by omega, ⟨⟨H6.out.1.sh.box, H6.out.1.sh.map⟩, H6.out.1.ok, H6.out.1.few, below_drewN H6.out.1.bel _, H6.out.1.lo⟩, H6.out.2.below (below_drewN (Below.refl _ _) _)⟩
              case measure => simp [intOf]; omega
            · skip
              have hx : entM e.k l' = some e := by rw [HOTH.out e.k hke]; exact hent
              have hg := sget_full S B mo l' c' e.k wq HX.out.1.sh
              obtain ⟨x, hxd⟩ : ∃ x, x = e := ⟨_, rfl⟩
              have hx1 : (entM e.k l').getD en0 = x := by rw [hx, hxd]; rfl
              have hx2 : (entM e.k l').isSome = true := by rw [hx]; rfl
              rw [hx1, hx2] at hg
              clear hx1 hx2
              have HXE := Lib.hid hxd
              have HK := Lib.hid hke
              clear hx hent hke hxd
              unfold K3.val at hg
              have HG := Lib.hid hg
              clear hg
              go_wp2_with fail
              refine HG.out.mono ?_
              rintro _ w5 ⟨rfl, hs5, hO5⟩
              have how5 := HX.out.1.call hs5 hO5 HX.out.1.ok HX.out.1.few
              have hrow5 := HX.out.2.only hO5 HSB.out.1 HSB.out.2
              have he5 : EAt w5 g k e := by
                have hk := hO5.block g hg2 (by have := HSB.out; omega) (by have := HSB.out; omega)
                have kk : ∀ o, w5.cell? ⟨g, o, none⟩ = wq.cell? ⟨g, o, none⟩ := fun o => World.cell?_of_block (a := ⟨g, o, none⟩) hk
                exact ⟨(kk _).trans HE.out.c, (kk _).trans HE.out.f, (kk _).trans HE.out.s, (kk _).trans HE.out.st, (kk _).trans HE.out.ow⟩
              clear HG hs5 hO5 e0 e1 e2 HE hg2
              obtain ⟨⟨xc, xf, xs⟩, xst, xow⟩ := x
              unfold En.cells
              dsimp only
              have hb6 := (Below.refl w5.heap.size w5).alloc (Nat.le_refl _) (.cells #[.int .i64 xc, .int .i64 xf, .int .u64 xs, .int .i64 xst, .int .i64 xow] TEn)
              have hx6 := heap_alloc_new w5 (.cells #[.int .i64 xc, .int .i64 xf, .int .u64 xs, .int .i64 xst, .int .i64 xow] TEn)
              go_upto_region 20 with fail
              obtain ⟨w6, hw6⟩ : ∃ V, V = w5.alloc (.cells #[.int .i64 xc, .int .i64 xf, .int .u64 xs, .int .i64 xst, .int .i64 xow] TEn) := ⟨_, rfl⟩
              rw [← hw6] at hb6 hx6 ⊢
              have how6 := how5.below hb6
              have he6 := he5.below hb6
              have hrow6 := hrow5.below hb6
              have hA6 := ha.keep (how6.bel.block b hbl)
              have x0 := cell_of_row w6 w5.heap.size 0 _ _ (0, 0) hx6
              have x1 := cell_of_row w6 w5.heap.size 1 _ _ (0, 0) hx6
              have x2 := cell_of_row w6 w5.heap.size 2 _ _ (0, 0) hx6
              have x3 := cell_of_row w6 w5.heap.size 3 _ _ (0, 0) hx6
              have x4 := cell_of_row w6 w5.heap.size 4 _ _ (0, 0) hx6
              obtain ⟨Xb, hXb⟩ : ∃ X, X = w5.heap.size := ⟨_, rfl⟩
              rw [← hXb] at x0 x1 x2 x3 x4 ⊢
              have H6 := Lib.hid (And.intro how6 hrow6)
              clear hw6 hXb hb6 hx6 how5 hrow5 how6 hrow6 he5 HX
              obtain ⟨e0, e1, e2, e3, e4⟩ := he6
              obtain ⟨q0, q1, q2, q3, q4⟩ := hA6
              have hcmp := fun W => eql_key e.k ⟨qc, qf, qs'⟩ W
              rw [decide_eq_false HK.out] at hcmp
              unfold K3.val at hcmp
              dsimp only at hcmp
              have hne := fun W => neq_en e e W
              simp only [decide_true, Bool.not_true] at hne
              unfold En.cells at hne
              have hxe := HXE.out
              rw [← hxe] at e0 e1 e2 e3 e4 hne hcmp
              clear hxe
              dsimp only at e0 e1 e2 e3 e4 hne hcmp
              go_quiet (fail)
              go_upto_region 23 with fail
              go_quiet (fail)
              go_wp2
              go_roundw
              case rel => exact ⟨k + 1, by go_num, by omega, ⟨⟨H6.out.1.sh.box, H6.out.1.sh.map⟩, H6.out.1.ok, H6.out.1.few, below_drewN H6.out.1.bel _, H6.out.1.lo⟩, H6.out.2.below (below_drewN (Below.refl _ _) _)⟩
              case measure => simp [intOf]; omega
          · obtain rfl : k = n1 := by omega
            go_wp2
            go_roundw
            case rel => exact ⟨i + 1, l', c', by go_num, by omega, HX.out.1⟩
            case measure => simp [intOf]; omega
      · have hl2 := HNONE.out hr
        injection hl2 with hl2 hc2
        subst hl2 hc2
        have hls := sorted_eq HOK.out HR2.out.2.1 HP1.out HR2.out.2.2 HPW1.out
        subst hls
        have HS := Lib.hid (fun V h1 h2 => same_en wr.heap.size w3.heap.size (.slice A1 ls2.length cc1) (.slice A2 ls2.length cc2) ls2 V (by omega) h1 h2)
        rw [← hn1] at hls2 HS HR2 ⊢
        clear hn1
        have hr0' : (r == 0) = false := by simpa using hr
        have hr1' : (r != 0) = true := by simpa using hr
        simp only [decide_eq_false hr, Bool.false_and] at HOWN
        clear HNONE
        go_wp2_with (refine (HS.out _ HX.out.2 HR2.out.1).mono ?_; rintro _ w5 ⟨rfl, b5⟩)
        have HX2 := Lib.hid (And.intro (HX.out.1.below b5) (HX.out.2.below b5))
        clear HX b5 HS a40 a41 a42 a43 a44 hls2 HR2 HPW1 HKD hr hr0' hr1'
        have HX := HX2
        clear HX2
        go_loopw [13] (fun vk wr2 => ∃ k : Nat, vk = .int .i64 (k : Int) ∧ k ≤ n1 ∧ OW W wr2 S B mo l' c' ∧ RowE wr.heap.size wr2 (.slice A1 n1 cc1) ls2) (fun vk _ => n1 - (intOf vk).toNat)
        case atStart => exact ⟨0, rfl, Nat.zero_le _, HX.out.1, HX.out.2⟩
        case round =>
          clear HX
          rename World => wq
          obtain ⟨k, rfl, hk, how, hrow⟩ := hrel
          have HX := Lib.hid (And.intro how hrow)
          clear how hrow
          by_cases hlk : k < n1
          · have hk1 : (k : Int) < (n1 : Int) := by omega
            have hk0 : ¬ ((k : Int) < 0) := by omega
            obtain ⟨g, cg, hv, hg1, hg2, he⟩ := HX.out.2.at k (by have := HN1.out; omega)
            have hmem := List.getElem_mem (h := (by have := HN1.out; omega : k < ls2.length))
            generalize ls2[k]'(by have := HN1.out; omega) = e at he hmem
            injection hv with hv hv1 hv2
            clear hv1
            subst hv hv2
            have hent : entM e.k l' = some e := ent_of_en HOK.out (HP1.out.subset hmem)
            have HE := Lib.hid he
            obtain ⟨e0, e1, e2, -, -⟩ := he
            clear hmem
            by_cases hke : e.k = (⟨qc, qf, qs'⟩ : K3)
            · skip
              have hx : (entM e.k l').isSome = !false := by
                rw [hke] at hent ⊢
                exact HOWN.out (by rw [hent]; exact fun h => by cases h)
              have hg := sget_full S B mo l' c' e.k wq HX.out.1.sh
              rw [hx] at hg
              generalize (entM e.k l').getD en0 = x at hg
              have HK := Lib.hid hke
              clear hx hent hke
              unfold K3.val at hg
              have HG := Lib.hid hg
              clear hg
              go_wp2_with fail
              refine HG.out.mono ?_
              rintro _ w5 ⟨rfl, hs5, hO5⟩
              have how5 := HX.out.1.call hs5 hO5 HX.out.1.ok HX.out.1.few
              have hrow5 := HX.out.2.only hO5 HSB.out.1 HSB.out.2
              have he5 : EAt w5 g k e := by
                have hk := hO5.block g hg2 (by have := HSB.out; omega) (by have := HSB.out; omega)
                have kk : ∀ o, w5.cell? ⟨g, o, none⟩ = wq.cell? ⟨g, o, none⟩ := fun o => World.cell?_of_block (a := ⟨g, o, none⟩) hk
                exact ⟨(kk _).trans HE.out.c, (kk _).trans HE.out.f, (kk _).trans HE.out.s, (kk _).trans HE.out.st, (kk _).trans HE.out.ow⟩
              clear HG hs5 hO5 e0 e1 e2 HE hg2
              obtain ⟨⟨xc, xf, xs⟩, xst, xow⟩ := x
              unfold En.cells
              dsimp only
              have hb6 := (Below.refl w5.heap.size w5).alloc (Nat.le_refl _) (.cells #[.int .i64 xc, .int .i64 xf, .int .u64 xs, .int .i64 xst, .int .i64 xow] TEn)
              have hx6 := heap_alloc_new w5 (.cells #[.int .i64 xc, .int .i64 xf, .int .u64 xs, .int .i64 xst, .int .i64 xow] TEn)
              go_upto_region 20 with fail
              obtain ⟨w6, hw6⟩ : ∃ V, V = w5.alloc (.cells #[.int .i64 xc, .int .i64 xf, .int .u64 xs, .int .i64 xst, .int .i64 xow] TEn) := ⟨_, rfl⟩
              rw [← hw6] at hb6 hx6 ⊢
              have how6 := how5.below hb6
              have he6 := he5.below hb6
              have hrow6 := hrow5.below hb6
              have hA6 := ha.keep (how6.bel.block b hbl)
              have x0 := cell_of_row w6 w5.heap.size 0 _ _ (0, 0) hx6
              have x1 := cell_of_row w6 w5.heap.size 1 _ _ (0, 0) hx6
              have x2 := cell_of_row w6 w5.heap.size 2 _ _ (0, 0) hx6
              have x3 := cell_of_row w6 w5.heap.size 3 _ _ (0, 0) hx6
              have x4 := cell_of_row w6 w5.heap.size 4 _ _ (0, 0) hx6
              obtain ⟨Xb, hXb⟩ : ∃ X, X = w5.heap.size := ⟨_, rfl⟩
              rw [← hXb] at x0 x1 x2 x3 x4 ⊢
              have H6 := Lib.hid (And.intro how6 hrow6)
              clear hw6 hXb hb6 hx6 how5 hrow5 how6 hrow6 he5 HX
              obtain ⟨e0, e1, e2, e3, e4⟩ := he6
              obtain ⟨q0, q1, q2, q3, q4⟩ := hA6
              have hcmp := fun W => eql_key e.k ⟨qc, qf, qs'⟩ W
              rw [decide_eq_true HK.out] at hcmp
              unfold K3.val at hcmp
              dsimp only at hcmp
              go_quiet (fail)
              go_wp2
              go_roundw
              case rel => exact ⟨k + 1, by go_num, by omega, ⟨⟨H6.out.1.sh.box, H6.out.1.sh.map⟩, H6.out.1.ok, H6.out.1.few, below_drewN H6.out.1.bel _, H6.out.1.lo⟩, H6.out.2.below (below_drewN (Below.refl _ _) _)⟩
              case measure => simp [intOf]; omega
            · skip
              have hx : entM e.k l' = some e := hent
              have hg := sget_full S B mo l' c' e.k wq HX.out.1.sh
              obtain ⟨x, hxd⟩ : ∃ x, x = e := ⟨_, rfl⟩
              have hx1 : (entM e.k l').getD en0 = x := by rw [hx, hxd]; rfl
              have hx2 : (entM e.k l').isSome = true := by rw [hx]; rfl
              rw [hx1, hx2] at hg
              clear hx1 hx2
              have HXE := Lib.hid hxd
              have HK := Lib.hid hke
              clear hx hent hke hxd
              unfold K3.val at hg
              have HG := Lib.hid hg
              clear hg
              go_wp2_with fail
              refine HG.out.mono ?_
              rintro _ w5 ⟨rfl, hs5, hO5⟩
              have how5 := HX.out.1.call hs5 hO5 HX.out.1.ok HX.out.1.few
              have hrow5 := HX.out.2.only hO5 HSB.out.1 HSB.out.2
              have he5 : EAt w5 g k e := by
                have hk := hO5.block g hg2 (by have := HSB.out; omega) (by have := HSB.out; omega)
                have kk : ∀ o, w5.cell? ⟨g, o, none⟩ = wq.cell? ⟨g, o, none⟩ := fun o => World.cell?_of_block (a := ⟨g, o, none⟩) hk
                exact ⟨(kk _).trans HE.out.c, (kk _).trans HE.out.f, (kk _).trans HE.out.s, (kk _).trans HE.out.st, (kk _).trans HE.out.ow⟩
              clear HG hs5 hO5 e0 e1 e2 HE hg2
              obtain ⟨⟨xc, xf, xs⟩, xst, xow⟩ := x
              unfold En.cells
              dsimp only
              have hb6 := (Below.refl w5.heap.size w5).alloc (Nat.le_refl _) (.cells #[.int .i64 xc, .int .i64 xf, .int .u64 xs, .int .i64 xst, .int .i64 xow] TEn)
              have hx6 := heap_alloc_new w5 (.cells #[.int .i64 xc, .int .i64 xf, .int .u64 xs, .int .i64 xst, .int .i64 xow] TEn)
              go_upto_region 20 with fail
              obtain ⟨w6, hw6⟩ : ∃ V, V = w5.alloc (.cells #[.int .i64 xc, .int .i64 xf, .int .u64 xs, .int .i64 xst, .int .i64 xow] TEn) := ⟨_, rfl⟩
              rw [← hw6] at hb6 hx6 ⊢
              have how6 := how5.below hb6
              have he6 := he5.below hb6
              have hrow6 := hrow5.below hb6
              have hA6 := ha.keep (how6.bel.block b hbl)
              have x0 := cell_of_row w6 w5.heap.size 0 _ _ (0, 0) hx6
              have x1 := cell_of_row w6 w5.heap.size 1 _ _ (0, 0) hx6
              have x2 := cell_of_row w6 w5.heap.size 2 _ _ (0, 0) hx6
              have x3 := cell_of_row w6 w5.heap.size 3 _ _ (0, 0) hx6
              have x4 := cell_of_row w6 w5.heap.size 4 _ _ (0, 0) hx6
              obtain ⟨Xb, hXb⟩ : ∃ X, X = w5.heap.size := ⟨_, rfl⟩
              rw [← hXb] at x0 x1 x2 x3 x4 ⊢
              have H6 := Lib.hid (And.intro how6 hrow6)
              clear hw6 hXb hb6 hx6 how5 hrow5 how6 hrow6 he5 HX
              obtain ⟨e0, e1, e2, e3, e4⟩ := he6
              obtain ⟨q0, q1, q2, q3, q4⟩ := hA6
              have hcmp := fun W => eql_key e.k ⟨qc, qf, qs'⟩ W
              rw [decide_eq_false HK.out] at hcmp
              unfold K3.val at hcmp
              dsimp only at hcmp
              have hne := fun W => neq_en e e W
              simp only [decide_true, Bool.not_true] at hne
              unfold En.cells at hne
              have hxe := HXE.out
              rw [← hxe] at e0 e1 e2 e3 e4 hne hcmp
              clear hxe
              dsimp only at e0 e1 e2 e3 e4 hne hcmp
              go_quiet (fail)
              go_upto_region 23 with fail
              go_quiet (fail)
              go_wp2
              go_roundw
              case rel => exact ⟨k + 1, by go_num, by omega, ⟨⟨H6.out.1.sh.box, H6.out.1.sh.map⟩, H6.out.1.ok, H6.out.1.few, below_drewN H6.out.1.bel _, H6.out.1.lo⟩, H6.out.2.below (below_drewN (Below.refl _ _) _)⟩
              case measure => simp [intOf]; omega
          · obtain rfl : k = n1 := by omega
            go_wp2
            go_roundw
            case rel => exact ⟨i + 1, l', c', by go_num, by omega, HX.out.1⟩
            case measure => simp [intOf]; omega
    · obtain rfl : i = len := by omega
      have hawk := fun V => awake_any V
      go_wp2_with (refine (hawk _).mono ?_; rintro _ w9 ⟨rfl, b9⟩)
      go_ret
      exact ⟨rfl, HO.out.bel.trans (b9.mono HO.out.bel.size)⟩
end Go.Proofs.Ytmdjhcpafjgigaa.Mk
