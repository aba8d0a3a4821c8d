/- The page's Orders, arrange, Order, Is. -/
import Derived.Test.YtnopmeadliaiiaaPickNumber
import Derived.Deep.RegionLawGrows
import Derived.Deep.RegionHeld3
namespace Go.Proofs.Ytnopmeadliaiiaa.Picks
open Go.RowKit picksNext

theorem rorders_any : ∀ (n : Nat) (_ : n ≤ 12) (w : World),
    Calls Try.prog 15 #[.int .i64 (n : Int)] w fun e w' => e = .returned (.int .u64 (fact n : Int)) ∧ w' = w
  | 0, _, w => by
    go_enter Try.func15, Try.ntmps15
    go_wp2
    go_ret
    exact ⟨rfl, rfl⟩
  | n + 1, hn, w => by
    have HI := Lib.hid (rorders_any n (by omega) w)
    have h1 := fact_le hn
    have h0 : ¬ ((n + 1 : Nat) : Int) = 0 := by omega
    have h0b : (((n + 1 : Nat) : Int) == 0) = false := by simpa using h0
    have e1 : ((n + 1 : Nat) : Int) - 1 = (n : Int) := by omega
    have hw : IntKind.u64.wrap ((n + 1 : Nat) : Int) = ((n + 1 : Nat) : Int) := IntWalk.u64_in _ ⟨by omega, by omega⟩
    have hm : IntKind.u64.wrap (((n + 1 : Nat) : Int) * (fact n : Int)) = (fact (n + 1) : Int) := by
      have e : ((n + 1 : Nat) : Int) * (fact n : Int) = (fact (n + 1) : Int) := by rw [fact, ← Int.natCast_mul, Nat.mul_comm]
      rw [e, IntWalk.u64_in _ ⟨by omega, by omega⟩]
    have HM := Lib.hid hm
    obtain ⟨F, hF⟩ : ∃ F : Nat, F = fact n := ⟨_, rfl⟩
    have hn12 : ((n + 1 : Nat) : Int) ≤ 12 := by omega
    have hn0 : (0 : Int) ≤ ((n + 1 : Nat) : Int) := by omega
    rw [← hF] at HI HM
    obtain ⟨N, hN⟩ : ∃ N : Int, N = ((n + 1 : Nat) : Int) := ⟨_, rfl⟩
    rw [← hN] at h0 h0b e1 hw HM hn12 hn0 ⊢
    clear hm h1 hF hN
    go_enter Try.func15, Try.ntmps15
    go_wp2_with fail
    refine HI.out.mono ?_
    rintro e w1 ⟨rfl, hw1⟩
    obtain rfl := hw1.symm
    go_wp2
    go_ret
    exact ⟨by rw [← HM.out]; rfl, rfl⟩

/-- What the last line of arrange reads. -/
abbrev AX (w0 : World) (b o : Nat) (x : Int) (W : World) : Prop := (Below w0.heap.size w0 W ∧ b < w0.heap.size) ∧ W.cell? ⟨b, o, none⟩ = some (.int .i64 x)
theorem AX.call {w0 W W1 : World} {b o : Nat} {x : Int} (h : AX w0 b o x W) (hb : Below W.heap.size W W1) : AX w0 b o x W1 :=
  ⟨⟨h.1.1.trans (hb.mono h.1.1.size), h.1.2⟩, (hb.cell (p := ⟨b, _, none⟩) (Nat.lt_of_lt_of_le h.1.2 h.1.1.size)).trans h.2⟩
theorem AX.drew {w0 W : World} {b o : Nat} {x : Int} (h : AX w0 b o x W) : AX w0 b o x W.drew := h.call (Below.refl _ _).drew
theorem AX.alloc {w0 W : World} {b o : Nat} {x : Int} (h : AX w0 b o x W) (ob : Obj) : AX w0 b o x (W.alloc ob) := h.call ((Below.refl _ _).alloc (Nat.le_refl _) _)
theorem AX.grown {w0 W W1 : World} {b o : Nat} {x : Int} (h : AX w0 b o x W) (hg : W.grownBy W1 none) : AX w0 b o x W1 := h.call ((Below.refl _ W).grown hg (Nat.le_refl _) (by intro k hk; cases hk))

/-- The others, while they are gathered. -/
def oth (xs : List Int) (a k : Nat) : List Int := (xs.take k).eraseIdx a
theorem oth_at (xs : List Int) (a : Nat) (h : a < xs.length) : oth xs a (a + 1) = oth xs a a := by
  unfold oth
  rw [List.eraseIdx_eq_take_drop_succ, List.eraseIdx_eq_take_drop_succ, List.take_take, List.take_take]
  have e1 : (xs.take (a + 1)).drop (a + 1) = [] := List.drop_of_length_le (by simp; omega)
  have e2 : (xs.take a).drop (a + 1) = [] := List.drop_of_length_le (by simp; omega)
  rw [e1, e2]
  congr 2
  all_goals omega
theorem oth_step (xs : List Int) (a k : Nat) (h : k < xs.length) (hne : k ≠ a) : oth xs a (k + 1) = oth xs a k ++ [xs.getD k 0] := by
  unfold oth
  have e : xs.getD k 0 = xs[k] := by rw [List.getD_eq_getElem?_getD, List.getElem?_eq_getElem h]; rfl
  rw [List.take_succ_eq_append_getElem h, e]
  rcases Nat.lt_or_ge a k with hl | hl
  · rw [List.eraseIdx_append_of_lt_length (by simp; omega)]
  · have h1 : (xs.take k).length ≤ a := by simp; omega
    have h2 : (xs.take k ++ [xs[k]]).length ≤ a := by simp; omega
    rw [List.eraseIdx_of_length_le h1, List.eraseIdx_of_length_le h2]
theorem oth_len (xs : List Int) (a k : Nat) (h : k ≤ xs.length) : (oth xs a k).length = if a < k then k - 1 else k := by
  unfold oth
  by_cases hl : a < k
  · rw [if_pos hl, List.length_eraseIdx_of_lt (by simp; omega)]
    simp
    omega
  · rw [if_neg hl, List.eraseIdx_of_length_le (by simp; omega)]
    simp
    omega

theorem rd_own {w : World} {base n c : Nat} {A : Option Addr} {zs : List Int} (h : w.ownsRow base 3 1 (.slice A n c) n (ints zs)) : Rd w A n zs := fun hl => by
  obtain ⟨u, rfl, hu⟩ := own_at h hl
  have hz : zs.length = n := by have := h.1; simpa [ints] using this
  have h0 : w.cell? ⟨u, 0, none⟩ = some (.int .i64 (zs.getD 0 0)) := (h.cellAt 0 (by omega)).trans (ints_at zs 0 (by omega))
  refine ⟨u, 0, rfl, World.block_lt_of_cell? w _ h0, fun i hi => ?_⟩
  rw [Nat.zero_add]
  exact (h.cellAt i (by omega)).trans (ints_at zs i (by omega))
theorem ints_one (zs : List Int) : ∀ u ∈ ints zs, u.oneCell' = true := by
  intro u hu
  simp only [ints, List.mem_map] at hu
  obtain ⟨z, _, rfl⟩ := hu
  rfl

theorem rem_run (k G k2 : Nat) (hG : 0 < G) (h : k2 = k % G) (hl : G ≤ 479001600) (W : World) : (binOp .rem 29 (.int .u64 (k : Int)) (.int .u64 (G : Int))).run Try.prog W = .ok (.int .u64 (k2 : Int)) W := by
  have hmd : (k : Int).tmod (G : Int) = (k2 : Int) := by rw [Int.tmod_eq_emod_of_nonneg (by omega), h, Int.natCast_emod]
  have hk2 : k2 < G := h ▸ Nat.mod_lt _ hG
  have hG0 : ¬ (G : Int) = 0 := by omega
  have hG0b : ((G : Int) == 0) = false := by simpa using hG0
  have hGn : ¬ G = 0 := by omega
  have hkw : IntKind.u64.wrap (k2 : Int) = (k2 : Int) := IntWalk.u64_in _ ⟨by omega, by omega⟩
  go_simp

theorem own_box {W : World} {u base : Nat} {z : Int} (h : W.heap[u]? = some (.cells #[.int .i64 z] 3 (0, 0))) (hb : base ≤ u) : W.ownsRow base 3 1 (.slice (some ⟨u, 0, none⟩) 1 1) 1 [.int .i64 z] :=
  ⟨rfl, .inr ⟨u, 1, _, rfl, hb, h, Nat.le_refl _, by decide, rfl, rfl⟩⟩

def ArrAns (w : World) (n : Nat) (zs : List Int) (e : Ending) (w' : World) : Prop := ∃ A c, e = .returned (.slice A n c) ∧ w'.ownsRow w.heap.size 3 1 (.slice A n c) n (ints zs) ∧ (n = 0 → A = none ∧ c = 0) ∧ Below w.heap.size w w'

set_option maxRecDepth 100000 in
set_option maxHeartbeats 4000000 in
theorem arrange_any : ∀ (n : Nat) (_ : n ≤ 12) (xs : List Int) (_ : xs.length = n) (A : Option Addr) (c k : Nat) (_ : k < fact n) (w : World) (_ : Rd w A n xs),
    Calls Try.prog 26 #[.slice A n c, .int .u64 (k : Int)] w (ArrAns w n (arr n xs k))
  | 0, _, xs, _, A, c, k, _, w, _ => by
    go_enter Try.func26, Try.ntmps26
    go_wp2
    go_ret
    exact ⟨none, 0, rfl, World.ownsRow_nil _ _ _ _, fun _ => ⟨rfl, rfl⟩, Below.refl _ _⟩
  | p + 1, hn, xs, hxs, A, c, k, hk, w, hr => by
    obtain ⟨i0, hi, hz0, hz1, hz2⟩ := info_parts infoI
    have hp12 : p ≤ 12 := by omega
    obtain ⟨G, hG⟩ : ∃ G : Nat, G = fact p := ⟨_, rfl⟩
    have HO := Lib.hid (rorders_any p hp12)
    have hGp : 0 < G := hG ▸ fact_pos p
    have hGl : G ≤ 479001600 := hG ▸ fact_le hp12
    have hk4 := fact_le hn
    rw [← hG] at HO
    obtain ⟨a, ha⟩ : ∃ a : Nat, a = k / G := ⟨_, rfl⟩
    obtain ⟨k2, hk2⟩ : ∃ k2 : Nat, k2 = k % G := ⟨_, rfl⟩
    have hap : a < p + 1 := by rw [ha, hG]; exact div_lt hk
    have hdiv : (k : Int).tdiv (G : Int) = (a : Int) := by rw [Int.tdiv_eq_ediv_of_nonneg (by omega), ha, Int.natCast_ediv]
    have hmd : (k : Int).tmod (G : Int) = (k2 : Int) := by rw [Int.tmod_eq_emod_of_nonneg (by omega), hk2, Int.natCast_emod]
    have hk2l : k2 < G := hk2 ▸ Nat.mod_lt _ hGp
    have hG0 : ¬ (G : Int) = 0 := by omega
    have hG0b : ((G : Int) == 0) = false := by simpa using hG0
    have hkw : IntKind.u64.wrap (k2 : Int) = (k2 : Int) := IntWalk.u64_in _ ⟨by omega, by omega⟩
    have haw : IntKind.u64.wrap (a : Int) = (a : Int) := IntWalk.u64_in _ ⟨by omega, by omega⟩
    have haw2 : IntKind.i64.wrap (a : Int) = (a : Int) := IntWalk.i64_in _ (by omega)
    have hrem := rem_run k G k2 hGp hk2 hGl
    have hrec := Lib.hid (fun (c' : Nat) (A' : Option Addr) (W : World) (h : Rd W A' p (xs.eraseIdx a)) => arrange_any p hp12 (xs.eraseIdx a) (by rw [List.length_eraseIdx_of_lt (by omega)]; omega) A' c' k2 (by rw [← hG]; exact hk2l) W h)
    have HARR := Lib.hid (show arr (p + 1) xs k = xs.getD a 0 :: arr p (xs.eraseIdx a) k2 by rw [arr, ← hG, ← ha, ← hk2])
    obtain ⟨n, hnp⟩ : ∃ n, n = p + 1 := ⟨_, rfl⟩
    have e1 : ((p + 1 : Nat) : Int) - 1 = (p : Int) := by omega
    have hn0 : ¬ ((p + 1 : Nat) : Int) = 0 := by omega
    have hn0b : (((p + 1 : Nat) : Int) == 0) = false := by simpa using hn0
    have HR := Lib.hid (And.intro hr hxs)
    rw [← hnp] at e1 hn0 hn0b HARR HR hap hn ⊢
    have HNP := Lib.hid hnp
    clear hG ha hk2 hk4 hr hxs hnp hk hn0
    go_enter Try.func26, Try.ntmps26
    go_wp2_with fail
    refine (HO.out _).mono ?_
    rintro e w1 ⟨rfl, hw1⟩
    obtain rfl := hw1.symm
    go_wp2
    go_loopw [7, 8] (fun vo i wr => ∃ (j r : Nat), i = .int .i64 (j : Int) ∧ j ≤ n ∧ r ≤ j ∧ Hid (r = (oth xs a j).length) ∧ Hid (wr.ownsRow w.heap.size 3 1 vo r (ints (oth xs a j))) ∧ Below w.heap.size w wr) (fun _ i _ => n - (intOf i).toNat)
    case atStart => exact ⟨0, 0, rfl, Nat.zero_le _, Nat.le_refl _, Lib.hid (by simp [oth]), Lib.hid (by simp [oth, ints]; exact World.ownsRow_nil _ _ _ _), Below.refl _ _⟩
    case round =>
      obtain ⟨j, r, rfl, hj, hrj, hrl, hown, hb⟩ := hrel
      obtain ⟨Ao, co, hvo⟩ := own_form hown.out
      subst hvo
      have HB := Lib.hid hb
      have hws := hb.size
      by_cases hlt : j < n
      · have hi0 : (0 : Int) ≤ (j : Int) := by omega
        have hjn : (j : Int) < (n : Int) := by omega
        have hjx : j < xs.length := by have := HR.out.2; have := HNP.out; omega
        by_cases hja : j = a
        · have hjb : ((j : Int) != (a : Int)) = false := by simp [hja]
          have HE := Lib.hid (show oth xs a (j + 1) = oth xs a j by rw [hja]; exact oth_at xs a (by omega))
          clear hja hb
          go_wp2
          refine ⟨⟨j + 1, r, by go_num, by omega, by omega, Lib.hid (by rw [HE.out]; exact hrl.out), Lib.hid (by rw [HE.out]; exact hown.out), HB.out⟩, by simp [intOf]; omega⟩
        · have hjai : ¬ (j : Int) = (a : Int) := by omega
          have hjb : ((j : Int) != (a : Int)) = true := by simpa using hjai
          have HE := Lib.hid (oth_step xs a j hjx hja)
          obtain ⟨b, off, hA, hbl, hc⟩ := HR.out.1.below hb (by omega)
          have hcj := hc j hlt
          obtain ⟨z, hz⟩ : ∃ z, z = xs.getD j 0 := ⟨_, rfl⟩
          rw [← hz] at hcj HE
          subst hA
          clear hja hjai hb hc hz
          go_wp2_with (at_builtin; refine wpList_append_own _ rfl _ _ 22 rfl w.heap.size 3 i0 (.int .i64 0) 1 8 Try.underlying22 hi hz0 hz1 (by assumption) rfl (by decide) _ _ _ rfl (World.ownsRow.alloc (hown.out) _) ⟨wr.heap.size, 0, none⟩ 1 1 [.int .i64 z] rfl rfl (cell_one_new _ _ _) (one_one rfl) (by unfold maxLen; omega) (by omega) (by simp; omega) ?_; intro v5 w5 hown5 hg5 _)
          have hg5' : (wr.alloc (.cells #[.int .i64 z] 3)).grownBy w5 (Value.slice Ao r co).ownBlock := hg5
          have H5 := Lib.hid (And.intro hown5 (below_push HB.out hws hown.out hg5'))
          clear hown5 hg5 hg5' hcj
          go_wp2
          refine ⟨⟨j + 1, r + 1, by go_num, by omega, by omega, Lib.hid (by rw [HE.out, List.length_append]; simp; exact hrl.out), Lib.hid (by rw [HE.out]; have := H5.out.1; simpa [ints] using this), H5.out.2⟩, by simp [intOf]; omega⟩
      · obtain rfl : n = j := by omega
        have hrp : r = p := by
          have := oth_len xs a n (by have := HR.out.2; omega)
          rw [if_pos hap] at this
          have h2 := hrl.out
          have h3 := HNP.out
          omega
        have hoe : oth xs a n = xs.eraseIdx a := by
          unfold oth
          rw [List.take_of_length_le (by have := HR.out.2; omega)]
        rw [hoe] at hown
        subst hrp
        have HRD := Lib.hid (rd_own hown.out)
        obtain ⟨b, off, hA, hbl, hc⟩ := HR.out.1.below hb (by omega)
        have hca := hc a hap
        obtain ⟨z, hz⟩ : ∃ z, z = xs.getD a 0 := ⟨_, rfl⟩
        rw [← hz] at hca HARR
        subst hA
        have hAX : AX wr b (off + a) z wr := ⟨⟨Below.refl _ _, hbl⟩, hca⟩
        have ha0 : (0 : Int) ≤ (a : Int) := by omega
        have han : (a : Int) < (n : Int) := by omega
        have hGn : ¬ G = 0 := by omega
        have hrec' := Lib.hid (fun W h => hrec.out co Ao W h)
        obtain ⟨zs', hzs'⟩ : ∃ zs', zs' = arr r (xs.eraseIdx a) k2 := ⟨_, rfl⟩
        rw [← hzs'] at hrec' HARR
        have hzl : zs'.length = r := by rw [hzs']; exact arr_len _ _ _
        clear hc hz hb hca hoe hrl hzs' hrec
        by_cases hr0 : 0 < r
        · have hz8 : (1 + r) * 8 ≤ 140737488355328 := by omega
          have hz9 : 1 + r ≤ maxLen := by unfold maxLen; omega
          go_wp2
          go_region_held3 (fun W => (Below wr.heap.size wr W ∧ b < wr.heap.size) ∧ W.cell? ⟨b, off + a, none⟩ = some (.int .i64 z))
            (with_reducible first | assumption | exact hAX | exact AX.drew hAX | exact AX.drew (AX.alloc hAX _) | exact AX.alloc hAXB _ | exact hAXB | exact hAXD | fail)
            (first
              | (go_at_call 26; ((with_reducible refine (hrec'.out _ (by first | exact HRD.out.below (And.left (And.left (AX.drew hAX))) | exact HRD.out.below (And.left (And.left (AX.drew (AX.alloc hAX _)))))).mono ?_); rintro e wB ⟨A', c', rfl, hownB, -, hbB⟩; obtain ⟨u', rfl, hu'⟩ := own_at hownB hr0; have hAXB : AX wr b (off + a) z wB := (by first | exact AX.call (AX.drew hAX) hbB | exact AX.call (AX.drew (AX.alloc hAX _)) hbB)))
              | (refine step_append_grows rfl _ _ 22 rfl 3 i0 (.int .i64 0) 1 8 Try.underlying22 hi hz0 hz1 hz2 rfl (by decide) (some ⟨wr.heap.size, 0, none⟩) 1 1 [.int .i64 z] rfl (fun h => by cases h) rfl (fun b' hb' j u hj => by
                    injection hb' with hb'
                    subst hb'
                    exact ((hbB.cell (p := (⟨wr.heap.size, 0, none⟩ : Addr).add j) (by simp [Addr.add]; split <;> simp)).trans (cell_one_new wr _ _ j u hj))) ⟨u', 0, none⟩ r c' (ints zs') rfl (by rw [Nat.mul_one]; simpa [ints] using hzl) (hownB.cells (g := u') rfl) (ints_one zs') (by omega) hz9 hz8 ?_; intro v9 w9 hown9 hg9; have hAXD := AX.grown hAXB hg9)
              | (refine step_append_grows rfl _ _ 22 rfl 3 i0 (.int .i64 0) 1 8 Try.underlying22 hi hz0 hz1 hz2 rfl (by decide) (some ⟨wB.heap.size, 0, none⟩) 1 1 [.int .i64 z] rfl (fun h => by cases h) rfl (fun b' hb' j u hj => by
                    injection hb' with hb'
                    subst hb'
                    exact cell_one_new wB _ _ j u hj) ⟨u', 0, none⟩ r c' (ints zs') rfl (by rw [Nat.mul_one]; simpa [ints] using hzl) ((World.ownsRow.alloc hownB _).cells (g := u') rfl) (ints_one zs') (by omega) hz9 hz8 ?_; intro v9 w9 hown9 hg9; have hAXD := AX.grown (AX.alloc hAXB _) hg9))
          all_goals
            obtain ⟨A9, c9, hv9⟩ := own_form hown9
            subst hv9
            have hbs := hAXB.1.1.size
            have HZ := Lib.hid (And.intro (own_low (base' := w.heap.size) hown9 (by first | omega | (simp; omega))) (HB.out.trans (hAXD.1.1.mono HB.out.size)))
            obtain rfl : n = 1 + r := by have := HNP.out; omega
            clear hown9 hg9 hAXD hAXB hbB
            go_wp2
            go_ret
            refine ⟨A9, c9, rfl, ?_, fun h => by omega, HZ.out.2⟩
            rw [HARR.out]
            exact HZ.out.1
        · obtain rfl : r = 0 := by omega
          have hz0' : zs' = [] := List.eq_nil_of_length_eq_zero hzl
          go_wp2
          go_region_held3 (fun W => (Below wr.heap.size wr W ∧ b < wr.heap.size) ∧ W.cell? ⟨b, off + a, none⟩ = some (.int .i64 z))
            (with_reducible first | assumption | exact hAX | exact AX.drew hAX | exact AX.drew (AX.alloc hAX _) | exact AX.alloc hAXB _ | exact hAXB | exact hAXD | fail)
            (first
              | (go_at_call 26; ((with_reducible refine (hrec'.out _ (by first | exact HRD.out.below (And.left (And.left (AX.drew hAX))) | exact HRD.out.below (And.left (And.left (AX.drew (AX.alloc hAX _)))))).mono ?_); rintro e wB ⟨A', c', rfl, -, hnilB, hbB⟩; obtain ⟨rfl, rfl⟩ := hnilB rfl; have hAXB : AX wr b (off + a) z wB := (by first | exact AX.call (AX.drew hAX) hbB | exact AX.call (AX.drew (AX.alloc hAX _)) hbB)))
              | fail)
          all_goals
            have hbs := hAXB.1.1.size
            obtain rfl : n = 1 := by have := HNP.out; omega
            first
            | (have HZ := Lib.hid (And.intro (own_box (base := w.heap.size) ((hbB.block wr.heap.size (by simp)).trans (heap_alloc_new wr _)) hws) (HB.out.trans (hAXB.1.1.mono hws)))
               clear hAXB hbB
               go_wp2
               go_ret
               exact ⟨_, _, rfl, by rw [HARR.out, hz0']; exact HZ.out.1, fun h => by omega, HZ.out.2⟩)
            | (have HZ := Lib.hid (And.intro (own_box (base := w.heap.size) (heap_alloc_new wB (.cells #[.int .i64 z] 3)) (by omega)) (HB.out.trans ((AX.alloc hAXB (.cells #[.int .i64 z] 3)).1.1.mono hws)))
               clear hAXB hbB
               go_wp2
               go_ret
               exact ⟨_, _, rfl, by rw [HARR.out, hz0']; exact HZ.out.1, fun h => by omega, HZ.out.2⟩)

theorem iota_at (n k : Nat) (h : k < n) : (iota n).getD k 0 = (k : Int) := by
  rw [List.getD_eq_getElem?_getD, List.getElem?_eq_getElem (by rw [iota_len]; exact h)]
  simp [iota]

set_option maxRecDepth 100000 in
set_option maxHeartbeats 4000000 in
theorem rorder_any (n : Nat) (hn : n ≤ 12) (k : Int) (hk0 : 0 ≤ k) (w : World) :
    Calls Try.prog 16 #[.int .i64 (n : Int), .int .u64 k] w (ArrAns w n (arr n (iota n) (k.toNat % fact n))) := by
  obtain ⟨i0, hi, hz0, hz1, hz2⟩ := info_parts infoI
  have hn12 : (n : Int) ≤ 12 := by omega
  obtain ⟨k0, hk⟩ : ∃ k0 : Nat, k = (k0 : Int) := ⟨k.toNat, by omega⟩
  subst hk
  have HO := Lib.hid (rorders_any n hn)
  obtain ⟨G, hG⟩ : ∃ G : Nat, G = fact n := ⟨_, rfl⟩
  have hGp : 0 < G := hG ▸ fact_pos n
  have hGl : G ≤ 479001600 := hG ▸ fact_le hn
  rw [← hG] at HO
  obtain ⟨k2, hk2⟩ : ∃ k2 : Nat, k2 = k0 % G := ⟨_, rfl⟩
  have hk2l : k2 < G := hk2 ▸ Nat.mod_lt _ hGp
  have hrem := rem_run k0 G k2 hGp hk2 hGl
  have hG0 : ¬ (G : Int) = 0 := by omega
  have hG0b : ((G : Int) == 0) = false := by simpa using hG0
  have hGn : ¬ G = 0 := by omega
  have hmd : (k0 : Int).tmod (G : Int) = (k2 : Int) := by rw [Int.tmod_eq_emod_of_nonneg (by omega), hk2, Int.natCast_emod]
  have hkw : IntKind.u64.wrap (k2 : Int) = (k2 : Int) := IntWalk.u64_in _ ⟨by omega, by omega⟩
  have HK := Lib.hid (show (k0 : Int).toNat % fact n = k2 by rw [← hG, hk2]; rfl)
  have HA := Lib.hid (fun (A : Option Addr) (c : Nat) (W : World) (h : Rd W A n (iota n)) => arrange_any n hn (iota n) (iota_len n) A c k2 (by rw [← hG]; exact hk2l) W h)
  clear hG hk2 hk0
  go_enter Try.func16, Try.ntmps16
  go_wp2
  go_loopw [5, 6] (fun vo i wr => ∃ j : Nat, i = .int .i64 (j : Int) ∧ j ≤ n ∧ Hid (wr.ownsRow w.heap.size 3 1 vo j (ints (iota j))) ∧ Below w.heap.size w wr) (fun _ i _ => n - (intOf i).toNat)
  case atStart => exact ⟨0, rfl, Nat.zero_le _, Lib.hid (World.ownsRow_nil _ _ _ _), Below.refl _ _⟩
  case round =>
    obtain ⟨j, rfl, hj, hown, hb⟩ := hrel
    obtain ⟨Ao, co, hvo⟩ := own_form hown.out
    subst hvo
    have HB := Lib.hid hb
    have hws := hb.size
    by_cases hlt : j < n
    · have hi0 : (0 : Int) ≤ (j : Int) := by omega
      have hjn : (j : Int) < (n : Int) := by omega
      clear hb
      go_wp2_with (at_builtin; refine wpList_append_own _ rfl _ _ 22 rfl w.heap.size 3 i0 (.int .i64 0) 1 8 Try.underlying22 hi hz0 hz1 (by assumption) rfl (by decide) _ _ _ rfl (World.ownsRow.alloc (hown.out) _) ⟨wr.heap.size, 0, none⟩ 1 1 [.int .i64 (j : Int)] rfl rfl (cell_one_new _ _ _) (one_one rfl) (by unfold maxLen; omega) (by omega) (by simp; omega) ?_; intro v5 w5 hown5 hg5 _)
      have hg5' : (wr.alloc (.cells #[.int .i64 (j : Int)] 3)).grownBy w5 (Value.slice Ao j co).ownBlock := hg5
      have H5 := Lib.hid (And.intro hown5 (below_push HB.out hws hown.out hg5'))
      clear hown5 hg5 hg5'
      go_wp2
      exact ⟨⟨j + 1, by go_num, by omega, Lib.hid (by rw [iota_succ]; have := H5.out.1; simpa [ints] using this), H5.out.2⟩, by simp [intOf]; omega⟩
    · obtain rfl : n = j := by omega
      have HRD := Lib.hid (rd_own hown.out)
      clear hb
      go_wp2_with fail
      refine (HO.out _).mono ?_
      rintro e w4 ⟨rfl, hw4⟩
      obtain rfl := hw4.symm
      go_wp2_with fail
      refine (HA.out _ _ _ HRD.out).mono ?_
      rintro e w5 ⟨A5, c5, rfl, h1, h2, h3⟩
      have HZ := Lib.hid (And.intro (own_low h1 hws) (And.intro h2 (HB.out.trans (h3.mono hws))))
      clear h1 h2 h3
      go_wp2
      go_ret
      exact ⟨A5, c5, rfl, by rw [HK.out]; exact HZ.out.1, HZ.out.2.1, HZ.out.2.2⟩
end Go.Proofs.Ytnopmeadliaiiaa.Picks
