/- Dice: what both scripts are, of whatever config and length; each step is right. -/
import Derived.Test.YtfojmjgnndlfnaaDiceOut
import Derived.Test.YtfojmjgnndlfnaaStep15R
import Derived.Test.YtfojmjgnndlfnaaDiceSame
namespace Go.Proofs.Ytfojmjgnndlfnaa.DiceW
open Go Go.RowKit Conf Dice
set_option linter.unusedVariables false

/-- the page says that this step is right -/
def Good (x : S8) : Prop := ∀ w : World, Calls Try.prog 16 #[.agg x.cells] w fun e w' => e = .returned (.bool true) ∧ Below w.heap.size w w'
theorem belz_in' (s n : Int) (h : 1 ≤ n) (h1 : n ≤ 1000) : 0 ≤ belZ s n ∧ belZ s n < n := by
  unfold belZ
  rw [if_neg (by omega)]
  exact bel_lo h (by omega)
theorem good_1 (x : Int) (h : 0 ≤ x ∧ x < 16) : Good ⟨1, 0, x, 0, 0, 0, 0, ⟨#[]⟩⟩ := fun w => St15.right_1 x h.1 (by omega) w
theorem good_2 (x : Int) (h : 0 ≤ x ∧ x < 2) : Good ⟨2, x, 0, 0, 0, 0, 0, ⟨#[]⟩⟩ := fun w => St15.right_2 x h.1 (by omega) w
theorem good_4 (x : Int) (h : 0 ≤ x ∧ x < 2) : Good ⟨4, x, 0, 0, 0, 0, 0, ⟨#[]⟩⟩ := fun w => St15.right_4 x h.1 (by omega) w
theorem good_5 (x n : Int) (hn : n ≤ 4) (h : 0 ≤ x ∧ x < 2 * n) : Good ⟨5, 0, x, 0, 0, 0, 0, ⟨#[]⟩⟩ := fun w => St15.right_5 x h.1 (by omega) w
theorem good_6 (x y a : Int) (h : 0 ≤ x ∧ x < 2) (ha : a ≤ 4) (hy : 0 ≤ y ∧ y < a) : Good ⟨6, x, wrap64 (1 + y), 0, 0, 0, 0, ⟨#[]⟩⟩ := fun w => by
  rw [IntWalk.wrap64_in _ ⟨by omega, by omega⟩]
  exact St15.right_6 x (1 + y) h.1 (by omega) (by omega) (by omega) w
theorem good_7 : Good ⟨7, 0, 0, 0, 0, 0, 0, ⟨#[]⟩⟩ := fun w => St15.right_7 w
theorem good_8 : Good ⟨8, 0, 0, 0, 0, 0, 0, ⟨#[]⟩⟩ := fun w => St15.right_8 w
theorem good_3 (c f t n : Int) (d : ByteArray) (hn : n ≤ 4) (hc : 0 ≤ c ∧ c < n) (hf : 0 ≤ f ∧ f < 2) (hd : d.size ≤ 64) : Good ⟨3, 0, 0, c, f, 0, t, d⟩ := fun w => St15.right_3 c f t d hc.1 (by omega) hf.1 (by omega) hd w
theorem reps_le (x : Int) (h : 0 ≤ x ∧ x < 4) : (reps x).size ≤ 64 := by
  obtain ⟨k, rfl⟩ : ∃ k : Nat, x = (k : Int) := ⟨x.toNat, by omega⟩
  have := reps_size k (by omega)
  omega
theorem pk_parts (st n : Int) (h1 : 1 ≤ n) (h4 : n ≤ 4) : (0 ≤ (pkF st n).c ∧ (pkF st n).c < n) ∧ (0 ≤ (pkF st n).f ∧ (pkF st n).f < 2) ∧ (pkF st n).d.size ≤ 64 := by
  unfold pkF
  by_cases h : belZ (nxZ (nxZ st n) 2) 2 = 0
  · rw [if_pos h]
    exact ⟨belz_in' _ n h1 (by omega), belz_in' _ 2 (by decide) (by decide), reps_le _ (belz_in' _ 4 (by decide) (by decide))⟩
  · rw [if_neg h]
    exact ⟨belz_in' _ n h1 (by omega), belz_in' _ 2 (by decide) (by decide), reps_le _ (belz_in' _ 4 (by decide) (by decide))⟩
theorem good_step (st n a : Int) (h1 : 1 ≤ n) (h4 : n ≤ 4) (a1 : 1 ≤ a) (a4 : a ≤ 4) : Good (stepF st n a).1 := by
  unfold stepF
  by_cases h27 : belZ st 40 ≤ 27
  · rw [if_pos h27]
    exact good_1 _ (belz_in' _ _ (by decide) (by decide))
  rw [if_neg h27]
  by_cases h32 : belZ st 40 ≤ 32
  · rw [if_pos h32]
    exact good_2 _ (belz_in' _ _ (by decide) (by decide))
  rw [if_neg h32]
  by_cases h35 : belZ st 40 ≤ 35
  · rw [if_pos h35]
    have := pk_parts (nxZ st 40) n h1 h4
    exact good_3 _ _ _ n _ h4 this.1 this.2.1 this.2.2
  rw [if_neg h35]
  by_cases h36 : belZ st 40 = 36
  · rw [if_pos h36]
    exact good_5 _ n h4 (belz_in' _ _ (by omega) (by omega))
  rw [if_neg h36]
  by_cases h37 : belZ st 40 = 37
  · rw [if_pos h37]
    exact good_6 _ _ a (belz_in' _ _ (by decide) (by decide)) a4 (belz_in' _ _ a1 (by omega))
  rw [if_neg h37]
  by_cases h38 : belZ st 40 = 38
  · rw [if_pos h38]
    exact good_4 _ (belz_in' _ _ (by decide) (by decide))
  rw [if_neg h38]
  by_cases h4' : belZ (nxZ st 40) 4 = 0
  · rw [if_pos h4']
    exact good_7
  · rw [if_neg h4']
    exact good_8
theorem scrG_good (F : Int → S8 × Int) (hF : ∀ s, Good (F s).1) : ∀ (k : Nat) (st : Int) (i : Nat), i < k + 1 → Good ((scrG F k st).1.getD i s80)
  | 0, st, i, h => by
    obtain rfl : i = 0 := by omega
    rw [scrG_0]
    exact good_8
  | k + 1, st, i, h => by
    have hl := scr_len F k st
    rw [scrG_l, List.getD_eq_getElem?_getD]
    by_cases hi : i < k + 1
    · rw [List.getElem?_append_left (by omega), ← List.getD_eq_getElem?_getD]
      exact scrG_good F hF k st i hi
    · obtain rfl : i = k + 1 := by omega
      rw [List.getElem?_append_right (by omega), hl, Nat.sub_self]
      exact hF _
/-- a slice that holds these steps -/
def RL (w : World) (B : Nat) (v : Value) (la : List S8) : Prop := ∃ A cap, v = .slice A la.length cap ∧ (la = [] ∨ ∃ r, A = some ⟨r, 0, none⟩ ∧ r < w.heap.size ∧ B ≤ r ∧ ∀ i, i < la.length → At w r (i * 8) (la.getD i s80))
theorem RL.none (w : World) (B : Nat) : RL w B (.slice none 0 0) [] := ⟨Option.none, 0, rfl, Or.inl rfl⟩
/-- what is known of both scripts -/
structure SL (c : Cfg) (n st : Int) (la : List S8) (s' : Int) : Prop where
  p : ∀ (w : World) (g : Nat), D TD w g st → Calls Try.prog 11 #[.pointer (some ⟨g, 0, none⟩), .agg c.cells, .int .i64 n] w fun e w' => (∃ v, e = .returned v ∧ RL w' w.heap.size v la) ∧ D TD w' g s' ∧ On g w w'
  q : ∀ (w : World) (g : Nat), D TR w g st → Calls Try.prog 12 #[.pointer (some ⟨g, 0, none⟩), .agg c.cells, .int .i64 n] w fun e w' => (∃ v, e = .returned v ∧ RL w' w.heap.size v la) ∧ D TR w' g s' ∧ On g w w'
  good : ∀ i, i < la.length → Good (la.getD i s80)
  len : la.length ≤ 201
  wr : ¬ code c 11 0 = 0 → la.length = 0
theorem rl_of {w : World} {B : Nat} {v : Value} {la : List S8} {k : Nat} (h : w.ownsRow B TSt 8 v (k + 1) (vals la)) (hl : la.length = k + 1) : RL w B v la := by
  obtain ⟨r, cp, rfl, hr1, hr2⟩ := row_at h hl (Nat.succ_pos k)
  exact ⟨_, cp, by rw [hl], Or.inr ⟨r, rfl, hr1, own_ge h r rfl, fun i hi => hr2 i (by omega)⟩⟩
theorem right_in {x l h : Int} (e : right x l h = true) : l ≤ x ∧ x ≤ h := by
  unfold right at e
  simp only [Bool.and_eq_true, decide_eq_true_eq] at e
  exact e
theorem sl_any (c : Cfg) (hc : c.n ≤ 20) (n : Int) (hn : n ≤ 200 ∨ 1024 < n) (st : Int) : ∃ la s', SL c n st la s' := by
  rcases wrong_or c with ⟨hcode, hwr, hn1, ha1⟩ | ⟨hcode, hwr⟩
  · have n1 := right_in hn1
    have a1 := right_in ha1
    by_cases hb : n < 1
    · refine ⟨[], st, fun w g hd => ?_, fun w g hd => ?_, fun i hi => absurd hi (Nat.not_lt_zero _), Nat.zero_le _, fun _ => rfl⟩
      · exact (script_few c hc n ⟨hcode, hb, by omega⟩ hd).mono fun e w' h => ⟨⟨_, h.1, RL.none _ _⟩, h.2⟩
      · exact (rscript_few c hc n ⟨hwr, hb⟩ hd).mono fun e w' h => ⟨⟨_, h.1, RL.none _ _⟩, h.2⟩
    · by_cases hb2 : 1024 < n
      · refine ⟨[], st, fun w g hd => ?_, fun w g hd => ?_, fun i hi => absurd hi (Nat.not_lt_zero _), Nat.zero_le _, fun _ => rfl⟩
        · exact (script_many c hc n ⟨hcode, hb2, by omega⟩ hd).mono fun e w' h => ⟨⟨_, h.1, RL.none _ _⟩, h.2⟩
        · exact (rscript_many c hc n ⟨hwr, hb2⟩ hd).mono fun e w' h => ⟨⟨_, h.1, RL.none _ _⟩, h.2⟩
      · obtain ⟨m, rfl⟩ : ∃ m : Nat, n = (m : Int) + 1 := ⟨(n - 1).toNat, by omega⟩
        obtain ⟨F, hF⟩ : ∃ F : Int → S8 × Int, ∀ s, F s = stepF s (c.n : Int) c.f1 := ⟨fun s => stepF s (c.n : Int) c.f1, fun _ => rfl⟩
        have hG : ∀ s, Good (F s).1 := fun s => by rw [hF s]; exact good_step s _ _ n1.1 n1.2 a1.1 a1.2
        have hl := scr_len F m st
        refine ⟨(scrG F m st).1, (scrG F m st).2, fun w g hd => ?_, fun w g hd => ?_, fun i hi => scrG_good F hG m st i (by omega), by omega, fun h => absurd hcode h⟩
        · have hS : ∀ (V : World) (s : Int), D TD V g s → Calls Try.prog 17 #[.pointer (some ⟨g, 0, none⟩), .agg c.cells] V fun e w' => e = .returned (.agg (F s).1.cells) ∧ D TD w' g (F s).2 ∧ On g V w' := fun V s hd => by
            rw [hF s]
            exact step_any c hcode (by omega) (by omega) (by omega) hd
          refine (script_any c hcode (by omega) (by omega) F hS m (by omega) hd).mono ?_
          rintro e w' ⟨⟨v, rfl, hv⟩, hd', ho⟩
          exact ⟨⟨v, rfl, rl_of hv hl⟩, hd', ho⟩
        · have hS : ∀ (V : World) (s : Int), D TR V g s → Calls Try.prog 18 #[.pointer (some ⟨g, 0, none⟩), .agg c.cells] V fun e w' => e = .returned (.agg (F s).1.cells) ∧ D TR w' g (F s).2 ∧ On g V w' := fun V s hd => by
            rw [hF s]
            exact rstep_any c (by omega) (by omega) (by omega) hd
          have hW : ∀ V : World, Calls Try.prog 10 #[.agg c.cells] V fun e w' => e = .returned (.string ⟨#[]⟩) ∧ Below V.heap.size V w' := fun V => hwr ▸ ref_wrong c V
          refine (rscript_any c hW F hS m (by omega) hd).mono ?_
          rintro e w' ⟨⟨v, rfl, hv⟩, hd', ho⟩
          exact ⟨⟨v, rfl, rl_of hv hl⟩, hd', ho⟩
  · have hc0 : ¬ code c 11 0 = 0 := by omega
    refine ⟨[], st, fun w g hd => ?_, fun w g hd => ?_, fun i hi => absurd hi (Nat.not_lt_zero _), Nat.zero_le _, fun _ => rfl⟩
    · exact (script_wrong c hc n hc0 hd).mono fun e w' h => ⟨⟨_, h.1, RL.none _ _⟩, h.2⟩
    · exact (rscript_wrong c hc n hwr hd).mono fun e w' h => ⟨⟨_, h.1, RL.none _ _⟩, h.2⟩
set_option maxHeartbeats 1000000 in
theorem same_rl {w : World} {B B' : Nat} {v v' : Value} {la : List S8} (h : RL w B v la) (h' : RL w B' v' la) (hl : la.length ≤ 201) : Calls Try.prog 13 #[v, v'] w fun e w' => e = .returned (.bool true) ∧ Below w.heap.size w w' := by
  obtain ⟨A, cap, rfl, h1⟩ := h
  obtain ⟨A', cap', rfl, h2⟩ := h'
  rcases h1 with rfl | ⟨r, rfl, _, _, hr⟩
  · clear hl h2
    have e0 : (([] : List S8).length : Nat) = 0 := rfl
    rw [e0]
    clear e0
    go_enter Try.func13, Try.ntmps13
    go_wp2
    refine wp_loop_rounds 1 ?_
    rw [rounds_succ]
    go_wp2
    go_ret
    exact ⟨rfl, Below.refl _ _⟩
  · rcases h2 with rfl | ⟨r', rfl, _, _, hr'⟩
    · clear hl hr
      have e0 : (([] : List S8).length : Nat) = 0 := rfl
      rw [e0]
      clear e0
      go_enter Try.func13, Try.ntmps13
      go_wp2
      refine wp_loop_rounds 1 ?_
      rw [rounds_succ]
      go_wp2
      go_ret
      exact ⟨rfl, Below.refl _ _⟩
    · exact same_steps r r' la.length cap cap' la w (by omega) hr hr'
end Go.Proofs.Ytfojmjgnndlfnaa.DiceW
