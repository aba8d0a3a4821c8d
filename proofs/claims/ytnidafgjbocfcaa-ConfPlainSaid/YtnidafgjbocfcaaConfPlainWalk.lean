/- 'ConfPlain' holds for every input: the walk over what came in. -/
import Derived.Test.YtnidafgjbocfcaaConfPlainLaw
import Derived.Test.YtnidafgjbocfcaaConfOpenB
namespace Go.Proofs.Ytnidafgjbocfcaa.confPlain
open Go.RowKit Conf

theorem code_yes (A : Option Addr) (cap m : Nat) (ac : Int) (h1 : 1 ≤ m) (h4 : m ≤ 4) (a1 : 1 ≤ ac) (a4 : ac ≤ 4) : code (plain A m cap ac) 11 0 = 0 := by
  have hm : m = 1 ∨ m = 2 ∨ m = 3 ∨ m = 4 := by omega
  have ha : ac = 1 ∨ ac = 2 ∨ ac = 3 ∨ ac = 4 := by omega
  rcases hm with rfl | rfl | rfl | rfl <;> rcases ha with rfl | rfl | rfl | rfl <;> rfl
theorem code_none (A : Option Addr) (cap : Nat) (ac : Int) : code (plain A 0 cap ac) 11 0 = 1 := by rfl
theorem code_acc (A : Option Addr) (cap m : Nat) (ac : Int) (h1 : 1 ≤ m) (h4 : m ≤ 4) (a : ac < 1 ∨ 4 < ac) : code (plain A m cap ac) 11 0 = 1 := by
  have hr : right ac 1 4 = false := by
    simp only [right, Bool.and_eq_false_iff, decide_eq_false_iff_not]
    omega
  have hm : m = 1 ∨ m = 2 ∨ m = 3 ∨ m = 4 := by omega
  have h : code (plain A m cap ac) 11 0 = if right (m : Int) 1 4 then (if right ac 1 4 then code (plain A m cap ac) 9 2 else 1) else 1 := rfl
  rw [h, hr]
  split <;> rfl

theorem few (ch ac : Int) (c : Cfg) (h : c.n ≤ 20) (xs : List Bool) (w : World) (hx : Bl w c.A c.n xs) (m : Nat) (hm : m ≤ 4) (hch : (1 ≤ m ↔ 1 ≤ ch))
    (hpl : ∀ w, Calls Try.prog 27 #[.int .i64 ch, .int .i64 ac] w fun e w' => ∃ A cap, e = .returned (.agg (plain A m cap ac).cells) ∧ w'.ownsRow w.heap.size 4 1 (.slice A m cap) m (bools m) ∧ Below w.heap.size w w')
    (hin : ∀ k : Nat, k < m → (k : Int) < ch) (hout : ¬ (m : Int) < ch ∨ m = 4) :
    Calls Try.prog 6 #[.int .i64 ch, .int .i64 ac, .agg c.cells] w fun e w' => e = .returned (.bool true) ∧ Below w.heap.size w w' := by
  have hrp := rplain_any ch ac m hm hin hout
  by_cases h1 : 1 ≤ m
  · by_cases a1 : 1 ≤ ac
    · by_cases a4 : ac ≤ 4
      · exact cp_few ch ac m hm c h xs hpl hrp 0 (fun A cap => code_yes A cap m ac h1 hm a1 a4) (Or.inl ⟨rfl, hch.1 h1, a1, a4⟩) w hx
      · exact cp_few ch ac m hm c h xs hpl hrp 1 (fun A cap => code_acc A cap m ac h1 hm (Or.inr (by omega))) (Or.inr (Or.inr (Or.inr ⟨rfl, hch.1 h1, a1, by omega⟩))) w hx
    · exact cp_few ch ac m hm c h xs hpl hrp 1 (fun A cap => code_acc A cap m ac h1 hm (Or.inl (by omega))) (Or.inr (Or.inr (Or.inl ⟨rfl, hch.1 h1, by omega⟩))) w hx
  · obtain rfl : m = 0 := by omega
    have h0 : ch < 1 := by
      rcases Int.lt_or_le ch 1 with h | h
      · exact h
      · exact absurd (hch.2 h) h1
    exact cp_few ch ac 0 hm c h xs hpl hrp 1 (fun A cap => code_none A cap ac) (Or.inr (Or.inl ⟨rfl, h0⟩)) w hx

set_option maxRecDepth 100000 in
theorem walk {H : Type} {enc : TypeId × Value → H} {spare : Nat → Bool} {held : Bool} {w : World} {base : Nat} {v : Value} {d : DataW H} {p : List MemPlace} (ch : Int) (_ : (Lit.int .i64 ch).wf = true) (ac : Int) (_ : (Lit.int .i64 ac).wf = true)
    (ok : Value.okWide Try.prog w .any base 53 v) (h : DataW.Trod enc Try.prog w 0 spare held 53 v d p) :
    Calls Try.prog 6 #[.int .i64 ch, .int .i64 ac, v] w fun e w' => e = .returned (.bool true) ∧ Below w.heap.size w w' := by
  obtain ⟨c, xs, rfl, _, hx⟩ := open_config_val ok h
  by_cases hc : 20 < c.n
  · exact cp_many ch ac c hc w
  · by_cases h0 : ch < 0
    · exact few ch ac c (by omega) xs w hx 0 (by omega) (by omega) (plain_low ch h0 ac) (fun k hk => absurd hk (Nat.not_lt_zero _)) (Or.inl (by omega))
    · by_cases h4 : 4 < ch
      · exact few ch ac c (by omega) xs w hx 4 (by omega) (by omega) (plain_high ch h4 ac) (fun k hk => by omega) (Or.inr rfl)
      · obtain ⟨m, rfl⟩ := Int.eq_ofNat_of_zero_le (by omega : 0 ≤ ch)
        exact few m ac c (by omega) xs w hx m (by omega) (by omega) (plain_mid m (by omega) ac) (fun k hk => by omega) (Or.inl (by omega))
end Go.Proofs.Ytnidafgjbocfcaa.confPlain
