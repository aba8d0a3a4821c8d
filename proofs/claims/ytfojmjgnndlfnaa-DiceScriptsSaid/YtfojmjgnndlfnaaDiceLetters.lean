/- Dice: a config and a script thrown, by letters. -/
import Derived.Test.YtfojmjgnndlfnaaDiceSame
namespace Go.Proofs.Ytfojmjgnndlfnaa.DiceW
open Go Go.RowKit Conf Dice

theorem code_ok (A : Option Addr) (n cap : Nat) (f1 f2 f3 f4 f5 f6 f7 f8 f9 f10 f11 : Int) (h0 : 1 ≤ n ∧ n ≤ 4) (h1 : 1 ≤ f1 ∧ f1 ≤ 4) (h2 : 1 ≤ f2 ∧ f2 ≤ 8) (h3 : 1 ≤ f3 ∧ f3 ≤ 64) (h4 : 1 ≤ f4 ∧ f4 ≤ 32) (h5 : 1 ≤ f5 ∧ f5 ≤ 16) (h6 : 1 ≤ f6 ∧ f6 ≤ 8) (h7 : 1 ≤ f7 ∧ f7 ≤ 4) (h8 : 1 ≤ f8 ∧ f8 ≤ 8) (h9 : 1 ≤ f9 ∧ f9 ≤ 16) (h10 : 0 ≤ f10 ∧ f10 ≤ 8) : code ⟨A, n, cap, f1, f2, f3, f4, f5, f6, f7, f8, f9, f10, f11⟩ 11 0 = 0 := by
  have r : ∀ (x l h : Int), l ≤ x → x ≤ h → right x l h = true := fun x l h a b => by simp [right, a, b]
  have e0 := r (n : Int) 1 4 (by omega) (by omega)
  have e1 := r f1 1 4 h1.1 h1.2
  have e2 := r f2 1 8 h2.1 h2.2
  have e3 := r f3 1 64 h3.1 h3.2
  have e4 := r f4 1 32 h4.1 h4.2
  have e5 := r f5 1 16 h5.1 h5.2
  have e6 := r f6 1 8 h6.1 h6.2
  have e7 := r f7 1 4 h7.1 h7.2
  have e8 := r f8 1 8 h8.1 h8.2
  have e9 := r f9 1 16 h9.1 h9.2
  have e10 := r f10 0 8 h10.1 h10.2
  simp [code, Cfg.at, lo, hi, e0, e1, e2, e3, e4, e5, e6, e7, e8, e9, e10]
theorem belz_in (s n : Int) (h : 1 ≤ n) (h1 : n ≤ 1000) : 0 ≤ belZ s n ∧ belZ s n < n := by
  unfold belZ
  rw [if_neg (by omega)]
  exact bel_lo h (by omega)
theorem w1_in (s n : Int) (h : 1 ≤ n) (h1 : n ≤ 1000) : 1 ≤ w1 (belZ s n) ∧ w1 (belZ s n) ≤ n := by
  have := belz_in s n h h1
  unfold w1
  rw [IntWalk.wrap64_in _ ⟨by omega, by omega⟩]
  omega
theorem dn_in (s : Int) : 1 ≤ dn s ∧ dn s ≤ 3 := by
  have := belz_in s 3 (by decide) (by decide)
  unfold dn
  omega
theorem widen {x a b c : Int} (h : a ≤ x ∧ x ≤ b) (hbc : b ≤ c) : a ≤ x ∧ x ≤ c := ⟨h.1, Int.le_trans h.2 hbc⟩
/-- what is known of a config thrown -/
structure CL (st : Int) (n : Nat) (f1 f2 f3 f4 f5 f6 f7 f8 f9 f10 f11 : Int) (bs : Nat → Bool) (s' : Int) : Prop where
  n1 : 1 ≤ n
  n4 : n ≤ 4
  code : ∀ A, Conf.code ⟨A, n, n, f1, f2, f3, f4, f5, f6, f7, f8, f9, f10, f11⟩ 11 0 = 0
  acc : f1 ≤ 9223372036854775807
  cfg : ∀ (w : World) (g : Nat), D TD w g st → Calls Try.prog 7 #[.pointer (some ⟨g, 0, none⟩)] w fun e w' => ∃ u C, e = .returned (.agg C) ∧ C = #[.slice (some ⟨u, 0, none⟩) n n, .int .i64 f1, .int .i64 f2, .int .i64 f3, .int .i64 f4, .int .i64 f5, .int .i64 f6, .int .i64 f7, .int .i64 f8, .int .i64 f9, .int .i64 f10, .int .u64 f11] ∧ u < w'.heap.size ∧ (∀ j, j < n → w'.cell? ⟨u, j, none⟩ = some (.bool (bs j))) ∧ D TD w' g s' ∧ On g w w' ∧ w.heap.size ≤ u
theorem cl_any (st : Int) : ∃ n f1 f2 f3 f4 f5 f6 f7 f8 f9 f10 f11 bs s', CL st n f1 f2 f3 f4 f5 f6 f7 f8 f9 f10 f11 bs s' := by
  have hn := dn_in st
  refine ⟨dn st, w1 (belZ (ds0 st) 2), w1 (belZ (ds1 st) 3), w1 (belZ (ds2 st) 5), w1 (belZ (ds3 st) 5), w1 (belZ (ds4 st) 3), w1 (belZ (ds5 st) 3), w1 (belZ (ds6 st) 2), w1 (belZ (ds7 st) 4), w1 (belZ (ds8 st) 5), belZ (ds9 st) 3, IntKind.u64.wrap (belZ (ds10 st) 1000), fun j => belZ (it (j + 1) st) 3 == 0, ds11 st, hn.1, Nat.le_succ_of_le hn.2, fun A => ?_, ?_, fun w g hd => ?_⟩
  · have a1 := w1_in (ds0 st) 2 (by decide) (by decide)
    have a2 := w1_in (ds1 st) 3 (by decide) (by decide)
    have a3 := w1_in (ds2 st) 5 (by decide) (by decide)
    have a4 := w1_in (ds3 st) 5 (by decide) (by decide)
    have a5 := w1_in (ds4 st) 3 (by decide) (by decide)
    have a6 := w1_in (ds5 st) 3 (by decide) (by decide)
    have a7 := w1_in (ds6 st) 2 (by decide) (by decide)
    have a8 := w1_in (ds7 st) 4 (by decide) (by decide)
    have a9 := w1_in (ds8 st) 5 (by decide) (by decide)
    have a10 := belz_in (ds9 st) 3 (by decide) (by decide)
    exact code_ok A _ _ _ _ _ _ _ _ _ _ _ _ _ ⟨hn.1, Nat.le_succ_of_le hn.2⟩ (widen a1 (by decide)) (widen a2 (by decide)) (widen a3 (by decide)) (widen a4 (by decide)) (widen a5 (by decide)) (widen a6 (by decide)) (widen a7 (by decide)) (widen a8 (by decide)) (widen a9 (by decide)) ⟨a10.1, Int.le_trans (Int.le_of_lt a10.2) (by decide)⟩
  · exact Int.le_trans (w1_in (ds0 st) 2 (by decide) (by decide)).2 (by decide)
  · refine (config_any hd).mono ?_
    rintro e w' ⟨A, rfl, ⟨u, rfl, hu, hb⟩, hd', ho, hl⟩
    exact ⟨u, _, rfl, rfl, hu, hb, hd', ho, hl u rfl⟩
theorem scrG_first (f : Int → S8 × Int) : ∀ (k : Nat) (st : Int), (scrG f k st).1.getD 0 s80 = ⟨8, 0, 0, 0, 0, 0, 0, ⟨#[]⟩⟩
  | 0, st => by rw [scrG_0]; rfl
  | k + 1, st => by
    have h := scr_len f k st
    have ih := scrG_first f k st
    rw [List.getD_eq_getElem?_getD] at ih ⊢
    rw [scrG_l, List.getElem?_append_left (by omega)]
    exact ih
/-- what is known of a script thrown -/
theorem script_l {st : Int} {n : Nat} {f1 f2 f3 f4 f5 f6 f7 f8 f9 f10 f11 : Int} {bs : Nat → Bool} {s' : Int} (h : CL st n f1 f2 f3 f4 f5 f6 f7 f8 f9 f10 f11 bs s') (m : Nat) (hm : m ≤ 100) : ∃ l : List S8, l.length = m + 1 ∧ l.getD 0 s80 = ⟨8, 0, 0, 0, 0, 0, 0, ⟨#[]⟩⟩ ∧
    ∀ (w : World) (g u : Nat), D TD w g s' → Calls Try.prog 11 #[.pointer (some ⟨g, 0, none⟩), .agg #[.slice (some ⟨u, 0, none⟩) n n, .int .i64 f1, .int .i64 f2, .int .i64 f3, .int .i64 f4, .int .i64 f5, .int .i64 f6, .int .i64 f7, .int .i64 f8, .int .i64 f9, .int .i64 f10, .int .u64 f11], .int .i64 (1 + (m : Int))] w fun e w' => ∃ r cp, e = .returned (.slice (some ⟨r, 0, none⟩) (m + 1) cp) ∧ r < w'.heap.size ∧ w.heap.size ≤ r ∧ (∀ i, i < m + 1 → At w' r (i * 8) (l.getD i s80)) ∧ On g w w' := by
  obtain ⟨F, hF⟩ : ∃ F : Int → S8 × Int, ∀ s, F s = stepF s (n : Int) f1 := ⟨fun s => stepF s (n : Int) f1, fun _ => rfl⟩
  refine ⟨(scrG F m s').1, scr_len F m s', scrG_first F m s', fun w g u hd => ?_⟩
  have hS : ∀ (V : World) (s : Int), D TD V g s → Calls Try.prog 17 #[.pointer (some ⟨g, 0, none⟩), .agg (Cfg.cells ⟨some ⟨u, 0, none⟩, n, n, f1, f2, f3, f4, f5, f6, f7, f8, f9, f10, f11⟩)] V fun e w' => e = .returned (.agg (F s).1.cells) ∧ D TD w' g (F s).2 ∧ On g V w' := fun V s hd => by
    rw [hF s]
    exact step_any ⟨some ⟨u, 0, none⟩, n, n, f1, f2, f3, f4, f5, f6, f7, f8, f9, f10, f11⟩ (h.code _) h.n1 h.n4 h.acc hd
  have hr := script_any ⟨some ⟨u, 0, none⟩, n, n, f1, f2, f3, f4, f5, f6, f7, f8, f9, f10, f11⟩ (h.code _) h.n1 h.n4 F hS m (by omega) hd
  rw [Int.add_comm 1 (m : Int)]
  refine hr.mono ?_
  rintro e w' ⟨⟨v, rfl, hv⟩, -, ho⟩
  obtain ⟨r, cp, rfl, hr1, hr2⟩ := row_at hv (scr_len F m s') (Nat.succ_pos m)
  exact ⟨r, cp, rfl, hr1, own_ge hv r rfl, hr2, ho⟩
theorem on_below {g B : Nat} {w w' : World} (h : On g w w') (hg : B ≤ g) (hB : B ≤ w.heap.size) : Below B w w' :=
  ⟨h.os, h.tape, h.output, h.size, fun k hk => h.block k (by omega) (by omega)⟩
theorem At.keep {w w' : World} {r o : Nat} {m : S8} (h : At w r o m) (hb : w'.heap[r]? = w.heap[r]?) : At w' r o m := by
  have e : ∀ i, w'.cell? ⟨r, i, none⟩ = w.cell? ⟨r, i, none⟩ := fun i => World.cell?_of_block (a := ⟨r, i, none⟩) hb
  unfold At
  simp only [e]
  exact h
set_option maxHeartbeats 1000000 in
theorem awake_any (W : World) : Calls Try.prog 5 #[] W fun e w' => e = .returned (.bool true) ∧ Below W.heap.size W w' := by
  have ht : thr 0 = 16294208416658607535 := by decide +kernel
  go_enter Try.func5, Try.ntmps5
  go_wp2_with fail
  refine (new_any 0 _).mono ?_
  rintro _ w1 ⟨rfl, d1, b1, -⟩
  have HT := Lib.hid (throw_any d1)
  rw [ht] at HT
  go_wp2_with fail
  refine HT.out.mono ?_
  rintro _ w2 ⟨rfl, hw⟩
  have hb : Below W.heap.size W w2 := by rw [hw]; exact b1.setCell (p := ⟨W.heap.size, 0, none⟩) (Nat.le_refl _) _
  clear hw b1 d1 HT ht
  go_wp2
  go_ret
  exact ⟨rfl, hb⟩
end Go.Proofs.Ytfojmjgnndlfnaa.DiceW
