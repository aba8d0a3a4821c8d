/- The page's forest, beside the tokens themselves. -/
import Derived.Test.YticcobciafbleaaToken
import Derived.Test.YticcobciafbleaaRows2
namespace Go.Proofs.Yticcobciafbleaa.Forest
open Go.RowKit Go.Shelf Token

def ptrs (gs : List Nat) : List Value := gs.map fun g => .pointer (some ⟨g, 0, none⟩)
def par (gs : List Nat) (p : Int) : Option Addr := if p < 0 then none else some ⟨gs.getD p.toNat 0, 0, none⟩
abbrev TP : Nat := 41
abbrev TE : Nat := 26
abbrev TF : Nat := 48
abbrev TT : Nat := 145

theorem ptrs_at (gs : List Nat) (j : Nat) (h : j < gs.length) : (ptrs gs)[j]? = some (.pointer (some ⟨gs.getD j 0, 0, none⟩)) := by
  unfold ptrs
  rw [List.getElem?_map, List.getElem?_eq_getElem h, List.getD_eq_getElem?_getD, List.getElem?_eq_getElem h]; rfl

/-- Who hangs on whom: of each the own code. -/
structure Up (n : Nat) (ps : List Int) : Prop where
  up : ∀ k, k < n → ps.getD k 0 = -1 ∨ ∃ j : Nat, ps.getD k 0 = (j : Int) ∧ j < k

def chain (ps cs : List Int) : Nat → Nat → List Int
  | 0, _ => []
  | n + 1, k => cs.getD k 0 :: (if ps.getD k 0 < 0 then [] else chain ps cs n (ps.getD k 0).toNat)
def ch (ps cs : List Int) (k : Nat) : List Int := chain ps cs (k + 1) k

theorem chain_fuel {N : Nat} {ps cs : List Int} (h : Up N ps) : ∀ (m k n : Nat), k < m → k < n → k < N → chain ps cs n k = ch ps cs k := by
  intro m
  induction m with
  | zero => intro k n hk; omega
  | succ m ih =>
    intro k n hk hn hN
    obtain ⟨n, rfl⟩ : ∃ n', n = n' + 1 := ⟨n - 1, by omega⟩
    unfold ch
    rw [chain, chain]
    rcases h.up k hN with hp | ⟨j, hp, hj⟩
    · rw [hp]; rfl
    · rw [hp]
      have hn0 : ¬ (j : Int) < 0 := by omega
      rw [if_neg hn0, if_neg hn0, Int.toNat_natCast, ih j n (by omega) (by omega) (by omega), ih j k (by omega) hj (by omega)]
theorem ch_root {ps cs : List Int} {k : Nat} (hp : ps.getD k 0 = -1) : ch ps cs k = [cs.getD k 0] := by
  unfold ch; rw [chain, hp]; rfl
theorem ch_child {N : Nat} {ps cs : List Int} (h : Up N ps) {k j : Nat} (hk : k < N) (hp : ps.getD k 0 = (j : Int)) (hj : j < k) : ch ps cs k = cs.getD k 0 :: ch ps cs j := by
  unfold ch
  rw [chain, hp, if_neg (by omega), Int.toNat_natCast, chain_fuel h (j + 1) j k (by omega) hj (by omega)]
  rfl

structure F (w : World) (B f : Nat) (a p o : Value) (gs : List Nat) (ps cs : List Int) : Prop where
  lp : ps.length = gs.length
  lc : cs.length = gs.length
  hB : B ≤ f
  box : w.heap[f]? = some (.cells #[p, o] TF (0, 0))
  rp : w.ownsRow B 3 1 p gs.length (ints ps)
  ro : w.ownsRow B TE 1 o gs.length (ints cs)
  row : w.ownsRow B TP 1 a gs.length (ptrs gs)
  gB : ∀ k, k < gs.length → B ≤ gs.getD k 0
  up : Up gs.length ps
  inc : ∀ j k, j < k → k < gs.length → gs.getD j 0 < gs.getD k 0
  tok : ∀ k, k < gs.length → w.heap[gs.getD k 0]? = some (.cells #[.pointer (par gs (ps.getD k 0)), .int .i64 (cs.getD k 0)] TT (0, 0))

theorem F.chain {w : World} {B f : Nat} {a p o : Value} {gs : List Nat} {ps cs : List Int} (h : F w B f a p o gs ps cs) : ∀ m k, k < m → k < gs.length → Tok w (gs.getD k 0 + 1) (some ⟨gs.getD k 0, 0, none⟩) (ch ps cs k) := by
  intro m
  induction m with
  | zero => intro k hk; omega
  | succ m ih =>
    intro k hk hN
    have ht := h.tok k hN
    rcases h.up.up k hN with hp | ⟨j, hp, hj⟩
    · rw [ch_root hp]
      rw [hp] at ht
      exact ⟨_, none, rfl, by omega, ht, rfl⟩
    · rw [ch_child h.up hN hp hj]
      rw [hp] at ht
      have e : par gs (j : Int) = some ⟨gs.getD j 0, 0, none⟩ := by unfold par; rw [if_neg (by omega), Int.toNat_natCast]
      rw [e] at ht
      exact ⟨_, _, rfl, by omega, ht, (ih j (by omega) (by omega)).mono (h.inc j k hj hN)⟩
theorem F.tk {w : World} {B f : Nat} {a p o : Value} {gs : List Nat} {ps cs : List Int} (h : F w B f a p o gs ps cs) (k : Nat) (hk : k < gs.length) : Tok w (gs.getD k 0 + 1) (some ⟨gs.getD k 0, 0, none⟩) (ch ps cs k) := h.chain (k + 1) k (Nat.lt_succ_self _) hk

theorem reads {w : World} {B e n c : Nat} {A : Option Addr} {zs : List Int} (h : w.ownsRow B e 1 (.slice A n c) n (ints zs)) (hz : zs.length = n) (j : Nat) (hj : j < n) : ∃ u, A = some ⟨u, 0, none⟩ ∧ w.cell? ⟨u, j, none⟩ = some (.int .i64 (zs.getD j 0)) := by
  obtain ⟨u, rfl, _⟩ := own_at h (by omega)
  exact ⟨u, rfl, (h.cellAt j (by omega)).trans (ints_at zs j (by omega))⟩

set_option maxHeartbeats 1000000 in
theorem ref_reason {w : World} {B f : Nat} {a p o : Value} {gs : List Nat} {ps cs : List Int} (h : F w B f a p o gs ps cs) (hn : gs.length ≤ 100) (k : Nat) (hk : k < gs.length) :
    Calls Try.prog 26 #[.pointer (some ⟨f, 0, none⟩), .int .i64 (k : Int)] w fun e w' => e = .returned (.int .i64 (first (ch ps cs k))) ∧ w' = w := by
  obtain ⟨Ap, cp, rfl⟩ := own_form h.rp
  obtain ⟨Ao, co, rfl⟩ := own_form h.ro
  have b0 := cell_of_row w f 0 _ _ (0, 0) h.box
  have b1 := cell_of_row w f 1 _ _ (0, 0) h.box
  simp at b0 b1
  have H := Lib.hid h
  clear h
  have hg1 : (gs.length : Int) ≤ 100 := by omega
  go_enter Try.func26, Try.ntmps26
  go_wp2
  go_loopw [1, 5] (fun at_ i wr => wr = w ∧ ∃ (n : Nat) (x : Int), i = .int .i64 (n : Int) ∧ at_ = .int .i64 x ∧ ((x = -1 ∧ first (ch ps cs k) = 0 ∧ n ≤ k + 1) ∨ ∃ j : Nat, x = (j : Int) ∧ n + j ≤ k ∧ first (ch ps cs k) = first (ch ps cs j)))
    (fun at_ _ _ => (intOf at_ + 1).toNat)
  case atStart => exact ⟨rfl, 0, (k : Int), rfl, rfl, .inr ⟨k, rfl, by omega, rfl⟩⟩
  case round =>
    obtain ⟨rfl, n, x, rfl, rfl, hx⟩ := hrel
    rcases hx with ⟨rfl, hf, hnk⟩ | ⟨j, rfl, hj, hf⟩
    · have hle : (n : Int) ≤ (gs.length : Int) := by omega
      have HF := Lib.hid hf
      clear hf
      go_wp2
      go_ret
      exact ⟨by rw [HF.out]; rfl, rfl⟩
    · have hle : (n : Int) ≤ (gs.length : Int) := by omega
      have hjn : j < gs.length := by omega
      obtain ⟨uo, rfl, xo⟩ := reads H.out.ro H.out.lc j hjn
      obtain ⟨up, rfl, xp⟩ := reads H.out.rp H.out.lp j hjn
      have hj0 : (0 : Int) ≤ (j : Int) := by omega
      have hj1 : (j : Int) < (gs.length : Int) := by omega
      have HF := Lib.hid hf
      clear hf
      by_cases hc : cs.getD j 0 = 0
      · rcases H.out.up.up j hjn with hp | ⟨j', hp, hj'⟩
        · have hfj : first (ch ps cs j) = 0 := by rw [ch_root hp, hc]; rfl
          rw [hc] at xo
          rw [hp] at xp
          have HJ := Lib.hid (HF.out.trans hfj)
          clear hp hc hfj
          go_wp2
          exact ⟨⟨trivial, n + 1, -1, by go_num, rfl, .inl ⟨rfl, HJ.out, by omega⟩⟩, by simp [intOf] <;> omega⟩
        · have hfj : first (ch ps cs j) = first (ch ps cs j') := by rw [ch_child H.out.up hjn hp hj', hc]; exact first_zero _
          rw [hc] at xo
          rw [hp] at xp
          have HJ := Lib.hid (HF.out.trans hfj)
          clear hp hc hfj
          go_wp2
          exact ⟨⟨trivial, n + 1, (j' : Int), by go_num, rfl, .inr ⟨j', rfl, by omega, HJ.out⟩⟩, by simp [intOf] <;> omega⟩
      · have hfj : first (ch ps cs j) = cs.getD j 0 := by
          rcases H.out.up.up j hjn with hp | ⟨j', hp, hj'⟩
          · rw [ch_root hp]; exact first_hit _ hc
          · rw [ch_child H.out.up hjn hp hj']; exact first_hit _ hc
        have hcb : (cs.getD j 0 == 0) = false := by simpa using hc
        have HJ := Lib.hid (HF.out.trans hfj)
        clear hfj xp
        have hcb2 : (cs.getD j 0 != 0) = true := by simpa using hc
        have hjd : decide ((j : Int) < 0) = false := decide_eq_false (by omega)
        generalize cs.getD j 0 = c at *
        go_wp2
        go_ret
        exact ⟨by rw [HJ.out]; rfl, rfl⟩

set_option maxHeartbeats 1000000 in
theorem ref_depth {w : World} {B f : Nat} {a p o : Value} {gs : List Nat} {ps cs : List Int} (h : F w B f a p o gs ps cs) (hn : gs.length ≤ 100) (k : Nat) (hk : k < gs.length) :
    Calls Try.prog 30 #[.pointer (some ⟨f, 0, none⟩), .int .i64 (k : Int)] w fun e w' => e = .returned (.int .i64 (((ch ps cs k).length - 1 : Nat) : Int)) ∧ w' = w := by
  obtain ⟨Ap, cp, rfl⟩ := own_form h.rp
  obtain ⟨Ao, co, rfl⟩ := own_form h.ro
  have b0 := cell_of_row w f 0 _ _ (0, 0) h.box
  simp at b0
  have H := Lib.hid h
  clear h
  have hg1 : (gs.length : Int) ≤ 100 := by omega
  go_enter Try.func30, Try.ntmps30
  go_wp2
  go_loopw [1, 5, 6] (fun at_ n i wr => wr = w ∧ ∃ (m j : Nat), i = .int .i64 (m : Int) ∧ n = .int .i64 (m : Int) ∧ at_ = .int .i64 (j : Int) ∧ m + j ≤ k ∧ m + (ch ps cs j).length = (ch ps cs k).length)
    (fun at_ _ _ _ => (intOf at_ + 1).toNat)
  case atStart => exact ⟨rfl, 0, k, rfl, rfl, rfl, by omega, by omega⟩
  case round =>
    obtain ⟨rfl, m, j, rfl, rfl, rfl, hj, hl⟩ := hrel
    have hle : (m : Int) ≤ (gs.length : Int) := by omega
    have hjn : j < gs.length := by omega
    obtain ⟨up, rfl, xp⟩ := reads H.out.rp H.out.lp j hjn
    have hj0 : (0 : Int) ≤ (j : Int) := by omega
    have hj1 : (j : Int) < (gs.length : Int) := by omega
    have HL := Lib.hid hl
    clear hl
    rcases H.out.up.up j hjn with hp | ⟨j', hp, hj'⟩
    · have hlj : (ch ps cs j).length = 1 := by rw [ch_root hp]; rfl
      rw [hp] at xp
      have HJ := Lib.hid (show m = (ch ps cs k).length - 1 by have := HL.out; omega)
      clear hp hlj
      go_wp2
      go_ret
      exact ⟨by rw [← HJ.out]; rfl, rfl⟩
    · have hlj : (ch ps cs j).length = (ch ps cs j').length + 1 := by rw [ch_child H.out.up hjn hp hj']; rfl
      rw [hp] at xp
      have HJ := Lib.hid (show m + 1 + (ch ps cs j').length = (ch ps cs k).length by have := HL.out; omega)
      have hj'0 : (0 : Int) ≤ (j' : Int) := by omega
      clear hp hlj
      go_wp2
      exact ⟨⟨trivial, m + 1, j', by go_num, by go_num, rfl, by omega, HJ.out⟩, by simp [intOf] <;> omega⟩
end Go.Proofs.Yticcobciafbleaa.Forest
