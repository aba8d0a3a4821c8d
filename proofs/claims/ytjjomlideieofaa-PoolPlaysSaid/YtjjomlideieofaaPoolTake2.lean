/- A pool of transactions: Take, the walk. -/
import Derived.Test.YtjjomlideieofaaPoolTake
namespace Go.Proofs.Ytjjomlideieofaa.Msg
open Go Go.RowKit

def PTake (w : World) (base g : Nat) (most : Int) (ts : List T4) (m : Nat) (e : Ending) (w' : World) : Prop :=
  ∃ u f, e = .returned u ∧ w'.ownsRow w.heap.size TT 4 u m (tcells (ts.take m)) ∧ Pl w' base g f most (ts.drop m) ∧ KM w w' ∧ Only g w w' ∧ Below base w w'

/-- Between two rounds of Take. -/
structure TK (w W : World) (base g : Nat) (most : Int) (ts : List T4) (k : Nat) (l : Value) : Prop where
  row : W.ownsRow w.heap.size TT 4 l k (tcells (ts.take k))
  pool : ∃ f, Pl W base g f most (ts.drop k)
  km : KM w W
  only : Only g w W
  bel : Below base w W

set_option maxRecDepth 100000 in
set_option maxHeartbeats 4000000 in
theorem ptake_any {w : World} {base g first : Nat} {most : Int} {ts : List T4} (h : Pl w base g first most ts) (hbw : base ≤ w.heap.size) (n : Int) (m : Nat) (hm : m = min n.toNat ts.length) :
    Calls Try.prog 15 #[.pointer (some ⟨g, 0, none⟩), .int .i64 n] w (PTake w base g most ts m) := by
  obtain ⟨i1, hi1, hy0, hy1, hy2⟩ := info_parts infoT
  have hle := h.le
  have hgb := h.hg
  have h0 : TK w w base g most ts 0 (.slice none 0 0) := ⟨World.ownsRow_nil _ _ _ _, ⟨first, h⟩, KM.refl w, Only.refl g w, Below.refl _ _⟩
  have H0 := Lib.hid h0
  have HM := Lib.hid hm
  clear h0 h hm
  go_enter Try.func15, Try.ntmps15
  go_wp2
  go_loopw [5] (fun l wr => ∃ k : Nat, k ≤ m ∧ TK w wr base g most ts k l) (fun l _ => match l with | .slice _ k _ => m - k | _ => 0)
  case atStart => exact ⟨0, Nat.zero_le _, H0.out⟩
  case round =>
    obtain ⟨k, hk, htk⟩ := hrel
    obtain ⟨A, c, rfl⟩ := own_formN htk.row
    have HT := Lib.hid htk
    obtain ⟨f, hp⟩ := htk.pool
    have HP := Lib.hid hp
    clear htk hp
    have hkt : k ≤ ts.length := by have := HM.out; omega
    by_cases hkn : (k : Int) < n
    · by_cases hlt : k < ts.length
      · have hkm : k < m := by have := HM.out; omega
        have hLen := Lib.hid (plen_any HP.out)
        have hdl : (ts.drop k).length = ts.length - k := List.length_drop
        rw [hdl] at hLen
        have hpos : (0 : Int) < ((ts.length - k : Nat) : Int) := by omega
        go_wp2_with fail
        refine hLen.out.mono ?_
        rintro e w' ⟨rfl, hw'⟩
        obtain rfl := hw'.symm
        go_wp2_with fail
        refine (place_any HP.out 0 (by omega)).mono ?_
        rintro e wp ⟨rfl, q, rfl⟩
        obtain ⟨x, hx⟩ : ∃ x, ts.drop k = x :: ts.drop (k + 1) := ⟨ts[k], List.drop_eq_getElem_cons hlt⟩
        have htake : ts.take (k + 1) = ts.take k ++ [x] := by
          rw [List.take_succ_eq_append_getElem hlt]
          rw [List.drop_eq_getElem_cons hlt] at hx
          injection hx with h1
          rw [h1]
        have HX := Lib.hid (And.intro hx htake)
        have hf := HP.out.lt
        have hf0 : (f + 0) % 32 * 4 = f * 4 := by omega
        rw [hf0]
        have hPq : Pl (wr.drewN q) base g f most (x :: ts.drop (k + 1)) := by
          have := HP.out
          rw [hx] at this
          exact ⟨this.hg, this.lt, this.le, this.blk, this.rows⟩
        have hrow : (wr.drewN q).ownsRow w.heap.size TT 4 (.slice A k c) k (tcells (ts.take k)) := HT.out.row
        have hzw : w.heap.size ≤ wr.heap.size := HT.out.only.1
        have a0 := hPq.at 0 (by simp) 0 (by omega)
        have a1 := hPq.at 0 (by simp) 1 (by omega)
        have a2 := hPq.at 0 (by simp) 2 (by omega)
        have a3 := hPq.at 0 (by simp) 3 (by omega)
        rw [hf0] at a0 a1 a2 a3
        simp [T4.cells] at a0 a1 a2 a3
        have HQ := Lib.hid hPq
        have hg1 : g < wr.heap.size := hPq.g_lt
        clear hx htake hf0 hPq hLen
        go_wp2_with (at_builtin; refine wpList_append_own_at _ rfl _ _ 34 rfl w.heap.size 40 i1 _ 4 48 Try.underlying34 hi1 hy0 hy1 hy2 rfl (by decide) _ _ _ rfl (hrow.alloc _) ⟨wr.heap.size, 0, none⟩ 1 1 x.cells.toList rfl rfl (cells4_new (wr.drewN q) x _) (cells4_one x) (by unfold maxLen; omega) (by omega) (by simp; omega) ?_)
        intro v1 w2 hown2 hg2 _ _
        obtain ⟨hP2, hK2⟩ := HQ.out.append (W2 := w2) hrow hg2
        have hO2 : Only g w w2 := Only.append (W := wr.drewN q) HT.out.only hrow (Nat.le_refl _) hg2
        have hB2 : Below base w w2 := ((below_drewN HT.out.bel q).alloc (by show base ≤ wr.heap.size; omega) _).grown hg2 (by simp; omega) (fun j hj => by have := own_ge hrow j hj; omega)
        obtain ⟨c0, c1, c2⟩ := hP2.cells
        have z := hP2.there
        obtain ⟨u0, z0⟩ := z (f * 4) (by omega)
        obtain ⟨u1, z1⟩ := z (f * 4 + 1) (by omega)
        obtain ⟨u2, z2⟩ := z (f * 4 + 2) (by omega)
        obtain ⟨u3, z3⟩ := z (f * 4 + 3) (by omega)
        have f0 := hP2.free (f * 4)
        have f1 := hP2.free (f * 4 + 1)
        have f2 := hP2.free (f * 4 + 2)
        have f3 := hP2.free (f * 4 + 3)
        have f8 := hP2.free 128
        have f9 := hP2.free 129
        have H2 := Lib.hid (And.intro hP2 (And.intro hK2 (And.intro hO2 (And.intro hB2 hown2))))
        have hl9 : ((x :: ts.drop (k + 1)).length : Int) = ((ts.drop (k + 1)).length + 1 : Nat) := by simp
        rw [hl9] at c1
        obtain ⟨r, hr⟩ : ∃ r, r = (ts.drop (k + 1)).length := ⟨_, rfl⟩
        rw [← hr] at c1
        have e0 : ((r + 1 : Nat) : Int) - 1 = (r : Int) := by omega
        have er : IntKind.i64.wrap (((r + 1 : Nat) : Int) - 1) = (r : Int) := by rw [e0]; exact IntWalk.i64_in _ (by have := HQ.out.le; simp at this; simp [hr]; omega)
        have ef : IntKind.i64.wrap ((f : Int) + 1) = ((f + 1 : Nat) : Int) := by rw [IntWalk.i64_in _ (by omega)]; omega
        obtain ⟨f', hf'⟩ : ∃ f', f' = (f + 1) % 32 := ⟨_, rfl⟩
        have efm : ((f : Int) + 1) % 32 = (f' : Int) := by omega
        have HR := Lib.hid (And.intro hr hf')
        have hrb : (r : Int) ≤ 32 := by have := HQ.out.le; simp at this; simp [hr]; omega
        have hn129 : f * 4 + 3 < 128 := by omega
        clear hP2 hK2 hO2 hB2 hown2 hg2 hl9 hr hf' z c2
        go_wp2
        obtain ⟨Av, cv, hv⟩ := own_formN H2.out.2.2.2.2
        subst hv
        go_roundw
        case rel =>
          refine ⟨k + 1, by omega, ?_⟩
          obtain ⟨hP2, hK2, hO2, hB2, hown2⟩ := H2.out
          obtain ⟨cs, hcs, _⟩ := hP2.blk
          have hpop := hP2.pop
          rw [← HR.out.1, ← HR.out.2] at hpop
          have b1 := set_pool (i := f * 4) (v := .int .i64 0) hcs
          have b2 := set_pool (i := f * 4 + 1) (v := .int .i64 0) b1
          have b3 := set_pool (i := f * 4 + 2) (v := .int .u64 0) b2
          have b4 := set_pool (i := f * 4 + 3) (v := .slice none 0 0) b3
          have b5 := set_pool (i := 128) (v := .int .i64 (f' : Int)) b4
          refine ⟨?_, ⟨f', hpop.1⟩, (HT.out.km.trans hK2).trans hpop.2, (((((hO2.set _).set _).set _).set _).set _).set _, ?_⟩
          · have h9 := own_setTT (i := 129) (u := .int .i64 (r : Int)) (own_setTT (i := 128) (u := .int .i64 (f' : Int)) (own_setTT (i := f * 4 + 3) (u := .slice none 0 0) (own_setTT (i := f * 4 + 2) (u := .int .u64 0) (own_setTT (i := f * 4 + 1) (u := .int .i64 0) (own_setTT (i := f * 4) (u := .int .i64 0) hown2 hcs) b1) b2) b3) b4) b5
            rw [HX.out.2, tcells_snoc]
            exact h9
          · exact (((((hB2.setCell (p := ⟨g, f * 4, none⟩) hgb _).setCell (p := ⟨g, f * 4 + 1, none⟩) hgb _).setCell (p := ⟨g, f * 4 + 2, none⟩) hgb _).setCell (p := ⟨g, f * 4 + 3, none⟩) hgb _).setCell (p := ⟨g, 128, none⟩) hgb _).setCell (p := ⟨g, 129, none⟩) hgb _
        case measure => show m - (k + 1) < m - k; omega
      · obtain rfl : k = m := by have := HM.out; omega
        have hdl : (ts.drop k).length = 0 := by rw [List.length_drop]; omega
        have hLen := Lib.hid (plen_any HP.out)
        rw [hdl] at hLen
        go_wp2_with fail
        refine hLen.out.mono ?_
        rintro e w' ⟨rfl, hw'⟩
        obtain rfl := hw'.symm
        go_wp2
        go_ret
        exact ⟨_, f, rfl, HT.out.row, HP.out, HT.out.km, HT.out.only, HT.out.bel⟩
    · obtain rfl : k = m := by have := HM.out; omega
      go_wp2
      go_ret
      exact ⟨_, f, rfl, HT.out.row, HP.out, HT.out.km, HT.out.only, HT.out.bel⟩
end Go.Proofs.Ytjjomlideieofaa.Msg
