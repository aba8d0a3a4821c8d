/- wire.Each of events: all of a list of parts, or which one is none. -/
import Derived.Test.YthamemaomedldaaEvGet
import Derived.Test.YthamemaomedldaaEvRows2
import Derived.Test.YthamemaomedldaaUnpackBase
namespace Go.Proofs.Ythamemaomedldaa.Rd
open Go Go.RowKit Num Texts Packet
open Ev (E8 evs evs_snoc own_form8 infoE cells8_new)

/-- the events of parts, or which part is none, and why -/
def eachE : Nat → List ByteArray → List E8 × Nat × Int
  | _, [] => ([], 0, 0)
  | i, s :: r => if (getE s).2 ≠ 0 then ([], i + 1, (getE s).2) else if (eachE (i + 1) r).2.2 ≠ 0 then ([], (eachE (i + 1) r).2) else ((getE s).1 :: (eachE (i + 1) r).1, (eachE (i + 1) r).2)
def glueF (xs : List E8) (y : List E8 × Nat × Int) : List E8 × Nat × Int := if y.2.2 ≠ 0 then ([], y.2) else (xs ++ y.1, y.2)
theorem glueF_nil (i : Nat) : ∀ (l : List ByteArray), glueF [] (eachE i l) = eachE i l
  | [] => rfl
  | s :: r => by
    unfold glueF
    split
    · rename_i h
      unfold eachE at h ⊢
      split
      · rfl
      · rename_i h1
        rw [if_neg h1] at h
        split
        · rfl
        · rename_i h2; rw [if_neg h2] at h; exact absurd h h2
    · rfl
theorem glueF_ok (xs : List E8) (i : Nat) (s : ByteArray) (r : List ByteArray) (q : E8) (h : getE s = (q, 0)) : glueF xs (eachE i (s :: r)) = glueF (xs ++ [q]) (eachE (i + 1) r) := by
  have e : eachE i (s :: r) = if (eachE (i + 1) r).2.2 ≠ 0 then ([], (eachE (i + 1) r).2) else (q :: (eachE (i + 1) r).1, (eachE (i + 1) r).2) := by
    rw [eachE, h]; rfl
  rw [e]
  unfold glueF
  by_cases h0 : (eachE (i + 1) r).2.2 ≠ 0
  · rw [if_pos h0, if_pos h0, if_pos h0]
  · rw [if_neg h0, if_neg h0, if_neg h0]; simp
theorem glueF_bad (xs : List E8) (i : Nat) (s : ByteArray) (r : List ByteArray) (q : E8) (e : Int) (he : e ≠ 0) (h : getE s = (q, e)) : glueF xs (eachE i (s :: r)) = ([], i + 1, e) := by
  have e1 : eachE i (s :: r) = ([], i + 1, e) := by rw [eachE, h]; dsimp only; rw [if_pos he]
  rw [e1]
  unfold glueF
  rw [if_pos he]
theorem glueF_end (xs : List E8) (i : Nat) : glueF xs (eachE i []) = (xs, 0, 0) := by
  unfold glueF eachE
  rw [if_neg (by simp)]; simp

set_option maxRecDepth 20000 in
set_option maxHeartbeats 2000000 in
theorem eeach_any (A : Option Addr) (n c : Nat) (ss : List ByteArray) (W : World) (hr : RdS W A n ss) (hs : ∀ i, (ss.getD i .empty).size ≤ 1099511627776) (hn : n ≤ 1000000) :
    Calls Try.prog 35 #[.slice A n c, .func (.func 22) #[] #[]] W
      fun e w' => (∃ v, e = .returned (.tuple #[v, .int .i64 ((eachE 0 ss).2.1 : Int), .int .i64 (eachE 0 ss).2.2]) ∧ w'.ownsRow W.heap.size 30 8 v (eachE 0 ss).1.length (evs (eachE 0 ss).1)) ∧ Below W.heap.size W w' := by
  obtain ⟨i1, hi1, hy0, hy1, hy2⟩ := info_parts infoE
  have HI := Lib.hid (And.intro hi1 (And.intro hy0 (And.intro hy1 hy2)))
  have HR := Lib.hid hr
  have HS := Lib.hid hs
  obtain ⟨L, hL⟩ : ∃ L, L = eachE 0 ss := ⟨_, rfl⟩
  rw [← hL]
  have HL := Lib.hid hL
  clear hr hs hL hi1 hy0 hy1 hy2
  go_enter Try.func35, Try.ntmps35
  go_wp2
  go_loopw [4, 13] (fun l i wr => ∃ (k : Nat) (xs : List E8), i = .int .i64 (k : Int) ∧ k ≤ n ∧ xs.length = k ∧ Hid (eachE 0 ss = glueF xs (eachE k (ss.drop k))) ∧ wr.ownsRow W.heap.size 30 8 l k (evs xs) ∧ Below W.heap.size W wr) (fun _ i _ => n - (intOf i).toNat)
  case atStart => exact ⟨0, [], rfl, Nat.zero_le _, rfl, Lib.hid (glueF_nil 0 ss).symm, World.ownsRow_nil _ _ _ _, Below.refl _ _⟩
  case round =>
    obtain ⟨k, xs, rfl, hk, hpk, hG, hT, hB⟩ := hrel
    obtain ⟨Al, cl, rfl⟩ := own_form8 hT
    have HPK := Lib.hid hpk
    have HT := Lib.hid hT
    have HB := Lib.hid hB
    clear hT hB hpk
    by_cases hlt : k < n
    · obtain ⟨b, off, hA, hbl, hc⟩ := HR.out.2 (by omega)
      subst hA
      have hck := (HB.out.cell (p := ⟨b, off + k, none⟩) hbl).trans (hc k hlt)
      have hkl : k < ss.length := by have := HR.out.1; omega
      have hdrop : ss.drop k = ss.getD k .empty :: ss.drop (k + 1) := by
        rw [List.drop_eq_getElem_cons hkl, List.getD_eq_getElem?_getD, List.getElem?_eq_getElem hkl]; rfl
      have hok := fun q h => glueF_ok xs k (ss.getD k .empty) (ss.drop (k + 1)) q h
      have hbd := fun q e he h => glueF_bad xs k (ss.getD k .empty) (ss.drop (k + 1)) q e he h
      rw [← hdrop] at hok hbd
      have hget := eget_any (ss.getD k .empty) (HS.out k)
      generalize ss.getD k .empty = s at hck hok hbd hget
      generalize getE s = y at hok hbd hget
      obtain ⟨q, e⟩ := y
      dsimp only at hget
      unfold E8.cells at hget
      have HOk := Lib.hid hok
      have HBd := Lib.hid hbd
      have HGet := Lib.hid hget
      have hi0 : (0 : Int) ≤ (k : Int) := by omega
      have hi2 : (k : Int) < (n : Int) := by omega
      have hi3 : (k : Int) ≤ 1000000 := by omega
      clear hok hbd hget hdrop hc
      go_wp2_with fail
      refine (HGet.out _).mono ?_
      rintro _ w2 ⟨rfl, b2⟩
      have HT2 := Lib.hid (own_below HT.out b2)
      have HB2 := Lib.hid (HB.out.trans (b2.mono HB.out.size))
      clear b2 hck HT HB HGet
      by_cases he : e = 0
      · subst he
        go_upto_region 7 with fail
        obtain ⟨W3, hW3⟩ : ∃ X, X = w2.alloc (.cells #[.int .i64 q.k, .int .u64 q.h, .int .i64 q.c, .int .i64 q.f, .int .u64 q.s, .int .u64 q.t, .string q.d, .string q.a] 30) := ⟨_, rfl⟩
        rw [← hW3]
        have hb3 : Below w2.heap.size w2 W3 := by rw [hW3]; exact (Below.refl _ _).alloc (Nat.le_refl _) _
        have hQ := heap_alloc_new w2 (.cells #[.int .i64 q.k, .int .u64 q.h, .int .i64 q.c, .int .i64 q.f, .int .u64 q.s, .int .u64 q.t, .string q.d, .string q.a] 30)
        rw [← hW3] at hQ
        have HT3 := Lib.hid (own_below HT2.out hb3)
        have HB3 := Lib.hid (HB2.out.trans (hb3.mono HB2.out.size))
        obtain ⟨Q, hQe⟩ : ∃ Q, Q = w2.heap.size := ⟨_, rfl⟩
        rw [← hQe] at hQ ⊢
        obtain ⟨x0, x1, x2, x3, x4, x5, x6, x7⟩ : _ ∧ _ ∧ _ ∧ _ ∧ _ ∧ _ ∧ _ ∧ _ := ⟨cell_of_row W3 _ 0 _ _ (0, 0) hQ, cell_of_row W3 _ 1 _ _ (0, 0) hQ, cell_of_row W3 _ 2 _ _ (0, 0) hQ, cell_of_row W3 _ 3 _ _ (0, 0) hQ, cell_of_row W3 _ 4 _ _ (0, 0) hQ, cell_of_row W3 _ 5 _ _ (0, 0) hQ, cell_of_row W3 _ 6 _ _ (0, 0) hQ, cell_of_row W3 _ 7 _ _ (0, 0) hQ⟩
        clear hW3 hb3 hQ hQe HT2 HB2
        have hz3 : W.heap.size ≤ W3.heap.size := HB3.out.size
        have hkn : k ≤ 1000000 := by omega
        go_wp2_with (at_builtin; refine wpList_append_own_at _ rfl _ _ 22 rfl W.heap.size 30 i1 _ 8 80 Try.underlying22 HI.out.1 HI.out.2.1 HI.out.2.2.1 HI.out.2.2.2 rfl (by decide) _ _ _ rfl (HT3.out.alloc _) ⟨W3.heap.size, 0, none⟩ 1 1 (E8.cells q).toList rfl rfl (cells8_new W3 q _) (Ev.cells8_one _) (by unfold maxLen; omega) (by omega) (by simp; omega) ?_; intro v4 w4 hown4 hg4 _ _)
        have hwa := HT3.out.alloc (.cells (E8.cells q) 30)
        have hB4 := below_push HB3.out hz3 HT3.out hg4
        refine ⟨⟨k + 1, xs ++ [q], by go_num, by omega, by simp [HPK.out], Lib.hid (hG.out.trans (HOk.out q rfl)), by rw [evs_snoc]; exact hown4, hB4⟩, by simp [intOf]; omega⟩
      · have he2 : (e == 0) = false := by simpa using he
        have HX : Hid (L = ([], k + 1, e)) := Lib.hid (by rw [HL.out, hG.out]; exact HBd.out q e he rfl)
        clear HL HOk HBd hG hk HR HS
        have hB9 : ∀ o, Below W.heap.size W (w2.alloc o) := fun o => HB2.out.alloc HB2.out.size o
        go_wp2
        refine bodyPost_ret (results_tmp3 rfl _ _ _) rfl ?_
        refine ⟨⟨.slice none 0 0, ?_, by rw [HX.out]; exact World.ownsRow_nil _ _ _ _⟩, hB9 _⟩
        rw [HX.out]; rfl
    · obtain rfl : k = n := by omega
      have HX : Hid (L = (xs, 0, 0)) := Lib.hid (by rw [HL.out, hG.out, List.drop_of_length_le (by have := HR.out.1; omega)]; exact glueF_end xs k)
      clear HL hG
      go_wp2
      refine bodyPost_ret (results_tmp3 rfl _ _ _) rfl ?_
      refine ⟨⟨.slice Al k cl, ?_, by rw [HX.out, HPK.out]; exact HT.out⟩, HB.out⟩
      rw [HX.out]; rfl
end Go.Proofs.Ythamemaomedldaa.Rd
