/- wire.Each of transactions: all of a list of parts, or which one is none. -/
import Derived.Test.YtfalmebgjghjeabTxnGet
import Derived.Test.YtfalmebgjghjeabTxRows
import Derived.Test.YtfalmebgjghjeabOnlyOwn
namespace Go.Proofs.Ytfalmebgjghjeab.Rd
open Go Go.RowKit Num Texts Packet
open Msg (M7 mevs own_formN T4 TT TM tcells tcells_snoc cells4_new cells4_one infoT own_other own_base)

/-- the transactions of parts, or which part is none, and why -/
def eachR : Nat → List ByteArray → List Q4 × Nat × Int
  | _, [] => ([], 0, 0)
  | i, s :: r => if (getT s).2 ≠ 0 then ([], i + 1, (getT s).2) else if (eachR (i + 1) r).2.2 ≠ 0 then ([], (eachR (i + 1) r).2) else ((getT s).1 :: (eachR (i + 1) r).1, (eachR (i + 1) r).2)
def glueE (xs : List Q4) (y : List Q4 × Nat × Int) : List Q4 × Nat × Int := if y.2.2 ≠ 0 then ([], y.2) else (xs ++ y.1, y.2)
theorem glueE_nil (i : Nat) : ∀ (l : List ByteArray), glueE [] (eachR i l) = eachR i l
  | [] => rfl
  | s :: r => by
    unfold glueE
    split
    · rename_i h
      unfold eachR at h ⊢
      split
      · rfl
      · rename_i h1
        rw [if_neg h1] at h
        split
        · rfl
        · rename_i h2; rw [if_neg h2] at h; exact absurd h h2
    · rfl
theorem glueE_ok (xs : List Q4) (i : Nat) (s : ByteArray) (r : List ByteArray) (q : Q4) (h : getT s = (q, 0)) : glueE xs (eachR i (s :: r)) = glueE (xs ++ [q]) (eachR (i + 1) r) := by
  have e : eachR i (s :: r) = if (eachR (i + 1) r).2.2 ≠ 0 then ([], (eachR (i + 1) r).2) else (q :: (eachR (i + 1) r).1, (eachR (i + 1) r).2) := by
    rw [eachR, h]; rfl
  rw [e]
  unfold glueE
  by_cases h0 : (eachR (i + 1) r).2.2 ≠ 0
  · rw [if_pos h0, if_pos h0, if_pos h0]
  · rw [if_neg h0, if_neg h0, if_neg h0]; simp
theorem glueE_bad (xs : List Q4) (i : Nat) (s : ByteArray) (r : List ByteArray) (q : Q4) (e : Int) (he : e ≠ 0) (h : getT s = (q, e)) : glueE xs (eachR i (s :: r)) = ([], i + 1, e) := by
  have e1 : eachR i (s :: r) = ([], i + 1, e) := by rw [eachR, h]; dsimp only; rw [if_pos he]
  rw [e1]
  unfold glueE
  rw [if_pos he]
theorem glueE_end (xs : List Q4) (i : Nat) : glueE xs (eachR i []) = (xs, 0, 0) := by
  unfold glueE eachR
  rw [if_neg (by simp)]; simp
def keyP (p : T4) : Int × Int × Int × List M7 := (p.side, p.acc, p.n, p.ms)
def keyQ (q : Q4) : Int × Int × Int × List M7 := ((q.1 : Int), (q.2.1 : Int), (q.2.2.1 : Int), q.2.2.2)
/-- A row of transactions, each with an own row of messages. -/
structure TxRow (B : Nat) (W : World) (v : Value) (ps : List T4) : Prop where
  row : W.ownsRow B TT 4 v ps.length (tcells ps)
  own : ∀ p ∈ ps, p.len = p.ms.length ∧ W.ownsRow B TM 7 (.slice p.A p.len p.cap) p.len (mevs p.ms)
theorem TxRow.nil (B : Nat) (W : World) : TxRow B W (.slice none 0 0) [] := ⟨World.ownsRow_nil _ _ _ _, fun p hp => by simp at hp⟩
theorem TxRow.below {B : Nat} {W W1 : World} {v : Value} {ps : List T4} (h : TxRow B W v ps) (hb : Below W.heap.size W W1) : TxRow B W1 v ps := ⟨own_below h.row hb, fun p hp => ⟨(h.own p hp).1, own_below (h.own p hp).2 hb⟩⟩

set_option maxRecDepth 20000 in
set_option maxHeartbeats 2000000 in
theorem each_any (A : Option Addr) (n c : Nat) (ss : List ByteArray) (W : World) (hr : RdS W A n ss) (hs : ∀ i, (ss.getD i .empty).size ≤ 1099511627776) (hn : n ≤ 1000000) :
    Calls Try.prog 21 #[.slice A n c, .func (.func 10) #[] #[]] W
      fun e w' => (∃ v ps, e = .returned (.tuple #[v, .int .i64 ((eachR 0 ss).2.1 : Int), .int .i64 (eachR 0 ss).2.2]) ∧ TxRow W.heap.size w' v ps ∧ ps.map keyP = (eachR 0 ss).1.map keyQ) ∧ Below W.heap.size W w' := by
  obtain ⟨i1, hi1, hy0, hy1, hy2⟩ := info_parts infoT
  have HI := Lib.hid (And.intro hi1 (And.intro hy0 (And.intro hy1 hy2)))
  have HR := Lib.hid hr
  have HS := Lib.hid hs
  obtain ⟨L, hL⟩ : ∃ L, L = eachR 0 ss := ⟨_, rfl⟩
  rw [← hL]
  have HL := Lib.hid hL
  clear hr hs hL hi1 hy0 hy1 hy2
  go_enter Try.func21, Try.ntmps21
  go_wp2
  go_loopw [4, 13] (fun l i wr => ∃ (k : Nat) (ps : List T4) (xs : List Q4), i = .int .i64 (k : Int) ∧ k ≤ n ∧ ps.length = k ∧ Hid (eachR 0 ss = glueE xs (eachR k (ss.drop k))) ∧ TxRow W.heap.size wr l ps ∧ ps.map keyP = xs.map keyQ ∧ Below W.heap.size W wr) (fun _ i _ => n - (intOf i).toNat)
  case atStart => exact ⟨0, [], [], rfl, Nat.zero_le _, rfl, Lib.hid (glueE_nil 0 ss).symm, TxRow.nil _ _, rfl, Below.refl _ _⟩
  case round =>
    obtain ⟨k, ps, xs, rfl, hk, hpk, hG, hT, hkey, hB⟩ := hrel
    obtain ⟨Al, cl, hlv⟩ := own_formN hT.row
    rw [hpk] at hlv
    subst hlv
    have HPK := Lib.hid hpk
    have HT := Lib.hid hT
    have HK := Lib.hid hkey
    have HB := Lib.hid hB
    clear hT hkey hB hpk
    by_cases hlt : k < n
    · obtain ⟨b, off, hA, hbl, hc⟩ := HR.out.2 (by omega)
      subst hA
      have hck := (HB.out.cell (p := ⟨b, off + k, none⟩) hbl).trans (hc k hlt)
      have hkl : k < ss.length := by have := HR.out.1; omega
      have hdrop : ss.drop k = ss.getD k .empty :: ss.drop (k + 1) := by
        rw [List.drop_eq_getElem_cons hkl, List.getD_eq_getElem?_getD, List.getElem?_eq_getElem hkl]; rfl
      have hok := fun q h => glueE_ok xs k (ss.getD k .empty) (ss.drop (k + 1)) q h
      have hbd := fun q e he h => glueE_bad xs k (ss.getD k .empty) (ss.drop (k + 1)) q e he h
      rw [← hdrop] at hok hbd
      have hget := tget_any (ss.getD k .empty) (HS.out k)
      generalize ss.getD k .empty = s at hck hok hbd hget
      generalize getT s = y at hok hbd hget
      obtain ⟨q, e⟩ := y
      dsimp only at hget
      have HOk := Lib.hid hok
      have HBd := Lib.hid hbd
      have HGet := Lib.hid hget
      have hi0 : (0 : Int) ≤ (k : Int) := by omega
      have hi2 : (k : Int) < (n : Int) := by omega
      have hi3 : (k : Int) ≤ 1000000 := by omega
      clear hok hbd hget hdrop hc
      go_wp2_with fail
      refine (HGet.out _).mono ?_
      rintro _ w2 ⟨⟨v, rfl, hv⟩, b2⟩
      obtain ⟨Ao, co, rfl⟩ := own_formN hv
      have HV := Lib.hid (own_base hv HB.out.size)
      have HT2 := Lib.hid (HT.out.below b2)
      have HB2 := Lib.hid (HB.out.trans (b2.mono HB.out.size))
      clear hv b2 hck HT HB HGet
      by_cases he : e = 0
      · subst he
        go_upto_region 7 with fail
        obtain ⟨W3, hW3⟩ : ∃ X, X = w2.alloc (.cells #[.int .i64 (q.1 : Int), .int .i64 (q.2.1 : Int), .int .u64 (q.2.2.1 : Int), .slice Ao q.2.2.2.length co] 34) := ⟨_, rfl⟩
        rw [← hW3]
        have hb3 : Below w2.heap.size w2 W3 := by rw [hW3]; exact (Below.refl _ _).alloc (Nat.le_refl _) _
        have hQ := heap_alloc_new w2 (.cells #[.int .i64 (q.1 : Int), .int .i64 (q.2.1 : Int), .int .u64 (q.2.2.1 : Int), .slice Ao q.2.2.2.length co] 34)
        rw [← hW3] at hQ
        have HT3 := Lib.hid (HT2.out.below hb3)
        have HV3 := Lib.hid (own_below HV.out hb3)
        have HB3 := Lib.hid (HB2.out.trans (hb3.mono HB2.out.size))
        obtain ⟨Q, hQe⟩ : ∃ Q, Q = w2.heap.size := ⟨_, rfl⟩
        rw [← hQe] at hQ ⊢
        obtain ⟨x0, x1, x2, x3⟩ : _ ∧ _ ∧ _ ∧ _ := ⟨cell_of_row W3 _ 0 _ _ (0, 0) hQ, cell_of_row W3 _ 1 _ _ (0, 0) hQ, cell_of_row W3 _ 2 _ _ (0, 0) hQ, cell_of_row W3 _ 3 _ _ (0, 0) hQ⟩
        clear hW3 hb3 hQ hQe HT2 HV HB2
        have hrow3 := HT3.out.row
        rw [HPK.out] at hrow3
        have hz3 : W.heap.size ≤ W3.heap.size := HB3.out.size
        have hkn : k ≤ 1000000 := by omega
        go_wp2_with (at_builtin; refine wpList_append_own_at _ rfl _ _ 23 rfl W.heap.size 34 i1 _ 4 48 Try.underlying23 HI.out.1 HI.out.2.1 HI.out.2.2.1 HI.out.2.2.2 rfl (by decide) _ _ _ rfl (hrow3.alloc _) ⟨W3.heap.size, 0, none⟩ 1 1 (T4.cells ⟨q.1, q.2.1, q.2.2.1, Ao, q.2.2.2.length, co, q.2.2.2⟩).toList rfl rfl (cells4_new W3 ⟨q.1, q.2.1, q.2.2.1, Ao, q.2.2.2.length, co, q.2.2.2⟩ _) (cells4_one _) (by unfold maxLen; omega) (by omega) (by simp; omega) ?_; intro v4 w4 hown4 hg4 _ _)
        have hwa := hrow3.alloc (.cells (T4.cells ⟨q.1, q.2.1, q.2.2.1, Ao, q.2.2.2.length, co, q.2.2.2⟩) 34)
        have hB4 := below_push HB3.out hz3 hrow3 hg4
        refine ⟨⟨k + 1, ps ++ [⟨q.1, q.2.1, q.2.2.1, Ao, q.2.2.2.length, co, q.2.2.2⟩], xs ++ [q], by go_num, by omega, by simp [HPK.out], Lib.hid (hG.out.trans (HOk.out q rfl)), ⟨?_, ?_⟩, ?_, hB4⟩, by simp [intOf]; omega⟩
        · rw [List.length_append, List.length_singleton, HPK.out, tcells_snoc]
          exact hown4
        · intro p hp
          rcases List.mem_append.1 hp with hp | hp
          · exact ⟨(HT3.out.own p hp).1, own_other ((HT3.out.own p hp).2.alloc _) hwa (by decide) hg4⟩
          · simp at hp
            subst hp
            exact ⟨rfl, own_other (HV3.out.alloc _) hwa (by decide) hg4⟩
        · rw [List.map_append, List.map_append, HK.out]; rfl
      · have he2 : (e == 0) = false := by simpa using he
        have HX : Hid (L = ([], k + 1, e)) := Lib.hid (by rw [HL.out, hG.out]; exact HBd.out q e he rfl)
        clear HL HOk HBd hG hk HR HS
        have hB9 : ∀ o, Below W.heap.size W (w2.alloc o) := fun o => HB2.out.alloc HB2.out.size o
        go_wp2
        refine bodyPost_ret (results_tmp3 rfl _ _ _) rfl ?_
        refine ⟨⟨.slice none 0 0, [], ?_, TxRow.nil _ _, by rw [HX.out]; rfl⟩, hB9 _⟩
        rw [HX.out]; rfl
    · obtain rfl : k = n := by omega
      have HX : Hid (L = (xs, 0, 0)) := Lib.hid (by rw [HL.out, hG.out, List.drop_of_length_le (by have := HR.out.1; omega)]; exact glueE_end xs k)
      clear HL hG
      go_wp2
      refine bodyPost_ret (results_tmp3 rfl _ _ _) rfl ?_
      refine ⟨⟨.slice Al k cl, ps, ?_, HT.out, by rw [HX.out]; exact HK.out⟩, HB.out⟩
      rw [HX.out]; rfl
end Go.Proofs.Ytfalmebgjghjeab.Rd
