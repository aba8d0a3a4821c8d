import Derived.Test.YtpkkomifenlkaaaGreatAlLaw
import Derived.Test.YtpkkomifenlkaaaGreatGapQ
import Derived.Deep.CutBlock
import Derived.Deep.DeepCutAuto
import Derived.Deep.AppendLies
/- Rows of uint64 that are read. -/
namespace Go.Proofs.YtpkkomifenlkaaaGreat.Au
open Go Go.RowKit Go.MuLone
set_option linter.unusedVariables false

/-- numbers that are read -/
structure RdN (V : World) (A : Option Addr) (len : Nat) (ns : List Int) : Prop where
  many : ns.length = len
  cells : 0 < len → ∃ b off, A = some ⟨b, off, none⟩ ∧ b < V.heap.size ∧ ∀ i (h : i < ns.length), V.cell? ⟨b, off + i, none⟩ = some (.int .u64 ns[i])
theorem RdN.below {V V' : World} {A : Option Addr} {len : Nat} {ns : List Int} (h : RdN V A len ns) (hb : Below V.heap.size V V') : RdN V' A len ns :=
  ⟨h.many, fun hl => by
    obtain ⟨b, off, e1, e2, e3⟩ := h.cells hl
    exact ⟨b, off, e1, Nat.lt_of_lt_of_le e2 hb.size, fun i hi => (World.cell?_of_block (hb.block b e2)).trans (e3 i hi)⟩⟩
theorem RdN.nil (V : World) (A : Option Addr) : RdN V A 0 [] := ⟨rfl, fun h => by cases h⟩
theorem rdN_own {V : World} {base n c : Nat} {A : Option Addr} {l : List Int} (hl : l.length = n) (h : V.ownsRow base TU 1 (.slice A n c) n (uc l)) : RdN V A n l := by
  refine ⟨hl, fun hn => ?_⟩
  rcases h.2 with ⟨_, h0⟩ | ⟨g, cap, cur, hv, hg, hh, hnc, hcm, hcs, ht⟩
  · omega
  · injection hv with hv1 hv2 hv3
    subst hv1
    refine ⟨g, 0, rfl, ltO hh, fun i hi => ?_⟩
    rw [Nat.zero_add, cell_of_row V g i cur _ (0, 0) hh]
    have := congrArg (fun z : List Value => z[i]?) ht
    simp only [uc, List.getElem?_map] at this
    rw [List.getElem?_take, if_pos (by omega), Array.getElem?_toList, List.getElem?_eq_getElem hi] at this
    exact this
end Go.Proofs.YtpkkomifenlkaaaGreat.Au
/- The page's numbers of an account; Find. -/
namespace Go.Proofs.YtpkkomifenlkaaaGreat.Au
open Go Go.RowKit Go.MuLone
set_option linter.unusedVariables false

abbrev TPn : Nat := 93
abbrev THd : Nat := 100
/-- what is held, as cells -/
def hc (M : List (Int × Int)) : List Value := M.flatMap fun x => [.int .u64 x.1, .int .i64 x.2]
theorem hc_snoc (M : List (Int × Int)) (x : Int × Int) : hc (M ++ [x]) = hc M ++ [.int .u64 x.1, .int .i64 x.2] := by simp [hc]
theorem hc_at : ∀ (M : List (Int × Int)) (i : Nat) (h : i < M.length), (hc M)[i * 2]? = some (.int .u64 M[i].1) ∧ (hc M)[i * 2 + 1]? = some (.int .i64 M[i].2)
  | x :: M, 0, _ => ⟨rfl, rfl⟩
  | x :: M, i + 1, h => by
    have := hc_at M i (by simpa using h)
    have e1 : (i + 1) * 2 = i * 2 + 1 + 1 := by omega
    show (Value.int .u64 x.1 :: Value.int .i64 x.2 :: hc M)[(i + 1) * 2]? = _ ∧ (Value.int .u64 x.1 :: Value.int .i64 x.2 :: hc M)[(i + 1) * 2 + 1]? = _
    rw [e1]
    simpa using this
/-- where the page's numbers lie: their block, their heap's -/
structure Pb where
  N : Nat
  Q : Nat
/-- the page's numbers -/
structure PIs (B : Nat) (W : World) (b : Pb) (vq vh : Value) (s : Nu) : Prop where
  box : W.heap[b.N]? = some (.cells #[.int .u64 s.ep, .int .u64 s.nx, .pointer (some ⟨b.Q, 0, none⟩), vh] TPn (0, 0))
  low : B ≤ b.N
  qh : Gp.QH B W b.Q vq s.L
  held : W.ownsRow B THd 2 vh s.M.length (hc s.M)
section
variable {B : Nat} {W V : World} {b : Pb} {vq vh : Value} {s : Nu}
theorem PIs.lt (h : PIs B W b vq vh s) : b.N < W.heap.size := ltO h.box
theorem held_form {M : List (Int × Int)} (h : W.ownsRow B THd 2 vh M.length (hc M)) : ∃ A c, vh = .slice A M.length c := by
  rcases h.2 with ⟨hv, h0⟩ | ⟨g, cap, cur, hv, _⟩
  · exact ⟨none, 0, by rw [h0]; exact hv⟩
  · exact ⟨_, _, hv⟩
theorem held_at {M : List (Int × Int)} {A : Option Addr} {n c : Nat} (h : W.ownsRow B THd 2 (.slice A n c) M.length (hc M)) (i : Nat) (hi : i < M.length) : ∃ g, A = some ⟨g, 0, none⟩ ∧ g < W.heap.size ∧ W.cell? ⟨g, i * 2, none⟩ = some (.int .u64 M[i].1) ∧ W.cell? ⟨g, i * 2 + 1, none⟩ = some (.int .i64 M[i].2) := by
  rcases h.2 with ⟨_, h0⟩ | ⟨g, cap, cur, hv, hg, hh, hnc, hcm, hcs, ht⟩
  · omega
  · injection hv with hv1 hv2 hv3
    subst hv1
    refine ⟨g, rfl, ltO hh, ?_, ?_⟩
    · rw [cell_of_row W g (i * 2) cur _ (0, 0) hh, ← (hc_at M i hi).1, ← ht, List.getElem?_take, if_pos (by omega), Array.getElem?_toList]
    · rw [cell_of_row W g (i * 2 + 1) cur _ (0, 0) hh, ← (hc_at M i hi).2, ← ht, List.getElem?_take, if_pos (by omega), Array.getElem?_toList]
/-- where a number is held: the place, or -1 -/
def fnd (k : Int) (M : List (Int × Int)) : Int := match M.findIdx? (fun x => decide (x.1 = k)) with
  | none => -1
  | some i => (i : Int)
theorem fnd_none {k : Int} {M : List (Int × Int)} (h : ∀ j (hj : j < M.length), M[j].1 ≠ k) : fnd k M = -1 := by
  unfold fnd
  have : M.findIdx? (fun x => decide (x.1 = k)) = none := by
    rw [List.findIdx?_eq_none_iff]
    intro x hx
    obtain ⟨j, hj, rfl⟩ := List.getElem_of_mem hx
    simpa using h j hj
  rw [this]
theorem fnd_at {k : Int} {M : List (Int × Int)} {i : Nat} (hi : i < M.length) (he : M[i].1 = k) (h : ∀ j (hj : j < M.length), j < i → M[j].1 ≠ k) : fnd k M = (i : Int) := by
  unfold fnd
  have : M.findIdx? (fun x => decide (x.1 = k)) = some i := by
    rw [List.findIdx?_eq_some_iff_getElem]
    exact ⟨hi, by simpa using he, fun j hj => by simpa using h j (by omega) hj⟩
  rw [this]
set_option maxRecDepth 20000 in
set_option maxHeartbeats 2000000 in
theorem find_any (h : PIs B W b vq vh s) (k : Int) (hl9 : s.M.length ≤ 1000000) :
    Calls Tryz.prog 42 #[.pointer (some ⟨b.N, 0, none⟩), .int .u64 k] W fun e w' => e = .returned (.int .i64 (fnd k s.M)) ∧ Below W.heap.size W w' := by
  obtain ⟨A, c, rfl⟩ : ∃ A c, vh = .slice A s.M.length c := held_form h.held
  have HP := Lib.hid h
  clear h
  go_enter Tryz.func42, Tryz.ntmps42
  go_wp2
  go_loopw [5] (fun vi wr => ∃ (i : Nat), vi = .int .i64 (i : Int) ∧ i ≤ s.M.length ∧ Hid (∀ j (hj : j < s.M.length), j < i → s.M[j].1 ≠ k) ∧ Below W.heap.size W wr) (fun vi _ => s.M.length - (intOf vi).toNat)
  case atStart => exact ⟨0, rfl, Nat.zero_le _, Lib.hid fun j _ hj => by omega, Below.refl _ _⟩
  case round =>
    obtain ⟨i, rfl, hi, HN, hb⟩ := hrel
    have q3 := cell_of_row wr b.N 3 _ _ (0, 0) ((hb.block _ HP.out.lt).trans HP.out.box)
    by_cases hlt : i < s.M.length
    · have hi0 : (0 : Int) ≤ (i : Int) := by omega
      have hi1 : (i : Int) < (s.M.length : Int) := by omega
      obtain ⟨g, e1, hg, c1, -⟩ := held_at HP.out.held i hlt
      have c1' := (World.cell?_of_block (a := ⟨g, i * 2, none⟩) (hb.block g hg)).trans c1
      obtain ⟨z, hz⟩ : ∃ z, z = s.M[i].1 := ⟨_, rfl⟩
      rw [← hz] at c1'
      have HZ := Lib.hid hz
      subst e1
      have Hb := Lib.hid hb
      clear c1 hz hb
      by_cases hzk : z = k
      · have e2 : (z == k) = true := by simpa using hzk
        have HF : Hid (fnd k s.M = (i : Int)) := Lib.hid (fnd_at hlt (by rw [← HZ.out]; exact hzk) HN.out)
        go_wp2
        go_ret
        exact ⟨by rw [HF.out]; rfl, Hb.out⟩
      · have e2 : (z == k) = false := by simpa using hzk
        go_wp2
        go_roundw
        case rel => exact ⟨i + 1, by go_num, hlt, Lib.hid fun j hj hji => by
          rcases Nat.lt_or_ge j i with q | q
          · exact HN.out j hj q
          · obtain rfl : j = i := by omega
            rw [← HZ.out]; exact hzk, Hb.out⟩
        case measure => simp [intOf]; omega
    · have hie : i = s.M.length := by omega
      have HF : Hid (fnd k s.M = -1) := Lib.hid (fnd_none fun j hj => HN.out j hj (by omega))
      have hii : ¬ ((i : Int) < (s.M.length : Int)) := by omega
      clear hie
      go_wp2
      go_ret
      exact ⟨by rw [HF.out]; rfl, hb⟩
end
end Go.Proofs.YtpkkomifenlkaaaGreat.Au
/- The page's numbers: all that is held but one. -/
namespace Go.Proofs.YtpkkomifenlkaaaGreat.Au
open Go Go.RowKit Go.MuLone
set_option linter.unusedVariables false

theorem infoHd : (Tryz.prog.info? THd).map (fun i => (i.zero, i.size, i.bytes)) = some (some (.agg #[.int .u64 0, .int .i64 0]), 2, 16) := by kernel_rfl
theorem news_hd (V : World) (n who : Int) : ∀ j u, [Value.int .u64 n, .int .i64 who][j]? = some u → (V.alloc (.cells #[.int .u64 n, .int .i64 who] THd)).cell? ((⟨V.heap.size, 0, none⟩ : Addr).add j) = some u := by
  intro j u h
  have := cell_of_row (V.alloc (.cells #[.int .u64 n, .int .i64 who] THd)) V.heap.size j #[.int .u64 n, .int .i64 who] THd (0, 0) (heap_alloc_new V _)
  have e : (⟨V.heap.size, 0, none⟩ : Addr).add j = ⟨V.heap.size, j, none⟩ := by unfold Addr.add; by_cases h : j = 0 <;> simp [h]
  rw [e, this]
  rw [← h]
  simp
theorem ones_hd (n who : Int) : ∀ u ∈ [Value.int .u64 n, .int .i64 who], u.oneCell' = true := by simp [Value.oneCell']
theorem own_keep2 {V V' : World} {B n : Nat} {v : Value} {xs : List Value} (h : V.ownsRow B THd 2 v n xs) (hb : ∀ k, k < V.heap.size → V'.heap[k]? = V.heap[k]?) : V'.ownsRow B THd 2 v n xs := by
  refine ⟨h.1, ?_⟩
  rcases h.2 with h2 | ⟨g, cap, cur, hv, hg, hh, r⟩
  · exact Or.inl h2
  · exact Or.inr ⟨g, cap, cur, hv, hg, (hb g (ltO hh)).trans hh, r⟩
theorem erase_take {α : Type} {M : List α} {i a : Nat} (h : i < M.length) : (M.take (i + 1)).eraseIdx a = (M.take i).eraseIdx a ++ (if i = a then [] else [M[i]]) := by
  rw [List.take_succ_eq_append_getElem h]
  have hl : (M.take i).length = i := by simp; omega
  by_cases e : i = a
  · subst e
    rw [if_pos rfl, List.append_nil, List.eraseIdx_append_of_length_le (by omega), hl]
    simp [List.eraseIdx_of_length_le, hl]
  · rw [if_neg e]
    rcases Nat.lt_or_ge a i with q | q
    · rw [List.eraseIdx_append_of_lt_length (by omega)]
    · rw [List.eraseIdx_append_of_length_le (by omega), hl, List.eraseIdx_of_length_le (l := M.take i) (by omega), List.eraseIdx_of_length_le (by simp; omega)]
section
variable {B : Nat} {W V : World} {b : Pb} {vq vh : Value} {s : Nu}
set_option maxRecDepth 20000 in
set_option maxHeartbeats 4000000 in
theorem pwo_any (h : PIs B W b vq vh s) (a : Nat) (hl9 : s.M.length ≤ 1000000) :
    Calls Tryz.prog 41 #[.pointer (some ⟨b.N, 0, none⟩), .int .i64 (a : Int)] W fun e w' => ∃ v', e = .returned v' ∧ w'.ownsRow W.heap.size THd 2 v' (s.M.eraseIdx a).length (hc (s.M.eraseIdx a)) ∧ Below W.heap.size W w' := by
  obtain ⟨i0, hinf, hz0, hz1, hz2⟩ := info_partsU infoHd
  obtain ⟨A, c, rfl⟩ : ∃ A c, vh = .slice A s.M.length c := held_form h.held
  have HP := Lib.hid h
  clear h
  go_enter Tryz.func41, Tryz.ntmps41
  go_wp2
  go_loopw [5, 6] (fun sv vi wr => ∃ (i : Nat) (K : List (Int × Int)) (As : Option Addr) (m cps : Nat), sv = .slice As m cps ∧ vi = .int .i64 (i : Int) ∧ i ≤ s.M.length ∧ Hid (K = (s.M.take i).eraseIdx a ∧ m = K.length) ∧ wr.ownsRow W.heap.size THd 2 (.slice As m cps) K.length (hc K) ∧ Below W.heap.size W wr) (fun _ vi _ => s.M.length - (intOf vi).toNat)
  case atStart => exact ⟨0, [], none, 0, 0, rfl, rfl, Nat.zero_le _, Lib.hid ⟨rfl, rfl⟩, World.ownsRow_nil _ _ _ _, Below.refl _ _⟩
  case round =>
    obtain ⟨i, K, As, m, cps, rfl, rfl, hi, HK, hR, hb⟩ := hrel
    have q3 := cell_of_row wr b.N 3 _ _ (0, 0) ((hb.block _ HP.out.lt).trans HP.out.box)
    by_cases hlt : i < s.M.length
    · have hi0 : (0 : Int) ≤ (i : Int) := by omega
      have hi1 : (i : Int) < (s.M.length : Int) := by omega
      have HT := Lib.hid (erase_take (a := a) hlt)
      by_cases hia : i = a
      · have e2 : ((i : Int) != (a : Int)) = false := by simp; omega
        have HS := Lib.hid (And.intro hR hb)
        clear hR hb
        go_wp2
        go_roundw
        case rel => exact ⟨i + 1, K, As, m, cps, rfl, by go_num, hlt, Lib.hid ⟨by rw [HT.out, if_pos hia, List.append_nil]; exact HK.out.1, HK.out.2⟩, HS.out⟩
        case measure => simp [intOf]; omega
      · have e2 : ((i : Int) != (a : Int)) = true := by simp; omega
        obtain ⟨g, e1, hg, c1, d1⟩ := held_at HP.out.held i hlt
        have c1' := (World.cell?_of_block (a := ⟨g, i * 2, none⟩) (hb.block g hg)).trans c1
        have d1' := (World.cell?_of_block (a := ⟨g, i * 2 + 1, none⟩) (hb.block g hg)).trans d1
        obtain ⟨z, hz⟩ : ∃ z, z = s.M[i] := ⟨_, rfl⟩
        rw [← hz] at c1' d1' HT
        obtain ⟨zn, zw⟩ := z
        subst e1
        have bl : Below wr.heap.size wr (wr.alloc (.cells #[.int .u64 zn, .int .i64 zw] THd)) := (Below.refl _ _).alloc (Nat.le_refl _) _
        have hKl : K.length ≤ i := by rw [HK.out.1]; exact Nat.le_trans (List.length_eraseIdx_le _ _) (by simp; omega)
        have hrow := own_keep2 hR fun k hk => bl.block k hk
        rw [← HK.out.2] at hrow
        have HR6 := Lib.hid (And.intro hrow (hb.trans (bl.mono hb.size)))
        have HC := Lib.hid (news_hd wr zn zw)
        have H1 := Lib.hid (ones_hd zn zw)
        have hmm := HK.out.2
        have HBd := Lib.hid (show m ≤ 1000000 by omega)
        have HSZ := Lib.hid (HR6.out.2.size)
        clear c1 d1 hz hR hb bl hrow hmm
        go_wp2_with (at_builtin; refine wpList_append_lies _ rfl _ _ 91 rfl W.heap.size THd i0 (.agg #[.int .u64 0, .int .i64 0]) 2 16 Tryz.underlying91 hinf hz0 hz1 hz2 rfl (by decide) _ _ _ rfl HR6.out.1 ⟨wr.heap.size, 0, none⟩ 1 1 [.int .u64 zn, .int .i64 zw] rfl rfl HC.out H1.out (by decide) (by have := HBd.out; unfold maxLen; omega) (by have := HBd.out; omega) HSZ.out _ rfl ?_)
        intro g1 cap1 w6 hown hg6 hat2 _
        have hB6 : Below W.heap.size W w6 := HR6.out.2.grown hg6 HR6.out.2.size fun k hk => by
          have := own_ge HR6.out.1 k hk
          omega
        rw [← hc_snoc K (zn, zw)] at hown
        have H6 := Lib.hid (And.intro hown hB6)
        clear hown hg6 hat2 hB6 HR6 HC H1 c1' d1' q3
        go_wp2
        go_roundw
        case rel => exact ⟨i + 1, K ++ [(zn, zw)], _, _, _, rfl, by go_num, hlt, Lib.hid ⟨by rw [HT.out, if_neg hia, HK.out.1], by rw [List.length_append, HK.out.2]; rfl⟩, by rw [List.length_append, List.length_singleton, ← HK.out.2]; exact H6.out.1, H6.out.2⟩
        case measure => simp [intOf]; omega
    · have hie : i = s.M.length := by omega
      have HF : Hid (K = s.M.eraseIdx a) := Lib.hid (by rw [HK.out.1, hie, List.take_length])
      have hii : ¬ ((i : Int) < (s.M.length : Int)) := by omega
      have HS := Lib.hid (And.intro hR hb)
      clear hie hR hb
      go_wp2
      go_ret
      refine ⟨_, rfl, ?_, HS.out.2⟩
      rw [← HF.out]
      exact HS.out.1
end
end Go.Proofs.YtpkkomifenlkaaaGreat.Au
/- The page's numbers: what somebody holds. -/
namespace Go.Proofs.YtpkkomifenlkaaaGreat.Au
open Go Go.RowKit Go.MuLone
set_option linter.unusedVariables false

theorem rise_eq {L l : List Int} (hL : L.Pairwise (· < ·)) (hl : l.Pairwise (· ≤ ·)) (hn : l.Nodup) (hm : ∀ n, n ∈ L ↔ n ∈ l) : L = l := by
  have h1 : L.Nodup := hL.imp fun h => by omega
  have hp : L.Perm l := (List.perm_ext_iff_of_nodup h1 hn).2 hm
  exact hp.eq_of_pairwise (fun a b _ _ h1 h2 => by omega) (hL.imp fun h => by omega) hl
theorem QH.fr {B Q : Nat} {v v' : Value} {W V : World} {L : List Int} (h : Gp.QH B W Q v L) (f : Gp.Fr Q v v' W V) : Below B W V :=
  ⟨f.os, f.tape, f.output, f.size, fun k hk => f.block k (by have := h.lt; have := h.low; omega) (by have := h.low; omega) fun e => by have := (Gp.own_lt h.row k e.symm).1; omega⟩
section
variable {B : Nat} {W V : World} {b : Pb} {vq vh : Value} {s : Nu}
set_option maxRecDepth 20000 in
set_option maxHeartbeats 4000000 in
theorem pof_any (h : PIs B W b vq vh s) (who : Int) (hnd : (s.M.map (·.1)).Nodup) (hbd : ∀ x ∈ s.M, 0 ≤ x.1 ∧ x.1 ≤ 18446744073709551614) (hl9 : s.M.length < 900) :
    Calls Tryz.prog 40 #[.pointer (some ⟨b.N, 0, none⟩), .int .i64 who] W fun e w' => ∃ A c, e = .returned (.slice A (hbs who s.M).length c) ∧ RdN w' A (hbs who s.M).length (hbs who s.M) ∧ (∀ g off, A = some ⟨g, off, none⟩ → W.heap.size ≤ g) ∧ Below W.heap.size W w' := by
  obtain ⟨A, c, rfl⟩ : ∃ A c, vh = .slice A s.M.length c := held_form h.held
  have HP := Lib.hid h
  have HB := Lib.hid (And.intro hnd hbd)
  have hx := heap_alloc_new W (.cells #[.slice none 0 0] Gp.TQh)
  have b0 : Below W.heap.size W (W.alloc (.cells #[.slice none 0 0] Gp.TQh)) := (Below.refl _ _).alloc (Nat.le_refl _) _
  obtain ⟨w0, hw0⟩ : ∃ X, X = W.alloc (.cells #[.slice none 0 0] Gp.TQh) := ⟨_, rfl⟩
  obtain ⟨Q, hQ⟩ : ∃ Q, Q = W.heap.size := ⟨_, rfl⟩
  rw [← hw0, ← hQ] at hx
  rw [← hw0] at b0
  have q0 : Gp.QH W.heap.size w0 Q (.slice none 0 0) [] := ⟨hx, by omega, World.ownsRow_nil _ _ _ _, by simp, by simp, by simp⟩
  have H0 := Lib.hid (And.intro q0 b0)
  clear h hnd hbd hx b0 q0
  go_enter Tryz.func40, Tryz.ntmps40
  go_upto_region 2 with fail
  rw [← hw0, ← hQ]
  clear hw0 hQ
  go_wp2
  go_loopw [6] (fun vi wr => ∃ (i : Nat) (v : Value) (L : List Int), vi = .int .i64 (i : Int) ∧ i ≤ s.M.length ∧ Gp.QH W.heap.size wr Q v L ∧ Hid ((∀ n, n ∈ L ↔ (n, who) ∈ s.M.take i) ∧ L.length ≤ i) ∧ Below W.heap.size W wr) (fun vi _ => s.M.length - (intOf vi).toNat)
  case atStart => exact ⟨0, _, [], rfl, Nat.zero_le _, H0.out.1, Lib.hid ⟨by simp, by simp⟩, H0.out.2⟩
  case round =>
    clear H0
    obtain ⟨i, v, L, rfl, hi, hq, HL, hb⟩ := hrel
    have q3 := cell_of_row wr b.N 3 _ _ (0, 0) ((hb.block _ HP.out.lt).trans HP.out.box)
    by_cases hlt : i < s.M.length
    · have hi0 : (0 : Int) ≤ (i : Int) := by omega
      have hi1 : (i : Int) < (s.M.length : Int) := by omega
      obtain ⟨g, e1, hg, c1, d1⟩ := held_at HP.out.held i hlt
      have c1' := (World.cell?_of_block (a := ⟨g, i * 2, none⟩) (hb.block g hg)).trans c1
      have d1' := (World.cell?_of_block (a := ⟨g, i * 2 + 1, none⟩) (hb.block g hg)).trans d1
      have hT := List.take_succ_eq_append_getElem hlt
      have hbd := HB.out.2 _ (List.getElem_mem hlt)
      have hnew : ∀ w, (s.M[i].1, w) ∉ s.M.take i := fun w hm => by
        obtain ⟨j, hj, e⟩ := List.getElem_of_mem hm
        have hji : j < i := by simp at hj; omega
        rw [List.getElem_take] at e
        have hn := List.pairwise_iff_getElem.1 HB.out.1 j i (by simp; omega) (by simpa using hlt) hji
        simp only [List.getElem_map] at hn
        exact hn (by rw [e])
      obtain ⟨z, hz⟩ : ∃ z, z = s.M[i] := ⟨_, rfl⟩
      rw [← hz] at c1' d1' hT hbd hnew
      obtain ⟨zn, zw⟩ := z
      have HT := Lib.hid hT
      subst e1
      have HS := Lib.hid (And.intro hq hb)
      have hL9 : L.length < 900 := by have := HL.out.2; omega
      clear c1 d1 hT hz
      by_cases hw : zw = who
      · subst hw
        have hnL : zn ∉ L := fun hm => hnew zw ((HL.out.1 zn).1 hm)
        have HPt := Lib.hid (Gp.qput_go W.heap.size Q v L zn wr hq hbd.1 hbd.2 hnL hL9)
        clear hq hb hnew hnL
        go_wp2_with fail
        refine HPt.out.mono ?_
        rintro _ w2 ⟨rfl, v', h2, f2⟩
        have H2 := Lib.hid (And.intro h2 (HS.out.2.trans ((QH.fr HS.out.1 f2))))
        clear h2 f2 HPt q3 c1' d1'
        go_wp2
        go_roundw
        case rel =>
          refine ⟨i + 1, v', _, by go_num, hlt, H2.out.1, Lib.hid ⟨fun n => ?_, by rw [Gm.putL_len]; have := HL.out.2; omega⟩, H2.out.2⟩
          rw [Gm.mem_putL, HT.out, List.mem_append, ← HL.out.1 n, List.mem_singleton, Prod.mk.injEq]
          exact ⟨fun h => h.elim (fun h => Or.inr ⟨h, rfl⟩) Or.inl, fun h => h.elim Or.inr fun h => Or.inl h.1⟩
        case measure => simp [intOf]; omega
      · have e2 : (zw == who) = false := by simpa using hw
        clear hq hb hnew
        go_wp2
        go_roundw
        case rel =>
          refine ⟨i + 1, v, L, by go_num, hlt, HS.out.1, Lib.hid ⟨fun n => ?_, by have := HL.out.2; omega⟩, HS.out.2⟩
          rw [HT.out, List.mem_append, ← HL.out.1 n, List.mem_singleton, Prod.mk.injEq]
          exact ⟨Or.inl, fun h => h.elim id fun h => absurd h.2.symm hw⟩
        case measure => simp [intOf]; omega
    · have hie : i = s.M.length := by omega
      have hLe : L = hbs who s.M := by
        refine rise_eq hq.rise (hbs_rise who s.M) (hbs_nodup HB.out.1) fun n => ?_
        rw [HL.out.1 n, hbs_mem, hie, List.take_length]
      obtain ⟨A2, c2, rfl⟩ := hq.form
      have hii : ¬ ((i : Int) < (s.M.length : Int)) := by omega
      have p0 := cell_of_row wr Q 0 _ _ (0, 0) hq.box
      have HG := Lib.hid (show ∀ g off, A2 = some ⟨g, off, none⟩ → W.heap.size ≤ g from fun g off e => by subst e; exact own_ge hq.row g rfl)
      have HF := Lib.hid (And.intro (rdN_own rfl hq.row) (And.intro hLe hb))
      clear hq hb hie hLe
      go_wp2
      go_ret
      refine ⟨A2, ⟨c2, ?_⟩, ?_, HG.out, HF.out.2.2⟩
      · rw [← HF.out.2.1]; rfl
      · rw [← HF.out.2.1]; exact HF.out.1
end
end Go.Proofs.YtpkkomifenlkaaaGreat.Au
/- The page's Same: two rows of the same numbers. -/
namespace Go.Proofs.YtpkkomifenlkaaaGreat.Au
open Go Go.RowKit Go.MuLone
set_option linter.unusedVariables false

set_option maxRecDepth 20000 in
set_option maxHeartbeats 2000000 in
theorem psame_yes (A B : Option Addr) (len c c' : Nat) (l : List Int) (W : World) (h : RdN W A len l) (h' : RdN W B len l) (hl9 : len ≤ 1000000) :
    Calls Tryz.prog 45 #[.slice A len c, .slice B len c'] W fun e w' => e = .returned (.bool true) ∧ Below W.heap.size W w' := by
  have HA := Lib.hid h
  have HB := Lib.hid h'
  clear h h'
  go_enter Tryz.func45, Tryz.ntmps45
  go_wp2
  go_loopw [5] (fun vi wr => ∃ (i : Nat), vi = .int .i64 (i : Int) ∧ i ≤ len ∧ Below W.heap.size W wr) (fun vi _ => len - (intOf vi).toNat)
  case atStart => exact ⟨0, rfl, Nat.zero_le _, Below.refl _ _⟩
  case round =>
    obtain ⟨i, rfl, hi, hb⟩ := hrel
    by_cases hlt : i < len
    · have hi0 : (0 : Int) ≤ (i : Int) := by omega
      have hi1 : (i : Int) < (len : Int) := by omega
      obtain ⟨b1, o1, e1, _, c1⟩ := (HA.out.below hb).cells (by omega)
      obtain ⟨b2, o2, e2, _, c2⟩ := (HB.out.below hb).cells (by omega)
      have hil : i < l.length := by have := HA.out.many; omega
      have q1 := c1 i hil
      have q2 := c2 i hil
      obtain ⟨z, hz⟩ : ∃ z, z = l[i] := ⟨_, rfl⟩
      rw [← hz] at q1 q2
      subst e1 e2
      have Hb := Lib.hid hb
      clear c1 c2 hz hb
      go_wp2
      go_region
      go_wp2
      go_roundw
      case rel => exact ⟨i + 1, by go_num, hlt, Hb.out.drew⟩
      case measure => simp [intOf]; omega
    · obtain rfl : i = len := by omega
      have hii : ¬ ((i : Int) < (i : Int)) := by omega
      go_wp2
      go_ret
      exact ⟨rfl, hb⟩
end Go.Proofs.YtpkkomifenlkaaaGreat.Au
