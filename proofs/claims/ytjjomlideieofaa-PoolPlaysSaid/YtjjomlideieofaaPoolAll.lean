/- A pool of transactions: All. -/
import Derived.Test.YtjjomlideieofaaPoolSame
namespace Go.Proofs.Ytjjomlideieofaa.Msg
open Go Go.RowKit

/-- What a row of copies is. -/
structure Cp (w W : World) (l : Value) (ps ts : List T4) : Prop where
  row : W.ownsRow w.heap.size TT 4 l ps.length (tcells ps)
  sim : ∀ i (h : i < ps.length) (h' : i < ts.length), Sim ps[i] ts[i]
  own : ∀ p ∈ ps, W.ownsRow w.heap.size TM 7 (.slice p.A p.len p.cap) p.len (mevs p.ms)
  bel : Below w.heap.size w W

def PAll (w : World) (ts : List T4) (e : Ending) (w' : World) : Prop := ∃ u ps, e = .returned u ∧ ps.length = ts.length ∧ Cp w w' u ps ts

set_option maxRecDepth 100000 in
set_option maxHeartbeats 4000000 in
theorem pall_any {w : World} {base g first : Nat} {most : Int} {ts : List T4} (h : Pl w base g first most ts) (hm : ∀ t ∈ ts, t.len ≤ 1000 ∧ t.ms.length = t.len) :
    Calls Try.prog 20 #[.pointer (some ⟨g, 0, none⟩)] w (PAll w ts) := by
  obtain ⟨i1, hi1, hy0, hy1, hy2⟩ := info_parts infoT
  have hle := h.le
  have HP := Lib.hid h
  have HM := Lib.hid hm
  obtain ⟨n, hn⟩ : ∃ n, n = ts.length := ⟨_, rfl⟩
  have HL := Lib.hid (plen_any h)
  rw [← hn] at HL hle
  have HN := Lib.hid hn
  clear h hm hn
  go_enter Try.func20, Try.ntmps20
  go_wp2_with fail
  refine HL.out.mono ?_
  rintro e w' ⟨rfl, hw'⟩
  obtain rfl := hw'.symm
  go_wp2
  go_loopw [3, 7] (fun l i wr => ∃ (k : Nat) (ps : List T4), i = .int .i64 (k : Int) ∧ k ≤ n ∧ ps.length = k ∧ Cp w wr l ps ts) (fun _ i _ => n - (intOf i).toNat)
  case atStart => exact ⟨0, [], rfl, Nat.zero_le _, rfl, World.ownsRow_nil _ _ _ _, fun i h => absurd h (by simp), fun p hp => by simp at hp, Below.refl _ _⟩
  case round =>
    obtain ⟨k, ps, rfl, hk, hpk, hcp⟩ := hrel
    obtain ⟨Al, cl, hlv⟩ := own_formN hcp.row
    rw [hpk] at hlv
    subst hlv
    have HC := Lib.hid hcp
    have HPK := Lib.hid hpk
    clear hcp hpk
    by_cases hlt : k < n
    · have hkt : k < ts.length := by have := HN.out; omega
      have hi0 : (0 : Int) ≤ (k : Int) := by omega
      have hkn : (k : Int) < (n : Int) := by omega
      have hPw := Lib.hid (HP.out.below HC.out.bel)
      go_wp2_with fail
      refine (place_any hPw.out k (by omega)).mono ?_
      rintro e wp ⟨rfl, q, rfl⟩
      have hPq : Pl (wr.drewN q) base g first most ts := ⟨hPw.out.hg, hPw.out.lt, hPw.out.le, hPw.out.blk, hPw.out.rows⟩
      obtain ⟨K, hK⟩ : ∃ K, K = (first + k) % 32 * 4 := ⟨_, rfl⟩
      have a0 := hPq.at k hkt 0 (by omega)
      have a1 := hPq.at k hkt 1 (by omega)
      have a2 := hPq.at k hkt 2 (by omega)
      have a3 := hPq.at k hkt 3 (by omega)
      rw [← hK] at a0 a1 a2 a3 ⊢
      have hrow := hPq.rows _ (List.getElem_mem hkt)
      have hml := HM.out _ (List.getElem_mem hkt)
      have hT := Lib.hid (show ∃ h : k < ts.length, ts[k] = ts[k] from ⟨hkt, rfl⟩)
      obtain ⟨t, ht⟩ : ∃ t, ts[k] = t := ⟨_, rfl⟩
      rw [ht] at a0 a1 a2 a3 hrow hml
      simp [T4.cells] at a0 a1 a2 a3
      have HT := Lib.hid ht
      have HO := Lib.hid (own_any t (wr.drewN q) (row_at hrow hml.2) (by omega))
      clear hPq hK hrow ht hT
      go_wp2_with fail
      refine HO.out.mono ?_
      rintro e w2 ⟨Ao, co, rfl, hown, hb2⟩
      have hall : Below wr.heap.size wr w2 := (below_drewN (Below.refl _ wr) q).trans hb2
      have hrow2 : w2.ownsRow w.heap.size TT 4 (.slice Al k cl) k (tcells ps) := by
        have h9 := own_below HC.out.row hall
        rw [HPK.out] at h9
        exact h9
      have hz2 : w.heap.size ≤ w2.heap.size := (HC.out.bel.trans (hall.mono HC.out.bel.size)).size
      have H2 := Lib.hid (And.intro hown hall)
      clear hown hb2 hall a0 a1 a2 a3
      go_wp2_with (at_builtin; refine wpList_append_own_at _ rfl _ _ 34 rfl w.heap.size 40 i1 _ 4 48 Try.underlying34 hi1 hy0 hy1 hy2 rfl (by decide) _ _ _ rfl (hrow2.alloc _) ⟨w2.heap.size, 0, none⟩ 1 1 (T4.cells ⟨t.side, t.acc, t.n, Ao, t.len, co, t.ms⟩).toList rfl rfl (cells4_new w2 ⟨t.side, t.acc, t.n, Ao, t.len, co, t.ms⟩ _) (cells4_one _) (by unfold maxLen; omega) (by omega) (by simp; omega) ?_)
      intro v1 w3 hown3 hg3 _ _
      have hk3 : KM w2 w3 := (KM.alloc w2 _).trans (KM.grown (hrow2.alloc _) (by decide) hg3)
      have H3 := Lib.hid (And.intro hown3 (And.intro hk3 (below_push (HC.out.bel.trans (H2.out.2.mono HC.out.bel.size)) hz2 hrow2 hg3)))
      clear hown3 hg3 hk3 hrow2 hz2
      go_wp2
      refine ⟨⟨k + 1, ps ++ [⟨t.side, t.acc, t.n, Ao, t.len, co, t.ms⟩], by go_num, by omega, by simp [HPK.out], ?_, ?_, ?_, H3.out.2.2⟩, by simp [intOf]; omega⟩
      · rw [List.length_append, List.length_singleton, HPK.out, tcells_snoc]
        exact H3.out.1
      · intro i h1 h2
        simp at h1
        by_cases hi : i < ps.length
        · rw [List.getElem_append_left hi]
          exact HC.out.sim i hi h2
        · obtain rfl : i = ps.length := by omega
          rw [List.getElem_append_right (Nat.le_refl _)]
          simp only [Nat.sub_self, List.getElem_cons_zero, HPK.out]
          rw [HT.out]
          exact ⟨rfl, rfl, rfl, rfl, rfl⟩
      · intro p hp
        rcases List.mem_append.1 hp with hp | hp
        · exact own_km (own_km (HC.out.own p hp) (KM.below H2.out.2)) H3.out.2.1
        · simp at hp
          subst hp
          exact own_km (own_base H2.out.1 (show w.heap.size ≤ wr.heap.size from HC.out.bel.size)) H3.out.2.1
    · obtain rfl : k = n := by omega
      go_wp2
      go_ret
      exact ⟨_, ps, rfl, by rw [HPK.out, HN.out], by have := HC.out; exact ⟨by have h9 := this.row; rw [HPK.out] at h9 ⊢; exact h9, this.sim, this.own, this.bel⟩⟩
end Go.Proofs.Ytjjomlideieofaa.Msg
