import Derived.Test.YtlpnecmcncekcaaGreatTabCO
import Derived.Deep.QuietTactic
import Derived.BigQuiet
/- The page's SameKeys of two rows of keys that are alike. -/
namespace Go.Proofs.YtlpnecmcncekcaaGreat.Mk
open Go Go.RowKit

theorem kcs_len (l : List K3) : (kcs l).length = l.length * 3 := by
  induction l with
  | nil => rfl
  | cons a l ih => simp only [kcs, List.flatMap_cons, List.length_append, List.length_cons, List.length_nil] at *; omega
theorem kcs_get : ∀ (l : List K3) (i q : Nat) (h : i < l.length), q < 3 → (kcs l)[i * 3 + q]? = [Value.int .i64 l[i].c, .int .i64 l[i].f, .int .u64 l[i].s][q]?
  | [], _, _, h, _ => by cases h
  | a :: l, 0, q, _, hq => by
    simp only [kcs, List.flatMap_cons]
    rw [List.getElem?_append_left (by simp; omega)]
    simp
  | a :: l, i + 1, q, h, hq => by
    simp only [kcs, List.flatMap_cons]
    rw [List.getElem?_append_right (by simp; omega)]
    simp only [List.length_cons, List.length_nil]
    rw [show (i + 1) * 3 + q - (0 + 1 + 1 + 1) = i * 3 + q by omega]
    exact kcs_get l i q (by simpa using h) hq
theorem keys_at {b : Nat} {w : World} {v : Value} {ks : List K3} (h : w.ownsRow b 41 3 v ks.length (kcs ks)) (i : Nat) (hi : i < ks.length) : ∃ g c, v = .slice (some ⟨g, 0, none⟩) ks.length c ∧ w.cell? ⟨g, i * 3, none⟩ = some (.int .i64 ks[i].c) ∧ w.cell? ⟨g, i * 3 + 1, none⟩ = some (.int .i64 ks[i].f) ∧ w.cell? ⟨g, i * 3 + 2, none⟩ = some (.int .u64 ks[i].s) := by
  rcases h.2 with ⟨_, h2⟩ | ⟨g, cap, cur, hv, hg, r⟩
  · omega
  · refine ⟨g, cap, hv, ?_⟩
    have hc := fun j u hu => World.ownsRow.cells h (g := g) (by rw [hv]; rfl) j u hu
    have ea : ∀ j, (⟨g, 0, none⟩ : Addr).add j = ⟨g, j, none⟩ := fun j => by unfold Addr.add; by_cases h : j = 0 <;> simp [h]
    have g0 := hc (i * 3 + 0) _ ((kcs_get ks i 0 hi (by decide)).trans rfl)
    have g1 := hc (i * 3 + 1) _ ((kcs_get ks i 1 hi (by decide)).trans rfl)
    have g2 := hc (i * 3 + 2) _ ((kcs_get ks i 2 hi (by decide)).trans rfl)
    rw [ea] at g0 g1 g2
    exact ⟨g0, g1, g2⟩
theorem neq_key (a : K3) (W : World) : (binOp .neq 41 a.val a.val).run Tryz.prog W = .ok (.bool false) W := by
  have h := eq_key a a W
  unfold K3.val at h ⊢
  simp only [decide_true] at h
  simp only [binOp, Sem.run_bind, h, Result.andThen_ok]
  rfl
theorem own_formK {w : World} {b : Nat} {v : Value} {ks : List K3} (h : w.ownsRow b 41 3 v ks.length (kcs ks)) : ∃ A c, v = .slice A ks.length c := by
  rcases h.2 with ⟨h1, h2⟩ | ⟨g, cap, cur, hv, _⟩
  · exact ⟨none, 0, by rw [h1, h2]⟩
  · exact ⟨_, _, hv⟩
set_option maxRecDepth 20000 in
theorem same_keys (b b' : Nat) (v v' : Value) (ks : List K3) (w : World) (hn : ks.length ≤ 1000) (ha : w.ownsRow b 41 3 v ks.length (kcs ks)) (hb : w.ownsRow b' 41 3 v' ks.length (kcs ks)) :
    Calls Tryz.prog 20 #[v, v'] w fun e w' => e = .returned (.bool true) ∧ Below w.heap.size w w' := by
  obtain ⟨A, c, rfl⟩ := own_formK ha
  obtain ⟨A', c', rfl⟩ := own_formK hb
  have HA := Lib.hid ha
  have HB := Lib.hid hb
  clear ha hb
  obtain ⟨n, hnd⟩ : ∃ n, n = ks.length := ⟨_, rfl⟩
  have HN : Hid (n = ks.length) := hnd
  rw [← hnd] at hn ⊢
  clear hnd
  go_enter Tryz.func20, Tryz.ntmps20
  go_wp2
  go_loopw [5] (fun i wr => ∃ k : Nat, i = .int .i64 (k : Int) ∧ k ≤ n ∧ ∃ q, wr = w.drewN q) (fun i _ => n - (intOf i).toNat)
  case atStart => exact ⟨0, rfl, Nat.zero_le _, 0, rfl⟩
  case round =>
    obtain ⟨k, rfl, hk, q, rfl⟩ := hrel
    by_cases hlt : k < n
    · obtain ⟨g, c1, hv, c0, c1', c2⟩ := keys_at HA.out k (by have := HN.out; omega)
      obtain ⟨g', d1, hv', d0, d1', d2⟩ := keys_at HB.out k (by have := HN.out; omega)
      injection hv with hv hvn hv2
      injection hv' with hv' hvn' hv2'
      clear hvn hvn'
      subst hv hv' hv2 hv2'
      generalize ks[k]'(by have := HN.out; omega) = m at c0 c1' c2 d0 d1' d2
      have hne := fun W => neq_key m W
      obtain ⟨kc, kf, kq⟩ := m
      unfold K3.val at hne
      have hi0 : (0 : Int) ≤ (k : Int) := by omega
      have hi1 : (k : Int) < (n : Int) := by omega
      go_wp2
      go_quiet (fail)
      go_wp2
      go_roundw
      case rel => exact ⟨k + 1, by go_num, by omega, _, rfl⟩
      case measure => simp [intOf]; omega
    · obtain rfl : k = n := by omega
      go_wp2
      go_ret
      exact ⟨rfl, below_drewN (Below.refl _ _) _⟩
end Go.Proofs.YtlpnecmcncekcaaGreat.Mk
