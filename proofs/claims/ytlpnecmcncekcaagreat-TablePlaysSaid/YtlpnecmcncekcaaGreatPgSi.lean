import Derived.Test.YtlpnecmcncekcaaGreatPgSh
import Derived.Test.YtlpnecmcncekcaaGreatKeyRLessM
import Derived.Test.YtlpnecmcncekcaaGreatHeld
import Derived.Test.YtlpnecmcncekcaaGreatHeld
import Derived.Deep.CutBlock
/- The page's shard: where a new key's entry goes. -/
namespace Go.Proofs.YtlpnecmcncekcaaGreat.Mk
open Go Go.RowKit Go.MuLone

/-- how many are ahead of a key -/
def qAt (k : K3) (ls : List En) : Nat := (ls.takeWhile fun e => ltK e.k k).length
def qIns (k : K3) (ls : List En) : List En := ls.take (qAt k ls) ++ ⟨k, 1, 0⟩ :: ls.drop (qAt k ls)
theorem tw_len {α : Type} (p : α → Bool) : ∀ (l : List α) (j : Nat) (hj : j ≤ l.length), (∀ q, (h : q < j) → p (l[q]'(by omega)) = true) → (∀ h : j < l.length, p l[j] = false) → (l.takeWhile p).length = j
  | [], j, hj, _, _ => by have : j = 0 := by simpa using hj
                          subst this; rfl
  | x :: l, 0, _, _, h2 => by
    have := h2 (by simp)
    simp only [List.getElem_cons_zero] at this
    rw [List.takeWhile_cons, this]
    rfl
  | x :: l, j + 1, hj, h1, h2 => by
    have h0 := h1 0 (by omega)
    simp only [List.getElem_cons_zero] at h0
    rw [List.takeWhile_cons, h0]
    simp only [if_true, List.length_cons]
    congr 1
    exact tw_len p l j (by simpa using hj) (fun q hq => h1 (q + 1) (by omega)) (fun h => h2 (by simpa using h))
/-- what the test of Insert's loop loads -/
def SI (Q g c n w0 o : Nat) (k : K3) (e : En) (W : World) : Prop :=
  W.cell? ⟨Q, 0, none⟩ = some (.slice (some ⟨g, 0, none⟩) n c) ∧ W.cell? ⟨g, o, none⟩ = some (.int .i64 e.k.c) ∧ W.cell? ⟨g, o + 1, none⟩ = some (.int .i64 e.k.f) ∧ W.cell? ⟨g, o + 2, none⟩ = some (.int .u64 e.k.s) ∧ W.cell? ⟨w0, 0, none⟩ = some (.int .i64 k.c) ∧ W.cell? ⟨w0, 1, none⟩ = some (.int .i64 k.f) ∧ W.cell? ⟨w0, 2, none⟩ = some (.int .u64 k.s)
theorem SI.drew {Q g c n w0 o : Nat} {k : K3} {e : En} {W : World} (h : SI Q g c n w0 o k e W) : SI Q g c n w0 o k e W.drew := h
theorem SI.call {Q g c n w0 o : Nat} {k : K3} {e : En} {W W' : World} (h : SI Q g c n w0 o k e W) (hb : Below W.heap.size W W') : SI Q g c n w0 o k e W' := by
  obtain ⟨h1, h2, h3, h4, h5, h6, h7⟩ := h
  have kk : ∀ p v, W.cell? p = some v → W'.cell? p = some v := fun p v hp => (hb.cell (World.block_lt_of_cell? _ _ hp)).trans hp
  exact ⟨kk _ _ h1, kk _ _ h2, kk _ _ h3, kk _ _ h4, kk _ _ h5, kk _ _ h6, kk _ _ h7⟩
theorem ecs_append (a b : List En) : ecs (a ++ b) = ecs a ++ ecs b := by simp [ecs]
theorem ecs_one (l : List En) : ∀ u ∈ ecs l, u.oneCell' = true := by
  intro u hu
  obtain ⟨e, _, hu⟩ := List.mem_flatMap.1 hu
  exact encE_one e u hu
/-- the page's row, parted -/
structure Pts (V : World) (A A2 : Option Addr) (n c j : Nat) (ls : List En) : Prop where
  nc : n ≤ c
  no1 : A = none → j = 0 ∧ c = 0
  no2 : A2 = none → n - j = 0 ∧ c - j = 0
  f1 : ∀ ad, A = some ad → ∀ q u, (ecs (ls.take j))[q]? = some u → V.cell? (ad.add q) = some u
  f2 : ∀ ad, A2 = some ad → ∀ q u, (ecs (ls.drop j))[q]? = some u → V.cell? (ad.add q) = some u
theorem QI.pts {V : World} {Q n c : Nat} {room : Int} {A : Option Addr} {ls : List En} (h : QI V Q room (.slice A n c) ls) (hn : n = ls.length) (j : Nat) (hj : j ≤ n) : Pts V A (if c = j then A else Option.map (fun x => x.add (j * 5)) A) n c j ls := by
  have hall := fun g hg => World.ownsRow.cells h.row (g := g) hg
  rcases h.row.2 with ⟨h3, h4⟩ | ⟨g, cap, cur, hv, hg, hh, hnc, hm, hs, ht⟩
  · injection h3 with h5 h6 h7
    subst h5 h6 h7
    obtain rfl : j = 0 := by omega
    have hl : ls = [] := List.eq_nil_of_length_eq_zero hn.symm
    subst hl
    exact ⟨Nat.le_refl _, fun _ => ⟨rfl, rfl⟩, fun _ => ⟨rfl, rfl⟩, fun _ h => (by cases h), fun _ h => (by cases h)⟩
  · injection hv with h5 h6 h7
    subst h5 h6 h7
    have hall2 := hall g rfl
    have e0 : ls = ls.take j ++ ls.drop j := (List.take_append_drop j ls).symm
    have e1 : ecs ls = ecs (ls.take j) ++ ecs (ls.drop j) := by rw [← ecs_append, ← e0]
    have l1 : (ecs (ls.take j)).length = j * 5 := by rw [ecs_len, List.length_take, Nat.min_eq_left (by omega)]
    refine ⟨by omega, fun h => by (cases h), fun h => ?_, fun ad h q u hu => ?_, fun ad h q u hu => ?_⟩
    · by_cases hc : c = j
      · rw [if_pos hc] at h; cases h
      · rw [if_neg hc] at h; cases h
    · injection h with h; subst h
      refine hall2 q u ?_
      rw [e1]
      have hq := (List.getElem?_eq_some_iff.1 hu).1
      rw [List.getElem?_append_left hq]; exact hu
    · by_cases hc : c = j
      · have : ls.drop j = [] := List.drop_eq_nil_of_le (by omega)
        rw [this] at hu
        cases hu
      · rw [if_neg hc] at h
        injection h with h; subst h
        have := hall2 (j * 5 + q) u (by rw [e1, List.getElem?_append_right (by omega), l1, Nat.add_sub_cancel_left]; exact hu)
        rw [show ((⟨g, 0, none⟩ : Addr).add (j * 5)).add q = (⟨g, 0, none⟩ : Addr).add (j * 5 + q) by unfold Addr.add; by_cases hj0 : j * 5 = 0 <;> by_cases hq0 : q = 0 <;> simp [hj0, hq0] <;> omega]
        exact this
theorem Pts.below {V V' : World} {A A2 : Option Addr} {n c j : Nat} {ls : List En} (h : Pts V A A2 n c j ls) (hb : Below V.heap.size V V') : Pts V' A A2 n c j ls :=
  ⟨h.nc, h.no1, h.no2, fun ad ha q u hu => (hb.cell (World.block_lt_of_cell? _ _ (h.f1 ad ha q u hu))).trans (h.f1 ad ha q u hu), fun ad ha q u hu => (hb.cell (World.block_lt_of_cell? _ _ (h.f2 ad ha q u hu))).trans (h.f2 ad ha q u hu)⟩
theorem own_form5 {V : World} {b n : Nat} {v : Value} {xs : List Value} (h : V.ownsRow b TEn 5 v n xs) : ∃ A m c, v = .slice A m c := by
  rcases h.2 with ⟨h1, _⟩ | ⟨g, cap, cur, h1, _⟩
  · exact ⟨_, _, _, h1⟩
  · exact ⟨_, _, _, h1⟩
end Go.Proofs.YtlpnecmcncekcaaGreat.Mk
/- The page's shard: Insert. -/
namespace Go.Proofs.YtlpnecmcncekcaaGreat.Mk
open Go Go.RowKit Go.MuLone

def qiR (room : Int) (k : K3) (ls : List En) : Int := if (qE k ls).isSome then 7 else if room ≤ (ls.length : Int) then 6 else 0
def qiL (room : Int) (k : K3) (ls : List En) : List En := if qiR room k ls = 0 then qIns k ls else ls
set_option maxRecDepth 20000 in
set_option maxHeartbeats 4000000 in
theorem qins_any (Q : Nat) (room : Int) (v : Value) (ls : List En) (k : K3) (w : World) (h : QI w Q room v ls) (hn : ls.length ≤ 1000) :
    Calls Tryz.prog 60 #[.pointer (some ⟨Q, 0, none⟩), k.val] w fun e w' => e = .returned (.int .i64 (qiR room k ls)) ∧ ∃ v', QI w' Q room v' (qiL room k ls) ∧ Below Q w w' := by
  obtain ⟨i0, hi', hz0, hz1, hz2⟩ := info_partsE infoEn
  have HK := Lib.hid (KB.new w k)
  have HQ := Lib.hid (h.alloc (.cells #[.int .i64 k.c, .int .i64 k.f, .int .u64 k.s] 41))
  have HQ0 : Hid (Q < w.heap.size) := h.lt
  clear h
  obtain ⟨K0, hK0⟩ : ∃ K0 : K3, K0 = k := ⟨_, rfl⟩
  obtain ⟨kc, kf, ks⟩ := k
  unfold K3.val
  dsimp only at HK HQ ⊢
  have HF := Lib.hid (find_any Q room v ls ⟨kc, kf, ks⟩ _ HQ.out hn)
  unfold K3.val at HF
  dsimp only at HF
  rw [← hK0] at HK HF ⊢
  have HK0 := Lib.hid hK0
  clear hK0
  go_enter Tryz.func60, Tryz.ntmps60
  go_wp2_with fail
  generalize w.alloc (.cells #[.int .i64 kc, .int .i64 kf, .int .u64 ks] 41) = W1 at HK HQ HF ⊢
  refine HF.out.mono ?_
  rintro _ w1 ⟨rfl, hb⟩
  have HK1 := Lib.hid (HK.out.below hb)
  have HQ1 := Lib.hid (HQ.out.below hb)
  clear HK HQ HF hb
  have HB1 : Hid (Below Q w w1) := HK1.out.bel.mono (Nat.le_of_lt HQ0.out)
  obtain ⟨A, c, rfl⟩ := HQ1.out.form
  obtain ⟨n, hnd⟩ : ∃ n, n = ls.length := ⟨_, rfl⟩
  have HN : Hid (n = ls.length) := hnd
  rw [← hnd] at hn HQ1
  clear hnd
  rcases qf_cases K0 ls with ⟨hq, hall⟩ | ⟨i, hi, hq, hki, hbf⟩
  rotate_left
  · have HR : Hid (qiR room K0 ls = 7) := by show qiR _ _ _ = _; unfold qiR; rw [qE_some hi hki hbf]; rfl
    rw [hq]
    have hi0 : (0 : Int) ≤ (i : Int) := by omega
    clear hki hbf hi hq
    go_wp2
    go_ret
    exact ⟨by rw [HR.out]; first | rfl | trivial, _, by unfold qiL; rw [if_neg (by rw [HR.out]; decide)]; exact HQ1.out, HB1.out⟩
  rw [hq]
  have HR : Hid (qiR room K0 ls = if room ≤ (n : Int) then 6 else 0) := by show qiR _ _ _ = _; unfold qiR; rw [qE_none hall, HN.out]; rfl
  clear hall hq
  have q0 := HQ1.out.cell.1
  have q1 := HQ1.out.cell.2.1
  by_cases hroom : room ≤ (n : Int)
  · have HR2 : Hid (qiR room K0 ls = 6) := by have := HR.out; rwa [if_pos hroom] at this
    clear HR
    go_wp2
    go_quiet (fail)
    go_wp2
    go_ret
    exact ⟨by rw [HR2.out]; first | rfl | trivial, _, by unfold qiL; rw [if_neg (by rw [HR2.out]; decide)]; exact HQ1.out.drewN _, below_drewN HB1.out _⟩
  have HR2 : Hid (qiR room K0 ls = 0) := by have := HR.out; rwa [if_neg hroom] at this
  clear HR
  go_wp2
  go_quiet (fail)
  have hBD : Hid (Below w1.heap.size w1 (w1.drewN nq)) := below_drewN (Below.refl _ _) _
  generalize w1.drewN nq = w2 at hBD ⊢
  go_upto_block 0 with fail
  clear hroom q0 q1
  go_cut [5] from 20 to 40 (fun sv wx => ∃ j : Nat, sv = .int .i64 (j : Int) ∧ j ≤ n ∧ Hid (qAt K0 ls = j) ∧ Hid (Below w1.heap.size w1 wx))
  rotate_left
  · obtain ⟨j, rfl, hj, HJ, HBc⟩ := hcut
    have HQ3 := Lib.hid (HQ1.out.below HBc.out)
    have HK3 := Lib.hid (HK1.out.below HBc.out)
    have hj0 : (0 : Int) ≤ (j : Int) := by omega
    have hjn : (j : Int) ≤ (n : Int) := by omega
    go_wp2
    refine wp_region_last (fun W => W.cell? ⟨Q, 0, none⟩ = some (.slice A n c) ∧ W.cell? ⟨w.heap.size, 0, none⟩ = some (.int .i64 kc) ∧ W.cell? ⟨w.heap.size, 1, none⟩ = some (.int .i64 kf) ∧ W.cell? ⟨w.heap.size, 2, none⟩ = some (.int .u64 ks)) 22 (by kernel_rfl) ?_
    have HQ8 := Lib.hid HQ3.out.drew
    have HK8 : Hid (KB w wc.drew K0) := Lib.hid (HK3.out.drewN 1)
    have HB8 : Hid (Below Q w wc.drew) := Lib.hid (HB1.out.trans (HBc.out.drew.mono (Nat.le_of_lt HQ1.out.lt)))
    generalize wc.drew = w8 at HQ8 HK8 HB8 ⊢
    have HS : Hid (∀ V, Below w8.heap.size w8 V → V.cell? ⟨Q, 0, none⟩ = some (.slice A n c) ∧ V.cell? ⟨w.heap.size, 0, none⟩ = some (.int .i64 kc) ∧ V.cell? ⟨w.heap.size, 1, none⟩ = some (.int .i64 kf) ∧ V.cell? ⟨w.heap.size, 2, none⟩ = some (.int .u64 ks)) := fun V hb => by
      have hq := (HQ8.out.below hb).cell.1
      have hk := HK8.out.below hb
      have h0 := hk.c
      have h1 := hk.f
      have h2 := hk.s
      rw [HK0.out] at h0 h1 h2
      exact ⟨hq, h0, h1, h2⟩
    have HP := Lib.hid (HQ8.out.pts HN.out j hj)
    have hjc : j ≤ c := by have := HP.out.nc; omega
    have hjc2 : (j : Int) ≤ (c : Int) := by omega
    have hnc2 : n ≤ c := HP.out.nc
    have hHeld := HS.out w8 (Below.refl _ _)
    refine wpL_take (i := 0) (oi := _) (v := ?_) [21, 20] rfl (by kernel_rfl) (by kernel_rfl) (by kernel_rfl) (by kernel_rfl) (by kernel_rfl) (fun _ _ _ h => h) (Or.inl ⟨by rfl, ?_⟩) (by assumption) ?_
    rotate_left
    · (intro W hSw; (try dsimp only at hSw); go_simp; try with_reducible rfl)
    try simp only [Act.put, List.getElem_toArray, List.getElem_cons_zero, List.setIfInBounds_toArray, List.set_cons_zero, List.set_cons_succ]
    refine wpL_take (i := 2) (oi := _) (v := ?_) [19, 12, 8, 7, 5, 4, 3] rfl (by kernel_rfl) (by kernel_rfl) (by kernel_rfl) (by kernel_rfl) (by kernel_rfl) (fun _ _ _ h => h) (Or.inl ⟨by rfl, ?_⟩) (by assumption) ?_
    rotate_left
    · (intro W hSw; (try dsimp only at hSw); go_simp; try with_reducible rfl)
    try simp only [Act.put, List.getElem_toArray, List.getElem_cons_succ, List.getElem_cons_zero, List.setIfInBounds_toArray, List.set_cons_zero, List.set_cons_succ]
    refine wpL_take (i := 3) (oi := _) (v := ?_) [19, 12, 8, 7, 5, 4] rfl (by kernel_rfl) (by kernel_rfl) (by kernel_rfl) (by kernel_rfl) (by kernel_rfl) (fun _ _ _ h => h) (Or.inl ⟨by rfl, ?_⟩) (by assumption) ?_
    rotate_left
    · (intro W hSw; (try dsimp only at hSw); go_simp; try with_reducible rfl)
    try simp only [Act.put, List.getElem_toArray, List.getElem_cons_succ, List.getElem_cons_zero, List.setIfInBounds_toArray, List.set_cons_zero, List.set_cons_succ]
    refine wpL_take (i := 4) (oi := _) (v := ?_) [19, 12, 8, 7, 5] rfl (by kernel_rfl) (by kernel_rfl) (by kernel_rfl) (by kernel_rfl) (by kernel_rfl) (fun _ _ _ h => h) (Or.inl ⟨by rfl, ?_⟩) (by assumption) ?_
    rotate_left
    · (intro W hSw; (try dsimp only at hSw); go_simp; try with_reducible rfl)
    try simp only [Act.put, List.getElem_toArray, List.getElem_cons_succ, List.getElem_cons_zero, List.setIfInBounds_toArray, List.set_cons_zero, List.set_cons_succ]
    refine wpL_take (i := 5) (oi := _) (v := ?_) [19, 12, 8, 7] rfl (by kernel_rfl) (by kernel_rfl) (by kernel_rfl) (by kernel_rfl) (by kernel_rfl) (fun _ _ _ h => h) (Or.inl ⟨by rfl, ?_⟩) (by assumption) ?_
    rotate_left
    · (intro W hSw; (try dsimp only at hSw); go_simp; try with_reducible rfl)
    try simp only [Act.put, List.getElem_toArray, List.getElem_cons_succ, List.getElem_cons_zero, List.setIfInBounds_toArray, List.set_cons_zero, List.set_cons_succ]
    refine wpL_take (i := 6) (oi := _) (v := ?_) [19, 12, 8, 7] rfl (by kernel_rfl) (by kernel_rfl) (by kernel_rfl) (by kernel_rfl) (by kernel_rfl) (fun _ _ _ h => h) (Or.inl ⟨by rfl, ?_⟩) (by assumption) ?_
    rotate_left
    · (intro W hSw; (try dsimp only at hSw); go_simp; try with_reducible rfl)
    try simp only [Act.put, List.getElem_toArray, List.getElem_cons_succ, List.getElem_cons_zero, List.setIfInBounds_toArray, List.set_cons_zero, List.set_cons_succ]
    refine wpL_take (i := 7) (oi := _) (v := ?_) [19, 12, 8] rfl (by kernel_rfl) (by kernel_rfl) (by kernel_rfl) (by kernel_rfl) (by kernel_rfl) (fun _ _ _ h => h) (Or.inl ⟨by rfl, ?_⟩) (by assumption) ?_
    rotate_left
    · (intro W hSw; (try dsimp only at hSw); go_simp; try with_reducible rfl)
    try simp only [Act.put, List.getElem_toArray, List.getElem_cons_succ, List.getElem_cons_zero, List.setIfInBounds_toArray, List.set_cons_zero, List.set_cons_succ]
    refine wpL_take (i := 9) (oi := _) (v := ?_) [19, 12, 11, 10] rfl (by kernel_rfl) (by kernel_rfl) (by kernel_rfl) (by kernel_rfl) (by kernel_rfl) (fun _ _ _ h => h) (Or.inl ⟨by rfl, ?_⟩) (by assumption) ?_
    rotate_left
    · (intro W hSw; (try dsimp only at hSw); go_simp; try with_reducible rfl)
    try simp only [Act.put, List.getElem_toArray, List.getElem_cons_succ, List.getElem_cons_zero, List.setIfInBounds_toArray, List.set_cons_zero, List.set_cons_succ]
    refine wpL_take (i := 10) (oi := _) (v := ?_) [19, 12, 11] rfl (by kernel_rfl) (by kernel_rfl) (by kernel_rfl) (by kernel_rfl) (by kernel_rfl) (fun _ _ _ h => h) (Or.inl ⟨by rfl, ?_⟩) (by assumption) ?_
    rotate_left
    · (intro W hSw; (try dsimp only at hSw); go_simp; try with_reducible rfl)
    try simp only [Act.put, List.getElem_toArray, List.getElem_cons_succ, List.getElem_cons_zero, List.setIfInBounds_toArray, List.set_cons_zero, List.set_cons_succ]
    refine wpL_take (i := 13) (oi := _) (v := ?_) [19, 18, 16, 15, 14] rfl (by kernel_rfl) (by kernel_rfl) (by kernel_rfl) (by kernel_rfl) (by kernel_rfl) (fun _ _ _ h => h) (Or.inl ⟨by rfl, ?_⟩) (by assumption) ?_
    rotate_left
    · (intro W hSw; (try dsimp only at hSw); go_simp; try with_reducible rfl)
    try simp only [Act.put, List.getElem_toArray, List.getElem_cons_succ, List.getElem_cons_zero, List.setIfInBounds_toArray, List.set_cons_zero, List.set_cons_succ]
    refine wpL_take (i := 14) (oi := _) (v := ?_) [19, 18, 16, 15] rfl (by kernel_rfl) (by kernel_rfl) (by kernel_rfl) (by kernel_rfl) (by kernel_rfl) (fun _ _ _ h => h) (Or.inl ⟨by rfl, ?_⟩) (by assumption) ?_
    rotate_left
    · (intro W hSw; (try dsimp only at hSw); go_simp; try with_reducible rfl)
    try simp only [Act.put, List.getElem_toArray, List.getElem_cons_succ, List.getElem_cons_zero, List.setIfInBounds_toArray, List.set_cons_zero, List.set_cons_succ]
    refine wpL_take (i := 15) (oi := _) (v := ?_) [19, 18, 16] rfl (by kernel_rfl) (by kernel_rfl) (by kernel_rfl) (by kernel_rfl) (by kernel_rfl) (fun _ _ _ h => h) (Or.inl ⟨by rfl, ?_⟩) (by assumption) ?_
    rotate_left
    · (intro W hSw; (try dsimp only at hSw); go_simp; try with_reducible rfl)
    try simp only [Act.put, List.getElem_toArray, List.getElem_cons_succ, List.getElem_cons_zero, List.setIfInBounds_toArray, List.set_cons_zero, List.set_cons_succ]
    refine wpL_take (i := 16) (oi := _) (v := ?_) [19, 18] rfl (by kernel_rfl) (by kernel_rfl) (by kernel_rfl) (by kernel_rfl) (by kernel_rfl) (fun _ _ _ h => h) (Or.inl ⟨by rfl, ?_⟩) (by assumption) ?_
    rotate_left
    · (intro W hSw; (try dsimp only at hSw); go_simp; try with_reducible rfl)
    try simp only [Act.put, List.getElem_toArray, List.getElem_cons_succ, List.getElem_cons_zero, List.setIfInBounds_toArray, List.set_cons_zero, List.set_cons_succ]
    refine wpL_take (i := 17) (oi := _) (v := ?_) [19, 18] rfl (by kernel_rfl) (by kernel_rfl) (by kernel_rfl) (by kernel_rfl) (by kernel_rfl) (fun _ _ _ h => h) (Or.inl ⟨by rfl, ?_⟩) (by assumption) ?_
    rotate_left
    · (intro W hSw; (try dsimp only at hSw); go_simp; try with_reducible rfl)
    try simp only [Act.put, List.getElem_toArray, List.getElem_cons_succ, List.getElem_cons_zero, List.setIfInBounds_toArray, List.set_cons_zero, List.set_cons_succ]
    refine wpL_take (i := 18) (oi := _) (v := ?_) [19] rfl (by kernel_rfl) (by kernel_rfl) (by kernel_rfl) (by kernel_rfl) (by kernel_rfl) (fun _ _ _ h => h) (Or.inl ⟨by rfl, ?_⟩) (by assumption) ?_
    rotate_left
    · (intro W hSw; (try dsimp only at hSw); go_simp; try with_reducible rfl)
    try simp only [Act.put, List.getElem_toArray, List.getElem_cons_succ, List.getElem_cons_zero, List.setIfInBounds_toArray, List.set_cons_zero, List.set_cons_succ]
    generalize hA2 : (if c = j then A else Option.map (fun x => x.add (j * 5)) A) = A2 at HP ⊢
    clear hA2
    have HL1 : Hid ((ecs (ls.take j)).length = j * 5) := by show _ = _; rw [ecs_len, List.length_take, Nat.min_eq_left (by have := HN.out; omega)]
    have HL2 : Hid ((ecs (ls.drop j)).length = (n - j) * 5) := by show _ = _; rw [ecs_len, List.length_drop, ← HN.out]
    clear hHeld
    have HB0 : Hid (Below w8.heap.size w8 w8) := Below.refl _ _
    refine wpL_ready (rs := [1, 11]) (by kernel_rfl) (by simp) ?_
    refine AllL.cons rfl (fun K hK => ?_) (AllL.cons rfl (fun K hK => ?_) AllL.nil)
    · simp only [List.getElem_toArray, List.getElem_cons_succ, List.getElem_cons_zero]
      rw [if_pos (by rfl)]
      go_simp
      refine hK.out _ _ (Or.inr (HS.out _ (HB0.out.alloc HB0.out.size (.cells #[] TEn)))) ?_
      clear hK K
      try simp only [Act.put, List.getElem_toArray, List.getElem_cons_succ, List.getElem_cons_zero, List.setIfInBounds_toArray, List.set_cons_zero, List.set_cons_succ]
      obtain ⟨B3, hB3⟩ : ∃ b, b = w8.heap.size := ⟨_, rfl⟩
      obtain ⟨X1, hX1⟩ : ∃ V, V = w8.alloc (.cells #[] TEn) := ⟨_, rfl⟩
      have HB2 : Hid (Below w8.heap.size w8 X1) := by rw [hX1]; exact HB0.out.alloc HB0.out.size _
      have O4 : Hid (X1.ownsRow w8.heap.size TEn 5 (.slice (some ⟨B3, 0, none⟩) 0 0) 0 []) := by rw [hX1, hB3]; exact World.ownsRow_made w8 #[] 0 HB0.out.size (Nat.zero_le _) rfl
      rw [← hX1, ← hB3]
      clear hX1 hB3
      refine wpL_ready (rs := [8, 11]) (by kernel_rfl) (by simp) ?_
      refine AllL.cons rfl (fun K hK => ?_) (AllL.cons rfl (fun K hK => ?_) AllL.nil)
      · simp only [List.getElem_toArray, List.getElem_cons_succ, List.getElem_cons_zero]
        rw [if_pos (by rfl)]
        refine wp_append_any _ _ _ (by rfl) w8.heap.size TEn i0 en0.val 5 40 Tryz.underlying35 hi' hz0 hz1 hz2 rfl (by decide) _ _ _ (by rfl) O4.out A j c (ecs (ls.take j)) (by rfl) HL1.out (HP.out.below HB2.out).f1 HP.out.no1 (ecs_one _) (by unfold maxLen; omega) (by omega) HB2.out.size ?_
        intro v8 X5 hown hg
        have HB6 : Hid (Below w8.heap.size w8 X5) := HB2.out.grown hg HB2.out.size fun k hk => (O4.out.lt k hk).1
        have O7 := Lib.hid hown
        refine hK.out _ _ (Or.inr (HS.out _ HB6.out)) ?_
        clear hK K hown hg
        try simp only [Act.put, List.setIfInBounds_toArray, List.set_cons_zero, List.set_cons_succ]
        refine wpL_ready (rs := [11]) (by kernel_rfl) (by simp) ?_
        refine AllL.cons rfl (fun K hK => ?_) AllL.nil
        · simp only [List.getElem_toArray, List.getElem_cons_succ, List.getElem_cons_zero]
          rw [if_pos (by rfl)]
          go_simp
          refine hK.out _ _ (Or.inr (HS.out _ (HB6.out.alloc HB6.out.size (.cells #[.int .i64 kc, .int .i64 kf, .int .u64 ks, .int .i64 1, .int .i64 0] TEn)))) ?_
          clear hK K
          try simp only [Act.put, List.getElem_toArray, List.getElem_cons_succ, List.getElem_cons_zero, List.setIfInBounds_toArray, List.set_cons_zero, List.set_cons_succ]
          obtain ⟨B11, hB11⟩ : ∃ b, b = X5.heap.size := ⟨_, rfl⟩
          obtain ⟨X9, hX9⟩ : ∃ V, V = X5.alloc (.cells #[.int .i64 kc, .int .i64 kf, .int .u64 ks, .int .i64 1, .int .i64 0] TEn) := ⟨_, rfl⟩
          have HB10 : Hid (Below w8.heap.size w8 X9) := by rw [hX9]; exact HB6.out.alloc HB6.out.size _
          have NB12 : Hid (X9.heap[B11]? = some (.cells #[.int .i64 kc, .int .i64 kf, .int .u64 ks, .int .i64 1, .int .i64 0] TEn)) := by rw [hX9, hB11]; exact heap_alloc_new X5 _
          have O13 := Lib.hid (O7.out.alloc (.cells #[.int .i64 kc, .int .i64 kf, .int .u64 ks, .int .i64 1, .int .i64 0] TEn))
          rw [← hX9] at O13
          rw [← hX9, ← hB11]
          clear hX9 hB11
          refine wpL_ready (rs := [12]) (by kernel_rfl) (by simp) ?_
          refine AllL.cons rfl (fun K hK => ?_) AllL.nil
          · simp only [List.getElem_toArray, List.getElem_cons_succ, List.getElem_cons_zero]
            rw [if_pos (by rfl)]
            refine wp_append_any _ _ _ (by rfl) w8.heap.size TEn i0 en0.val 5 40 Tryz.underlying35 hi' hz0 hz1 hz2 rfl (by decide) _ _ _ (by rfl) O13.out (some ⟨B11, 0, none⟩) 1 1 (encE ⟨⟨kc, kf, ks⟩, 1, 0⟩) (by rfl) rfl (fun ad ha => by injection ha with ha; subst ha; exact World.news_of_block (cs := En.cells ⟨⟨kc, kf, ks⟩, 1, 0⟩) NB12.out) (fun h => by cases h) (encE_one _) (by unfold maxLen; omega) (by omega) HB10.out.size ?_
            intro v17 X14 hown hg
            have HB15 : Hid (Below w8.heap.size w8 X14) := HB10.out.grown hg HB10.out.size fun k hk => (O13.out.lt k hk).1
            have O16 := Lib.hid hown
            refine hK.out _ _ (Or.inr (HS.out _ HB15.out)) ?_
            clear hK K hown hg
            try simp only [Act.put, List.setIfInBounds_toArray, List.set_cons_zero, List.set_cons_succ]
            refine wpL_ready (rs := [19]) (by kernel_rfl) (by simp) ?_
            refine AllL.cons rfl (fun K hK => ?_) AllL.nil
            · simp only [List.getElem_toArray, List.getElem_cons_succ, List.getElem_cons_zero]
              rw [if_pos (by rfl)]
              refine wp_append_any _ _ _ (by rfl) w8.heap.size TEn i0 en0.val 5 40 Tryz.underlying35 hi' hz0 hz1 hz2 rfl (by decide) _ _ _ (by rfl) O16.out A2 (n - j) (c - j) (ecs (ls.drop j)) (by rfl) HL2.out (HP.out.below HB15.out).f2 HP.out.no2 (ecs_one _) (by unfold maxLen; omega) (by omega) HB15.out.size ?_
              intro v21 X18 hown hg
              have HB19 : Hid (Below w8.heap.size w8 X18) := HB15.out.grown hg HB15.out.size fun k hk => (O16.out.lt k hk).1
              have O20 := Lib.hid hown
              refine hK.out _ _ (Or.inr (HS.out _ HB19.out)) ?_
              clear hK K hown hg
              try simp only [Act.put, List.setIfInBounds_toArray, List.set_cons_zero, List.set_cons_succ]
              have hHeld := HS.out _ HB19.out
              refine wpL_take (i := 20) (oi := _) (v := ?_) [21] rfl (by kernel_rfl) (by kernel_rfl) (by kernel_rfl) (by kernel_rfl) (by kernel_rfl) (fun _ _ _ h => h) (Or.inl ⟨by rfl, ?_⟩) (by assumption) ?_
              rotate_left
              · (intro W hSw; (try dsimp only at hSw); go_simp; try with_reducible rfl)
              try simp only [Act.put, List.getElem_toArray, List.getElem_cons_succ, List.getElem_cons_zero, List.setIfInBounds_toArray, List.set_cons_zero, List.set_cons_succ]
              clear hHeld
              have hHeld := HS.out _ HB19.out
              refine wpL_take (i := 21) (oi := _) (v := ?_) [] rfl (by kernel_rfl) (by kernel_rfl) (by kernel_rfl) (by kernel_rfl) (by kernel_rfl) (fun _ _ _ h => h) (Or.inl ⟨by rfl, ?_⟩) (by assumption) ?_
              rotate_left
              · (intro W hSw; (try dsimp only at hSw); go_simp; try with_reducible rfl)
              try simp only [Act.put, List.getElem_toArray, List.getElem_cons_succ, List.getElem_cons_zero, List.setIfInBounds_toArray, List.set_cons_zero, List.set_cons_succ]
              clear hHeld
              refine wpL_ready (rs := [22]) (by kernel_rfl) (by simp) ?_
              refine AllL.cons rfl (fun K hK => ?_) AllL.nil
              · simp only [List.getElem_toArray, List.getElem_cons_succ, List.getElem_cons_zero]
                rw [if_pos (by rfl)]
                have q := (HQ8.out.below HB19.out).cell.1
                have qf := (HQ8.out.below HB19.out).cell.2.2
                obtain ⟨A9, n9, c9, hv9⟩ := own_form5 O20.out
                subst hv9
                go_simp
                refine hK.out _ _ (Or.inl rfl) ?_
                clear hK K q qf
                try simp only [Act.put, List.getElem_toArray, List.getElem_cons_succ, List.getElem_cons_zero, List.setIfInBounds_toArray, List.set_cons_zero, List.set_cons_succ]
                refine wpL_done (by kernel_rfl) ?_ _
                have hsw := (HQ8.out.below HB19.out).swap (ls' := qIns K0 ls) (by have ho := O20.out; unfold qIns; rw [HJ.out, ecs_append, show ecs (⟨K0, 1, 0⟩ :: ls.drop j) = encE ⟨K0, 1, 0⟩ ++ ecs (ls.drop j) from rfl, show (ls.take j ++ ⟨K0, 1, 0⟩ :: ls.drop j).length = 0 + j + 1 + (n - j) by rw [List.length_append, List.length_cons, List.length_take, List.length_drop, Nat.min_eq_left (by have := HN.out; omega)]; have := HN.out; omega, HK0.out]; simpa only [List.nil_append, List.append_assoc] using ho) (Nat.succ_le_of_lt HQ8.out.lt)
                have HSW := Lib.hid (And.intro hsw ((HB8.out.trans (HB19.out.mono (Nat.le_of_lt HQ8.out.lt))).setCell (p := ⟨Q, 0, none⟩) (Nat.le_refl _) (.slice A9 n9 c9)))
                clear hsw
                go_wp2
                go_ret
                exact ⟨by rw [HR2.out]; first | rfl | trivial, _, by unfold qiL; rw [if_pos HR2.out]; exact HSW.out.1, HSW.out.2⟩
      · simp only [List.getElem_toArray, List.getElem_cons_succ, List.getElem_cons_zero]
        rw [if_pos (by rfl)]
        go_simp
        refine hK.out _ _ (Or.inr (HS.out _ (HB2.out.alloc HB2.out.size (.cells #[.int .i64 kc, .int .i64 kf, .int .u64 ks, .int .i64 1, .int .i64 0] TEn)))) ?_
        clear hK K
        try simp only [Act.put, List.getElem_toArray, List.getElem_cons_succ, List.getElem_cons_zero, List.setIfInBounds_toArray, List.set_cons_zero, List.set_cons_succ]
        obtain ⟨B24, hB24⟩ : ∃ b, b = X1.heap.size := ⟨_, rfl⟩
        obtain ⟨X22, hX22⟩ : ∃ V, V = X1.alloc (.cells #[.int .i64 kc, .int .i64 kf, .int .u64 ks, .int .i64 1, .int .i64 0] TEn) := ⟨_, rfl⟩
        have HB23 : Hid (Below w8.heap.size w8 X22) := by rw [hX22]; exact HB2.out.alloc HB2.out.size _
        have NB25 : Hid (X22.heap[B24]? = some (.cells #[.int .i64 kc, .int .i64 kf, .int .u64 ks, .int .i64 1, .int .i64 0] TEn)) := by rw [hX22, hB24]; exact heap_alloc_new X1 _
        have O26 := Lib.hid (O4.out.alloc (.cells #[.int .i64 kc, .int .i64 kf, .int .u64 ks, .int .i64 1, .int .i64 0] TEn))
        rw [← hX22] at O26
        have HNE : Hid (B24 ≠ B3) := by have := (O4.out.lt B3 rfl).2; show _ ≠ _; omega
        rw [← hX22, ← hB24]
        clear hX22 hB24
        refine wpL_ready (rs := [8]) (by kernel_rfl) (by simp) ?_
        refine AllL.cons rfl (fun K hK => ?_) AllL.nil
        · simp only [List.getElem_toArray, List.getElem_cons_succ, List.getElem_cons_zero]
          rw [if_pos (by rfl)]
          refine wp_append_any _ _ _ (by rfl) w8.heap.size TEn i0 en0.val 5 40 Tryz.underlying35 hi' hz0 hz1 hz2 rfl (by decide) _ _ _ (by rfl) O26.out A j c (ecs (ls.take j)) (by rfl) HL1.out (HP.out.below HB23.out).f1 HP.out.no1 (ecs_one _) (by unfold maxLen; omega) (by omega) HB23.out.size ?_
          intro v30 X27 hown hg
          have HB28 : Hid (Below w8.heap.size w8 X27) := HB23.out.grown hg HB23.out.size fun k hk => (O26.out.lt k hk).1
          have O29 := Lib.hid hown
          have NB31 : Hid (X27.heap[B24]? = some (.cells #[.int .i64 kc, .int .i64 kf, .int .u64 ks, .int .i64 1, .int .i64 0] TEn)) := (hg.block B24 (Array.getElem?_eq_some_iff.1 NB25.out).1 (fun e => HNE.out (by injection e))).trans NB25.out
          refine hK.out _ _ (Or.inr (HS.out _ HB28.out)) ?_
          clear hK K hown hg
          try simp only [Act.put, List.setIfInBounds_toArray, List.set_cons_zero, List.set_cons_succ]
          refine wpL_ready (rs := [12]) (by kernel_rfl) (by simp) ?_
          refine AllL.cons rfl (fun K hK => ?_) AllL.nil
          · simp only [List.getElem_toArray, List.getElem_cons_succ, List.getElem_cons_zero]
            rw [if_pos (by rfl)]
            refine wp_append_any _ _ _ (by rfl) w8.heap.size TEn i0 en0.val 5 40 Tryz.underlying35 hi' hz0 hz1 hz2 rfl (by decide) _ _ _ (by rfl) O29.out (some ⟨B24, 0, none⟩) 1 1 (encE ⟨⟨kc, kf, ks⟩, 1, 0⟩) (by rfl) rfl (fun ad ha => by injection ha with ha; subst ha; exact World.news_of_block (cs := En.cells ⟨⟨kc, kf, ks⟩, 1, 0⟩) NB31.out) (fun h => by cases h) (encE_one _) (by unfold maxLen; omega) (by omega) HB28.out.size ?_
            intro v35 X32 hown hg
            have HB33 : Hid (Below w8.heap.size w8 X32) := HB28.out.grown hg HB28.out.size fun k hk => (O29.out.lt k hk).1
            have O34 := Lib.hid hown
            refine hK.out _ _ (Or.inr (HS.out _ HB33.out)) ?_
            clear hK K hown hg
            try simp only [Act.put, List.setIfInBounds_toArray, List.set_cons_zero, List.set_cons_succ]
            refine wpL_ready (rs := [19]) (by kernel_rfl) (by simp) ?_
            refine AllL.cons rfl (fun K hK => ?_) AllL.nil
            · simp only [List.getElem_toArray, List.getElem_cons_succ, List.getElem_cons_zero]
              rw [if_pos (by rfl)]
              refine wp_append_any _ _ _ (by rfl) w8.heap.size TEn i0 en0.val 5 40 Tryz.underlying35 hi' hz0 hz1 hz2 rfl (by decide) _ _ _ (by rfl) O34.out A2 (n - j) (c - j) (ecs (ls.drop j)) (by rfl) HL2.out (HP.out.below HB33.out).f2 HP.out.no2 (ecs_one _) (by unfold maxLen; omega) (by omega) HB33.out.size ?_
              intro v39 X36 hown hg
              have HB37 : Hid (Below w8.heap.size w8 X36) := HB33.out.grown hg HB33.out.size fun k hk => (O34.out.lt k hk).1
              have O38 := Lib.hid hown
              refine hK.out _ _ (Or.inr (HS.out _ HB37.out)) ?_
              clear hK K hown hg
              try simp only [Act.put, List.setIfInBounds_toArray, List.set_cons_zero, List.set_cons_succ]
              have hHeld := HS.out _ HB37.out
              refine wpL_take (i := 20) (oi := _) (v := ?_) [21] rfl (by kernel_rfl) (by kernel_rfl) (by kernel_rfl) (by kernel_rfl) (by kernel_rfl) (fun _ _ _ h => h) (Or.inl ⟨by rfl, ?_⟩) (by assumption) ?_
              rotate_left
              · (intro W hSw; (try dsimp only at hSw); go_simp; try with_reducible rfl)
              try simp only [Act.put, List.getElem_toArray, List.getElem_cons_succ, List.getElem_cons_zero, List.setIfInBounds_toArray, List.set_cons_zero, List.set_cons_succ]
              clear hHeld
              have hHeld := HS.out _ HB37.out
              refine wpL_take (i := 21) (oi := _) (v := ?_) [] rfl (by kernel_rfl) (by kernel_rfl) (by kernel_rfl) (by kernel_rfl) (by kernel_rfl) (fun _ _ _ h => h) (Or.inl ⟨by rfl, ?_⟩) (by assumption) ?_
              rotate_left
              · (intro W hSw; (try dsimp only at hSw); go_simp; try with_reducible rfl)
              try simp only [Act.put, List.getElem_toArray, List.getElem_cons_succ, List.getElem_cons_zero, List.setIfInBounds_toArray, List.set_cons_zero, List.set_cons_succ]
              clear hHeld
              refine wpL_ready (rs := [22]) (by kernel_rfl) (by simp) ?_
              refine AllL.cons rfl (fun K hK => ?_) AllL.nil
              · simp only [List.getElem_toArray, List.getElem_cons_succ, List.getElem_cons_zero]
                rw [if_pos (by rfl)]
                have q := (HQ8.out.below HB37.out).cell.1
                have qf := (HQ8.out.below HB37.out).cell.2.2
                obtain ⟨A9, n9, c9, hv9⟩ := own_form5 O38.out
                subst hv9
                go_simp
                refine hK.out _ _ (Or.inl rfl) ?_
                clear hK K q qf
                try simp only [Act.put, List.getElem_toArray, List.getElem_cons_succ, List.getElem_cons_zero, List.setIfInBounds_toArray, List.set_cons_zero, List.set_cons_succ]
                refine wpL_done (by kernel_rfl) ?_ _
                have hsw := (HQ8.out.below HB37.out).swap (ls' := qIns K0 ls) (by have ho := O38.out; unfold qIns; rw [HJ.out, ecs_append, show ecs (⟨K0, 1, 0⟩ :: ls.drop j) = encE ⟨K0, 1, 0⟩ ++ ecs (ls.drop j) from rfl, show (ls.take j ++ ⟨K0, 1, 0⟩ :: ls.drop j).length = 0 + j + 1 + (n - j) by rw [List.length_append, List.length_cons, List.length_take, List.length_drop, Nat.min_eq_left (by have := HN.out; omega)]; have := HN.out; omega, HK0.out]; simpa only [List.nil_append, List.append_assoc] using ho) (Nat.succ_le_of_lt HQ8.out.lt)
                have HSW := Lib.hid (And.intro hsw ((HB8.out.trans (HB37.out.mono (Nat.le_of_lt HQ8.out.lt))).setCell (p := ⟨Q, 0, none⟩) (Nat.le_refl _) (.slice A9 n9 c9)))
                clear hsw
                go_wp2
                go_ret
                exact ⟨by rw [HR2.out]; first | rfl | trivial, _, by unfold qiL; rw [if_pos HR2.out]; exact HSW.out.1, HSW.out.2⟩
    · simp only [List.getElem_toArray, List.getElem_cons_succ, List.getElem_cons_zero]
      rw [if_pos (by rfl)]
      go_simp
      refine hK.out _ _ (Or.inr (HS.out _ (HB0.out.alloc HB0.out.size (.cells #[.int .i64 kc, .int .i64 kf, .int .u64 ks, .int .i64 1, .int .i64 0] TEn)))) ?_
      clear hK K
      try simp only [Act.put, List.getElem_toArray, List.getElem_cons_succ, List.getElem_cons_zero, List.setIfInBounds_toArray, List.set_cons_zero, List.set_cons_succ]
      obtain ⟨B42, hB42⟩ : ∃ b, b = w8.heap.size := ⟨_, rfl⟩
      obtain ⟨X40, hX40⟩ : ∃ V, V = w8.alloc (.cells #[.int .i64 kc, .int .i64 kf, .int .u64 ks, .int .i64 1, .int .i64 0] TEn) := ⟨_, rfl⟩
      have HB41 : Hid (Below w8.heap.size w8 X40) := by rw [hX40]; exact HB0.out.alloc HB0.out.size _
      have NB43 : Hid (X40.heap[B42]? = some (.cells #[.int .i64 kc, .int .i64 kf, .int .u64 ks, .int .i64 1, .int .i64 0] TEn)) := by rw [hX40, hB42]; exact heap_alloc_new w8 _
      rw [← hX40, ← hB42]
      clear hX40 hB42
      refine wpL_ready (rs := [1]) (by kernel_rfl) (by simp) ?_
      refine AllL.cons rfl (fun K hK => ?_) AllL.nil
      · simp only [List.getElem_toArray, List.getElem_cons_succ, List.getElem_cons_zero]
        rw [if_pos (by rfl)]
        go_simp
        refine hK.out _ _ (Or.inr (HS.out _ (HB41.out.alloc HB41.out.size (.cells #[] TEn)))) ?_
        clear hK K
        try simp only [Act.put, List.getElem_toArray, List.getElem_cons_succ, List.getElem_cons_zero, List.setIfInBounds_toArray, List.set_cons_zero, List.set_cons_succ]
        obtain ⟨B46, hB46⟩ : ∃ b, b = X40.heap.size := ⟨_, rfl⟩
        obtain ⟨X44, hX44⟩ : ∃ V, V = X40.alloc (.cells #[] TEn) := ⟨_, rfl⟩
        have HB45 : Hid (Below w8.heap.size w8 X44) := by rw [hX44]; exact HB41.out.alloc HB41.out.size _
        have O47 : Hid (X44.ownsRow w8.heap.size TEn 5 (.slice (some ⟨B46, 0, none⟩) 0 0) 0 []) := by rw [hX44, hB46]; exact World.ownsRow_made X40 #[] 0 HB41.out.size (Nat.zero_le _) rfl
        have NB48 : Hid (X44.heap[B42]? = some (.cells #[.int .i64 kc, .int .i64 kf, .int .u64 ks, .int .i64 1, .int .i64 0] TEn)) := by rw [hX44]; exact (Below.heap_alloc _ _ _ (Array.getElem?_eq_some_iff.1 NB43.out).1).trans NB43.out
        have HNE : Hid (B42 ≠ B46) := by have := (Array.getElem?_eq_some_iff.1 NB43.out).1; show _ ≠ _; omega
        rw [← hX44, ← hB46]
        clear hX44 hB46
        refine wpL_ready (rs := [8]) (by kernel_rfl) (by simp) ?_
        refine AllL.cons rfl (fun K hK => ?_) AllL.nil
        · simp only [List.getElem_toArray, List.getElem_cons_succ, List.getElem_cons_zero]
          rw [if_pos (by rfl)]
          refine wp_append_any _ _ _ (by rfl) w8.heap.size TEn i0 en0.val 5 40 Tryz.underlying35 hi' hz0 hz1 hz2 rfl (by decide) _ _ _ (by rfl) O47.out A j c (ecs (ls.take j)) (by rfl) HL1.out (HP.out.below HB45.out).f1 HP.out.no1 (ecs_one _) (by unfold maxLen; omega) (by omega) HB45.out.size ?_
          intro v52 X49 hown hg
          have HB50 : Hid (Below w8.heap.size w8 X49) := HB45.out.grown hg HB45.out.size fun k hk => (O47.out.lt k hk).1
          have O51 := Lib.hid hown
          have NB53 : Hid (X49.heap[B42]? = some (.cells #[.int .i64 kc, .int .i64 kf, .int .u64 ks, .int .i64 1, .int .i64 0] TEn)) := (hg.block B42 (Array.getElem?_eq_some_iff.1 NB48.out).1 (fun e => HNE.out (by injection e))).trans NB48.out
          refine hK.out _ _ (Or.inr (HS.out _ HB50.out)) ?_
          clear hK K hown hg
          try simp only [Act.put, List.setIfInBounds_toArray, List.set_cons_zero, List.set_cons_succ]
          refine wpL_ready (rs := [12]) (by kernel_rfl) (by simp) ?_
          refine AllL.cons rfl (fun K hK => ?_) AllL.nil
          · simp only [List.getElem_toArray, List.getElem_cons_succ, List.getElem_cons_zero]
            rw [if_pos (by rfl)]
            refine wp_append_any _ _ _ (by rfl) w8.heap.size TEn i0 en0.val 5 40 Tryz.underlying35 hi' hz0 hz1 hz2 rfl (by decide) _ _ _ (by rfl) O51.out (some ⟨B42, 0, none⟩) 1 1 (encE ⟨⟨kc, kf, ks⟩, 1, 0⟩) (by rfl) rfl (fun ad ha => by injection ha with ha; subst ha; exact World.news_of_block (cs := En.cells ⟨⟨kc, kf, ks⟩, 1, 0⟩) NB53.out) (fun h => by cases h) (encE_one _) (by unfold maxLen; omega) (by omega) HB50.out.size ?_
            intro v57 X54 hown hg
            have HB55 : Hid (Below w8.heap.size w8 X54) := HB50.out.grown hg HB50.out.size fun k hk => (O51.out.lt k hk).1
            have O56 := Lib.hid hown
            refine hK.out _ _ (Or.inr (HS.out _ HB55.out)) ?_
            clear hK K hown hg
            try simp only [Act.put, List.setIfInBounds_toArray, List.set_cons_zero, List.set_cons_succ]
            refine wpL_ready (rs := [19]) (by kernel_rfl) (by simp) ?_
            refine AllL.cons rfl (fun K hK => ?_) AllL.nil
            · simp only [List.getElem_toArray, List.getElem_cons_succ, List.getElem_cons_zero]
              rw [if_pos (by rfl)]
              refine wp_append_any _ _ _ (by rfl) w8.heap.size TEn i0 en0.val 5 40 Tryz.underlying35 hi' hz0 hz1 hz2 rfl (by decide) _ _ _ (by rfl) O56.out A2 (n - j) (c - j) (ecs (ls.drop j)) (by rfl) HL2.out (HP.out.below HB55.out).f2 HP.out.no2 (ecs_one _) (by unfold maxLen; omega) (by omega) HB55.out.size ?_
              intro v61 X58 hown hg
              have HB59 : Hid (Below w8.heap.size w8 X58) := HB55.out.grown hg HB55.out.size fun k hk => (O56.out.lt k hk).1
              have O60 := Lib.hid hown
              refine hK.out _ _ (Or.inr (HS.out _ HB59.out)) ?_
              clear hK K hown hg
              try simp only [Act.put, List.setIfInBounds_toArray, List.set_cons_zero, List.set_cons_succ]
              have hHeld := HS.out _ HB59.out
              refine wpL_take (i := 20) (oi := _) (v := ?_) [21] rfl (by kernel_rfl) (by kernel_rfl) (by kernel_rfl) (by kernel_rfl) (by kernel_rfl) (fun _ _ _ h => h) (Or.inl ⟨by rfl, ?_⟩) (by assumption) ?_
              rotate_left
              · (intro W hSw; (try dsimp only at hSw); go_simp; try with_reducible rfl)
              try simp only [Act.put, List.getElem_toArray, List.getElem_cons_succ, List.getElem_cons_zero, List.setIfInBounds_toArray, List.set_cons_zero, List.set_cons_succ]
              clear hHeld
              have hHeld := HS.out _ HB59.out
              refine wpL_take (i := 21) (oi := _) (v := ?_) [] rfl (by kernel_rfl) (by kernel_rfl) (by kernel_rfl) (by kernel_rfl) (by kernel_rfl) (fun _ _ _ h => h) (Or.inl ⟨by rfl, ?_⟩) (by assumption) ?_
              rotate_left
              · (intro W hSw; (try dsimp only at hSw); go_simp; try with_reducible rfl)
              try simp only [Act.put, List.getElem_toArray, List.getElem_cons_succ, List.getElem_cons_zero, List.setIfInBounds_toArray, List.set_cons_zero, List.set_cons_succ]
              clear hHeld
              refine wpL_ready (rs := [22]) (by kernel_rfl) (by simp) ?_
              refine AllL.cons rfl (fun K hK => ?_) AllL.nil
              · simp only [List.getElem_toArray, List.getElem_cons_succ, List.getElem_cons_zero]
                rw [if_pos (by rfl)]
                have q := (HQ8.out.below HB59.out).cell.1
                have qf := (HQ8.out.below HB59.out).cell.2.2
                obtain ⟨A9, n9, c9, hv9⟩ := own_form5 O60.out
                subst hv9
                go_simp
                refine hK.out _ _ (Or.inl rfl) ?_
                clear hK K q qf
                try simp only [Act.put, List.getElem_toArray, List.getElem_cons_succ, List.getElem_cons_zero, List.setIfInBounds_toArray, List.set_cons_zero, List.set_cons_succ]
                refine wpL_done (by kernel_rfl) ?_ _
                have hsw := (HQ8.out.below HB59.out).swap (ls' := qIns K0 ls) (by have ho := O60.out; unfold qIns; rw [HJ.out, ecs_append, show ecs (⟨K0, 1, 0⟩ :: ls.drop j) = encE ⟨K0, 1, 0⟩ ++ ecs (ls.drop j) from rfl, show (ls.take j ++ ⟨K0, 1, 0⟩ :: ls.drop j).length = 0 + j + 1 + (n - j) by rw [List.length_append, List.length_cons, List.length_take, List.length_drop, Nat.min_eq_left (by have := HN.out; omega)]; have := HN.out; omega, HK0.out]; simpa only [List.nil_append, List.append_assoc] using ho) (Nat.succ_le_of_lt HQ8.out.lt)
                have HSW := Lib.hid (And.intro hsw ((HB8.out.trans (HB59.out.mono (Nat.le_of_lt HQ8.out.lt))).setCell (p := ⟨Q, 0, none⟩) (Nat.le_refl _) (.slice A9 n9 c9)))
                clear hsw
                go_wp2
                go_ret
                exact ⟨by rw [HR2.out]; first | rfl | trivial, _, by unfold qiL; rw [if_pos HR2.out]; exact HSW.out.1, HSW.out.2⟩
  go_wp2
  go_loopw [5] (fun jv wr => ∃ j : Nat, jv = .int .i64 (j : Int) ∧ j ≤ n ∧ Hid (∀ q, (h : q < j) → (h2 : q < ls.length) → ltK (ls[q]'h2).k K0 = true) ∧ Hid (Below w1.heap.size w1 wr)) (fun jv _ => n - (intOf jv).toNat)
  case atStart => exact ⟨0, rfl, Nat.zero_le _, fun q h => by omega, hBD⟩
  case round =>
    clear hBD
    obtain ⟨j, rfl, hj, HJ, HB2⟩ := hrel
    have HQ2 := Lib.hid (HQ1.out.below HB2.out)
    have HK2 := Lib.hid (HK1.out.below HB2.out)
    have hj0 : (0 : Int) ≤ (j : Int) := by omega
    by_cases hlt : j < n
    · have hj1 : (j : Int) < (n : Int) := by omega
      obtain ⟨g, c1, hv, _, _, he⟩ := HQ2.out.rowE.at j (by have := HN.out; omega)
      injection hv with hv hv1 hv2
      clear hv1
      subst hv hv2
      have HTL : Hid (ltK (ls[j]'(by have := HN.out; omega)).k K0 = true → ∀ q, (h : q < j + 1) → (h2 : q < ls.length) → ltK (ls[q]'h2).k K0 = true) := fun hh q hq h2 => by
        rcases Nat.lt_or_ge q j with h | h
        · exact HJ.out q h h2
        · obtain rfl : q = j := by omega
          exact hh
      have HTF : Hid (ltK (ls[j]'(by have := HN.out; omega)).k K0 = false → qAt K0 ls = j) := fun hh => tw_len _ _ _ (by have := HN.out; omega) (fun q hq => HJ.out q hq _) (fun _ => hh)
      generalize ls[j]'(by have := HN.out; omega) = m at he HTL HTF
      have hS : SI Q g c n w.heap.size (j * 5) K0 m wr := ⟨HQ2.out.cell.1, he.c, he.f, he.s, HK2.out.c, HK2.out.f, HK2.out.s⟩
      have HLE := Lib.hid (fun V => rless_any m.k K0 V)
      cases hl : ltK m.k K0 with
      | true =>
        rw [hl] at HLE
        have HT := Lib.hid (HTL.out hl)
        clear HTL HTF
        obtain ⟨⟨mc, mf, ms⟩, mst, mow⟩ := m
        unfold K3.val at HLE
        rw [HK0.out] at HLE hS
        dsimp only at HLE hS
        have hSd := hS.drew
        unfold SI at hSd hS
        dsimp only at hSd hS
        have hsc := fun W W' (h : SI Q g c n w.heap.size (j * 5) ⟨kc, kf, ks⟩ ⟨⟨mc, mf, ms⟩, mst, mow⟩ W) hb => SI.call (W' := W') h hb
        unfold SI at hsc
        dsimp only at hsc
        have HSC := Lib.hid hsc
        clear hsc he
        go_wp2
        go_region_held3 (fun W => W.cell? ⟨Q, 0, none⟩ = some (.slice (some ⟨g, 0, none⟩) n c) ∧ W.cell? ⟨g, j * 5, none⟩ = some (.int .i64 mc) ∧ W.cell? ⟨g, j * 5 + 1, none⟩ = some (.int .i64 mf) ∧ W.cell? ⟨g, j * 5 + 2, none⟩ = some (.int .u64 ms) ∧ W.cell? ⟨w.heap.size, 0, none⟩ = some (.int .i64 kc) ∧ W.cell? ⟨w.heap.size, 1, none⟩ = some (.int .i64 kf) ∧ W.cell? ⟨w.heap.size, 2, none⟩ = some (.int .u64 ks))
          (first | assumption | exact HSC.out _ _ (by assumption) hb3)
          (first | (go_at_call 64; ((with_reducible refine (HLE.out _).mono ?_); rintro e w3 ⟨rfl, hb3⟩)))
        have HB3 : Hid (Below w1.heap.size w1 w3) := HB2.out.drew.trans (hb3.mono HB2.out.size)
        clear hb3 hSd hS
        go_wp2
        go_roundw
        case rel => exact ⟨j + 1, by go_num, by omega, HT.out, HB3.out⟩
        case measure => simp [intOf]; omega
      | false =>
        rw [hl] at HLE
        have HT := Lib.hid (HTF.out hl)
        clear HTL HTF
        obtain ⟨⟨mc, mf, ms⟩, mst, mow⟩ := m
        unfold K3.val at HLE
        rw [HK0.out] at HLE hS
        dsimp only at HLE hS
        have hSd := hS.drew
        unfold SI at hSd hS
        dsimp only at hSd hS
        have hsc := fun W W' (h : SI Q g c n w.heap.size (j * 5) ⟨kc, kf, ks⟩ ⟨⟨mc, mf, ms⟩, mst, mow⟩ W) hb => SI.call (W' := W') h hb
        unfold SI at hsc
        dsimp only at hsc
        have HSC := Lib.hid hsc
        clear hsc he
        go_wp2
        go_region_held3 (fun W => W.cell? ⟨Q, 0, none⟩ = some (.slice (some ⟨g, 0, none⟩) n c) ∧ W.cell? ⟨g, j * 5, none⟩ = some (.int .i64 mc) ∧ W.cell? ⟨g, j * 5 + 1, none⟩ = some (.int .i64 mf) ∧ W.cell? ⟨g, j * 5 + 2, none⟩ = some (.int .u64 ms) ∧ W.cell? ⟨w.heap.size, 0, none⟩ = some (.int .i64 kc) ∧ W.cell? ⟨w.heap.size, 1, none⟩ = some (.int .i64 kf) ∧ W.cell? ⟨w.heap.size, 2, none⟩ = some (.int .u64 ks))
          (first | assumption | exact HSC.out _ _ (by assumption) hb3)
          (first | (go_at_call 64; ((with_reducible refine (HLE.out _).mono ?_); rintro e w3 ⟨rfl, hb3⟩)))
        have HB3 : Hid (Below w1.heap.size w1 w3) := HB2.out.drew.trans (hb3.mono HB2.out.size)
        clear hb3 hSd hS
        go_wp2
        go_meet
        exact ⟨j, rfl, hj, HT.out, HB3.out⟩
    · obtain rfl : j = n := by omega
      have HT : Hid (qAt K0 ls = j) := tw_len _ _ _ (by have := HN.out; omega) (fun q hq => HJ.out q hq _) (fun h => by have := HN.out; omega)
      have q0 := HQ2.out.cell.1
      have hdf : decide ((j : Int) < (j : Int)) = false := by simp
      go_wp2
      go_quiet (fail)
      go_wp2
      go_meet
      exact ⟨j, rfl, Nat.le_refl _, HT.out, below_drewN HB2.out _⟩
end Go.Proofs.YtlpnecmcncekcaaGreat.Mk
/- The page's shard: Do. -/
namespace Go.Proofs.YtlpnecmcncekcaaGreat.Mk
open Go Go.RowKit Go.MuLone

def qAct (m room who : Int) (k : K3) (ls : List En) : Int × List En :=
  if m = 1 then (qiR room k ls, qiL room k ls)
  else if m = 2 then (if who < 1 then (1, ls) else (qR 1 who k ls, qC 1 who k ls (qS k ⟨k, 2, who⟩ ls)))
  else if m = 3 then (qR 2 who k ls, qC 2 who k ls (qS k ⟨k, 1, 0⟩ ls))
  else if m = 4 then (qR 2 who k ls, qC 2 who k ls (qS k ⟨k, 3, 0⟩ ls))
  else (qR 3 0 k ls, qC 3 0 k ls (ls.eraseIdx (qf k ls).toNat))
set_option maxRecDepth 20000 in
theorem qclaim_few (Q : Nat) (who : Int) (k : K3) (w : World) (hw : who < 1) : Calls Tryz.prog 61 #[.pointer (some ⟨Q, 0, none⟩), k.val, .int .i64 who] w fun e w' => e = .returned (.int .i64 1) ∧ Below w.heap.size w w' := by
  have HK := Lib.hid (KB.new w k).bel
  obtain ⟨kc, kf, ks⟩ := k
  unfold K3.val
  dsimp only at HK ⊢
  go_enter Tryz.func61, Tryz.ntmps61
  go_wp2
  go_ret
  exact ⟨rfl, HK.out⟩
set_option maxRecDepth 20000 in
theorem qdo_any (Q : Nat) (m room who : Int) (v : Value) (ls : List En) (k : K3) (w : World) (h : QI w Q room v ls) (hn : ls.length ≤ 1000) (hm : m = 1 ∨ m = 2 ∨ m = 3 ∨ m = 4 ∨ m = 5) :
    Calls Tryz.prog 41 #[.pointer (some ⟨Q, 0, none⟩), .int .i64 m, k.val, .int .i64 who] w fun e w' => e = .returned (.int .i64 (qAct m room who k ls).1) ∧ ∃ v', QI w' Q room v' (qAct m room who k ls).2 ∧ Below Q w w' := by
  have HKB := Lib.hid (KB.new w k)
  have hQ := h.alloc (.cells #[.int .i64 k.c, .int .i64 k.f, .int .u64 k.s] 41)
  have HLT := Lib.hid h.lt
  clear h
  rcases hm with h | h | h | h | h <;> subst h
  · skip
    have hc := qins_any Q room v ls k _ hQ hn
    have HE : Hid _ := (show qAct 1 room who k ls = (qiR room k ls, qiL room k ls) from rfl)
    obtain ⟨kc, kf, ks⟩ := k
    unfold K3.val at hc ⊢
    dsimp only at hc HKB HE ⊢
    have HC := Lib.hid hc
    clear hc hQ
    rw [HE.out]
    dsimp only
    clear HE
    go_enter Tryz.func41, Tryz.ntmps41
    go_wp2_with fail
    refine HC.out.mono ?_
    rintro _ w' ⟨rfl, v', hq, hb⟩
    have HF := Lib.hid (And.intro hq ((HKB.out.bel.mono (Nat.le_of_lt HLT.out)).trans hb))
    clear hq hb HC HKB
    go_wp2
    go_ret
    exact ⟨rfl, v', HF.out.1, HF.out.2⟩
  · by_cases hwho : who < 1
    · have hc : Calls Tryz.prog 61 #[.pointer (some ⟨Q, 0, none⟩), k.val, .int .i64 who] _ fun e w' => e = .returned (.int .i64 1) ∧ ∃ v', QI w' Q room v' ls ∧ Below Q _ w' := (qclaim_few Q who k (w.alloc (.cells #[.int .i64 k.c, .int .i64 k.f, .int .u64 k.s] 41)) hwho).mono fun _ _ ⟨he, hb⟩ => ⟨he, v, hQ.below hb, hb.mono (Nat.le_of_lt hQ.lt)⟩
      have HE : Hid _ := (show qAct 2 room who k ls = (1, ls) by simp [qAct, hwho])
      obtain ⟨kc, kf, ks⟩ := k
      unfold K3.val at hc ⊢
      dsimp only at hc HKB HE ⊢
      have HC := Lib.hid hc
      clear hc hQ
      rw [HE.out]
      dsimp only
      clear HE
      go_enter Tryz.func41, Tryz.ntmps41
      go_wp2_with fail
      refine HC.out.mono ?_
      rintro _ w' ⟨rfl, v', hq, hb⟩
      have HF := Lib.hid (And.intro hq ((HKB.out.bel.mono (Nat.le_of_lt HLT.out)).trans hb))
      clear hq hb HC HKB
      go_wp2
      go_ret
      exact ⟨rfl, v', HF.out.1, HF.out.2⟩
    · have hc := qclaim_any Q room who v ls k _ hQ hn hwho
      have HE : Hid _ := (show qAct 2 room who k ls = (qR 1 who k ls, qC 1 who k ls (qS k ⟨k, 2, who⟩ ls)) by simp [qAct, hwho])
      obtain ⟨kc, kf, ks⟩ := k
      unfold K3.val at hc ⊢
      dsimp only at hc HKB HE ⊢
      have HC := Lib.hid hc
      clear hc hQ
      rw [HE.out]
      dsimp only
      clear HE
      go_enter Tryz.func41, Tryz.ntmps41
      go_wp2_with fail
      refine HC.out.mono ?_
      rintro _ w' ⟨rfl, v', hq, hb⟩
      have HF := Lib.hid (And.intro hq ((HKB.out.bel.mono (Nat.le_of_lt HLT.out)).trans hb))
      clear hq hb HC HKB
      go_wp2
      go_ret
      exact ⟨rfl, v', HF.out.1, HF.out.2⟩
  · skip
    have hc := qend_any Q room who v ls k _ hQ hn 1
    have HE : Hid _ := (show qAct 3 room who k ls = (qR 2 who k ls, qC 2 who k ls (qS k ⟨k, 1, 0⟩ ls)) from rfl)
    obtain ⟨kc, kf, ks⟩ := k
    unfold K3.val at hc ⊢
    dsimp only at hc HKB HE ⊢
    have HC := Lib.hid hc
    clear hc hQ
    rw [HE.out]
    dsimp only
    clear HE
    go_enter Tryz.func41, Tryz.ntmps41
    go_wp2_with fail
    refine HC.out.mono ?_
    rintro _ w' ⟨rfl, v', hq, hb⟩
    have HF := Lib.hid (And.intro hq ((HKB.out.bel.mono (Nat.le_of_lt HLT.out)).trans hb))
    clear hq hb HC HKB
    go_wp2
    go_ret
    exact ⟨rfl, v', HF.out.1, HF.out.2⟩
  · skip
    have hc := qend_any Q room who v ls k _ hQ hn 3
    have HE : Hid _ := (show qAct 4 room who k ls = (qR 2 who k ls, qC 2 who k ls (qS k ⟨k, 3, 0⟩ ls)) from rfl)
    obtain ⟨kc, kf, ks⟩ := k
    unfold K3.val at hc ⊢
    dsimp only at hc HKB HE ⊢
    have HC := Lib.hid hc
    clear hc hQ
    rw [HE.out]
    dsimp only
    clear HE
    go_enter Tryz.func41, Tryz.ntmps41
    go_wp2_with fail
    refine HC.out.mono ?_
    rintro _ w' ⟨rfl, v', hq, hb⟩
    have HF := Lib.hid (And.intro hq ((HKB.out.bel.mono (Nat.le_of_lt HLT.out)).trans hb))
    clear hq hb HC HKB
    go_wp2
    go_ret
    exact ⟨rfl, v', HF.out.1, HF.out.2⟩
  · skip
    have hc := qexpire_any Q room v ls k _ hQ hn
    have HE : Hid _ := (show qAct 5 room who k ls = (qR 3 0 k ls, qC 3 0 k ls (ls.eraseIdx (qf k ls).toNat)) from rfl)
    obtain ⟨kc, kf, ks⟩ := k
    unfold K3.val at hc ⊢
    dsimp only at hc HKB HE ⊢
    have HC := Lib.hid hc
    clear hc hQ
    rw [HE.out]
    dsimp only
    clear HE
    go_enter Tryz.func41, Tryz.ntmps41
    go_wp2_with fail
    refine HC.out.mono ?_
    rintro _ w' ⟨rfl, v', hq, hb⟩
    have HF := Lib.hid (And.intro hq ((HKB.out.bel.mono (Nat.le_of_lt HLT.out)).trans hb))
    clear hq hb HC HKB
    go_wp2
    go_ret
    exact ⟨rfl, v', HF.out.1, HF.out.2⟩
end Go.Proofs.YtlpnecmcncekcaaGreat.Mk
