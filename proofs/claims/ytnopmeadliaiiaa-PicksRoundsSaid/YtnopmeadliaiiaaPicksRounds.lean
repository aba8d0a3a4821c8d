/- 'PicksRounds' holds for every input, with no condition: a row that is made of orders is fair. -/
import Derived.Test.YtnopmeadliaiiaaPickFair
import Derived.ChangeSlices
namespace Go.Proofs.Ytnopmeadliaiiaa.picksRounds
open Go Go.RowKit Picks picksNext Go.ChangeShapes Go.WideShapes

theorem mem_arr {n k : Nat} (h : k < fact n) (x : Int) : x ∈ arr n (iota n) k ↔ x ∈ iota n :=
  (num_perm _ _ k (by rw [arr_len, iota_len]) (num_arr n (iota n) k (iota_nodup n) (iota_len n) h)).mem_iff.symm

/-- A row that is made of orders. -/
def rounds (N : Nat) (ks : List Int) : List Int := ks.flatMap fun (k : Int) => arr N (iota N) (k.toNat % fact N)
theorem rounds_len (N : Nat) : ∀ (ks : List Int), (rounds N ks).length = N * ks.length
  | [] => by simp [rounds]
  | k :: ks => by
      have := rounds_len N ks
      simp only [rounds, List.flatMap_cons, List.length_append, arr_len, List.length_cons] at this ⊢
      rw [this, Nat.mul_add, Nat.mul_one, Nat.add_comm]
theorem rounds_snoc (N : Nat) (ks : List Int) (k : Int) : rounds N (ks ++ [k]) = rounds N ks ++ arr N (iota N) (k.toNat % fact N) := by
  simp [rounds]
theorem win_rounds (N : Nat) : ∀ (ks : List Int) (i : Nat) (h : i < ks.length), win (rounds N ks) N i = arr N (iota N) (ks[i].toNat % fact N)
  | [], i, h => absurd h (by simp)
  | k :: ks, 0, _ => by
      have e : rounds N (k :: ks) = arr N (iota N) (k.toNat % fact N) ++ rounds N ks := rfl
      rw [e]
      simp only [win, Nat.zero_mul, List.drop_zero, List.getElem_cons_zero]
      exact List.take_left' (arr_len _ _ _)
  | k :: ks, i + 1, h => by
      have e : rounds N (k :: ks) = arr N (iota N) (k.toNat % fact N) ++ rounds N ks := rfl
      have ih := win_rounds N ks i (by simpa using h)
      rw [e]
      simp only [win] at ih ⊢
      rw [Nat.add_mul, Nat.one_mul, Nat.add_comm, ← List.drop_drop, List.drop_left' (arr_len _ _ _), List.getElem_cons_succ]
      exact ih
theorem rounds_fair (N : Nat) (ks : List Int) (q : Nat) (hq : q ≤ ks.length) : fairTo (rounds N ks) (iota N) N q := fun i hi x hx => by
  rw [win_rounds N ks i (by omega)]
  exact (mem_arr (Nat.mod_lt _ (fact_pos N)) x).2 hx
theorem rounds_miss (N : Nat) (ks : List Int) (h : 0 < ks.length) : miss (rounds N ks) (iota N) = [] := (miss_nil _ _).2 fun x hx => win_sub _ _ _ x (rounds_fair N ks 1 h 0 (by omega) x hx)
theorem rounds_mem (N : Nat) (ks : List Int) (x : Int) (h : x ∈ rounds N ks) : x ∈ iota N := by
  simp only [rounds, List.mem_flatMap] at h
  obtain ⟨k, _, hk⟩ := h
  exact (mem_arr (Nat.mod_lt _ (fact_pos N)) x).1 hk
theorem wf_iota (N : Nat) (hN : N ≤ 12) (zs : List Int) (h : ∀ x ∈ zs, x ∈ iota N) : Wf zs := fun x hx => by
  have := iota_mem.1 (h x hx)
  simp [Lit.wf, IntKind.min, IntKind.max, IntKind.bits, IntKind.signed]
  omega

/-- A slice that reads as numbers without a sign. -/
def RdU (w : World) (A : Option Addr) (len : Nat) (zs : List Int) : Prop :=
  0 < len → ∃ b off, A = some ⟨b, off, none⟩ ∧ b < w.heap.size ∧ ∀ i, i < len → w.cell? ⟨b, off + i, none⟩ = some (.int .u64 (zs.getD i 0))
theorem RdU.below {w w' : World} {A : Option Addr} {len : Nat} {zs : List Int} (h : RdU w A len zs) (hb : Below w.heap.size w w') : RdU w' A len zs := fun hl => by
  obtain ⟨b, off, rfl, hbl, hc⟩ := h hl
  exact ⟨b, off, rfl, Nat.lt_of_lt_of_le hbl hb.size, fun i hi => (hb.cell (p := ⟨b, _, none⟩) hbl).trans (hc i hi)⟩

theorem own_cap {w : World} {base n c : Nat} {A : Option Addr} {xs : List Value} (h : w.ownsRow base 3 1 (.slice A n c) n xs) : n ≤ c := by
  rcases h.2 with ⟨h1, rfl⟩ | ⟨g, cap, cur, h1, _, _, h2, _⟩
  · exact Nat.zero_le _
  · injection h1 with _ _ h3
    omega

set_option maxHeartbeats 1000000 in
theorem law_long (n : Int) (A : Option Addr) (len cap : Nat) (w : World) (h : 20 < len) :
    Calls Try.prog 4 #[.int .u8 n, .slice A len cap] w fun e w' => e = .returned (.bool true) ∧ Below w.heap.size w w' := by
  have hp : (20 : Int) < (len : Int) := by omega
  go_enter Try.func4, Try.ntmps4
  go_wp2_with fail
  refine (awake_any _).mono ?_
  rintro e w1 ⟨rfl, hb⟩
  go_wp2
  go_ret
  exact ⟨rfl, hb⟩

set_option maxRecDepth 100000 in
set_option maxHeartbeats 2000000 in
theorem law_any (n : Int) (N : Nat) (A : Option Addr) (len cap : Nat) (ks : List Int) (w : World) (h0 : 0 ≤ n) (hN : 1 + n % 12 = (N : Int)) (hkl : ks.length = len) (hlen : len ≤ 20) (hk0 : ∀ k ∈ ks, 0 ≤ k) (ha : RdU w A len ks) :
    Calls Try.prog 4 #[.int .u8 n, .slice A len cap] w fun e w' => e = .returned (.bool true) ∧ Below w.heap.size w w' := by
  obtain ⟨i0, hi, hz0, hz1, hz2⟩ := info_parts infoI
  have hp : ¬ (20 : Int) < (len : Int) := by omega
  have hp' : (len : Int) ≤ 20 := by omega
  have hm0 : 0 ≤ n % 12 := by omega
  have hm1 : n % 12 < 12 := by omega
  have hmt : n.tmod 12 = n % 12 := by rw [Int.tmod_eq_emod_of_nonneg h0]
  have hN1 : 1 ≤ N := by omega
  have hN2 : N ≤ 12 := by omega
  have HA := Lib.hid (And.intro ha (And.intro hkl hk0))
  clear ha hkl hk0
  go_enter Try.func4, Try.ntmps4
  go_wp2
  go_loopw [7, 8] (fun vo i wr => ∃ k : Nat, i = .int .i64 (k : Int) ∧ k ≤ N ∧ Hid (Below w.heap.size w wr) ∧ Hid (wr.ownsRow w.heap.size 3 1 vo k (ints (iota k)))) (fun _ i _ => N - (intOf i).toNat)
  case atStart => exact ⟨0, rfl, Nat.zero_le _, Lib.hid (Below.refl _ _), Lib.hid (World.ownsRow_nil _ _ _ _)⟩
  case round =>
    obtain ⟨k, rfl, hk, hbw, hown⟩ := hrel
    by_cases hlt : k < N
    · have HI := Lib.hid (iota_succ k)
      go_wp2_with (at_builtin; refine wpList_append_own _ rfl _ _ 22 rfl w.heap.size 3 i0 (.int .i64 0) 1 8 Try.underlying22 hi hz0 hz1 (by assumption) rfl (by decide) _ _ _ rfl (World.ownsRow.alloc (hown.out) _) ⟨wr.heap.size, 0, none⟩ 1 1 [.int .i64 (k : Int)] rfl rfl (cell_one_new _ _ _) (one_one rfl) (by unfold maxLen; omega) (by omega) (by have := hbw.out.size; simp; omega) ?_; intro v5 w5 hown5 hg5 _)
      have H5 := Lib.hid (And.intro hown5 (below_push hbw.out hbw.out.size hown.out hg5))
      clear hown5 hg5
      go_wp2
      exact ⟨⟨k + 1, by go_num, by omega, Lib.hid H5.out.2, Lib.hid (by rw [HI.out]; have := H5.out.1; simpa [ints] using this)⟩, by simp [intOf]; omega⟩
    · obtain rfl : N = k := by omega
      obtain ⟨B, c, hvo⟩ := own_form hown.out
      subst hvo
      obtain ⟨W1, hW1⟩ : ∃ W1, W1 = wr := ⟨_, rfl⟩
      subst hW1
      have hws := hbw.out.size
      have HWho := Lib.hid hown.out
      go_wp2
      go_loopw [6, 9] (fun vr i wr => ∃ k : Nat, i = .int .i64 (k : Int) ∧ k ≤ len ∧ Hid (Below W1.heap.size W1 wr) ∧ Hid (wr.ownsRow W1.heap.size 3 1 vr (N * k) (ints (rounds N (ks.take k))))) (fun _ i _ => len - (intOf i).toNat)
      case atStart => exact ⟨0, rfl, Nat.zero_le _, Lib.hid (Below.refl _ _), Lib.hid (World.ownsRow_nil _ _ _ _)⟩
      case round =>
        obtain ⟨k, rfl, hk, hbq, hrow⟩ := hrel
        by_cases hlt : k < len
        · obtain ⟨b, off, hA, hbl, hc⟩ := (HA.out.1.below (hbw.out.trans (hbq.out.mono hws))) (by omega)
          have hck := hc k hlt
          have hkl := HA.out.2.1
          have HTk := Lib.hid (take_snoc ks k (by omega))
          have hz0 : 0 ≤ ks.getD k 0 := HA.out.2.2 _ (by rw [List.getD_eq_getElem?_getD, List.getElem?_eq_getElem (by omega)]; exact List.getElem_mem _)
          obtain ⟨z, hz⟩ : ∃ z, z = ks.getD k 0 := ⟨_, rfl⟩
          rw [← hz] at hck HTk hz0
          subst hA
          have hi0 : (0 : Int) ≤ (k : Int) := by omega
          have hi1 : (k : Int) < (len : Int) := by omega
          have hNk : N * k ≤ 240 := Nat.le_trans (Nat.mul_le_mul hN2 (by omega : k ≤ 20)) (by decide)
          have hNs : N * (k + 1) = N * k + N := by rw [Nat.mul_add, Nat.mul_one]
          have HNs := Lib.hid hNs
          obtain ⟨r, hr⟩ : ∃ r, r = N * k := ⟨_, rfl⟩
          rw [← hr] at hrow hNk
          have HO := Lib.hid (order_any N hN2 z hz0 wr)
          obtain ⟨os, hos⟩ : ∃ os, os = arr N (iota N) (z.toNat % fact N) := ⟨_, rfl⟩
          have hosl : os.length = N := by rw [hos]; exact arr_len _ _ _
          have HR := Lib.hid (show rounds N (ks.take (k + 1)) = rounds N (ks.take k) ++ os by rw [HTk.out, rounds_snoc, hos])
          rw [← hos] at HO
          have HRk := Lib.hid hr
          obtain ⟨Ar, cr, hvr⟩ := own_form hrow.out
          subst hvr
          clear hc hz hos hbl hr hNs hkl
          go_wp2_with fail
          refine HO.out.mono ?_
          rintro e w4 ⟨A4, c4, rfl, hown4, hb4⟩
          obtain ⟨u4, rfl, hu4⟩ := own_at hown4 (by omega)
          have HO4 := Lib.hid (own_below hrow.out hb4)
          have HB4 := Lib.hid (hbq.out.trans (hb4.mono hbq.out.size))
          clear hb4 hck
          go_wp2_with (at_builtin; refine wpList_append_own _ rfl _ _ 22 rfl W1.heap.size 3 i0 (.int .i64 0) 1 8 Try.underlying22 hi (by assumption) hz1 (by assumption) rfl (by decide) _ _ _ rfl HO4.out ⟨u4, 0, none⟩ N c4 (ints os) rfl (by rw [Nat.mul_one]; simpa [ints] using hosl) (hown4.cells (g := u4) rfl) (ints_one os) (by unfold maxLen; omega) (by omega) HB4.out.size ?_; intro v5 w5 hown5 hg5 _)
          have H5 := Lib.hid (And.intro hown5 (HB4.out.grown hg5 HB4.out.size (own_ge HO4.out)))
          clear hown5 hg5
          go_wp2
          exact ⟨⟨k + 1, by go_num, by omega, Lib.hid H5.out.2, Lib.hid (by rw [HR.out, HNs.out, ← HRk.out]; have := H5.out.1; simpa [ints] using this)⟩, by simp [intOf]; omega⟩
        · obtain rfl : len = k := by omega
          have HTk := Lib.hid (show ks.take len = ks from List.take_of_length_le (by have := HA.out.2.1; omega))
          obtain ⟨Ar, cr, hvr⟩ := own_form hrow.out
          subst hvr
          have hq1 : 0 ≤ (N : Int) * (len : Int) := by rw [← Int.natCast_mul]; omega
          have hq2 : (N : Int) * (len : Int) ≤ 240 := by
            have : N * len ≤ 240 := Nat.le_trans (Nat.mul_le_mul hN2 hlen) (by decide)
            rw [← Int.natCast_mul]
            omega
          have HB := Lib.hid (And.intro (hbw.out.trans (hbq.out.mono hws)) (And.intro (rd_own (own_below HWho.out hbq.out)) (rd_own hrow.out)))
          have hcap := Lib.hid (own_cap hrow.out)
          rw [HTk.out] at HB
          clear HTk hbq hbw
          go_wp2_with fail
          refine (awake_any _).mono ?_
          rintro e w6 ⟨rfl, hb6⟩
          have HB6 := Lib.hid (And.intro (HB.out.1.trans (hb6.mono HB.out.1.size)) (And.intro (HB.out.2.1.below hb6) (HB.out.2.2.below hb6)))
          clear hb6
          have hrl := rounds_len N ks
          rw [HA.out.2.1] at hrl
          have hN240 : N * len ≤ 1000 := Nat.le_trans (Nat.mul_le_mul hN2 hlen) (by decide)
          have HF := Lib.hid (fair_pos Ar B (N * len) N cr c (rounds N ks) (iota N) w6 N hN1 (by omega) hrl (iota_len N) hN240 (by omega) hcap.out HB6.out.2.2 HB6.out.2.1 (wf_iota N hN2 _ (rounds_mem N ks)) (wf_iota N hN2 _ fun _ h => h))
          have HT := Lib.hid (rounds_fair N ks (N * len / N) (by rw [Nat.mul_div_cancel_left _ (by omega : 0 < N), HA.out.2.1]; exact Nat.le_refl _))
          have HRL := Lib.hid (And.intro hrl hN240)
          clear hrl hN240
          go_wp2_with fail
          refine HF.out.mono ?_
          rintro e w7 ⟨⟨b7, rfl, hb7⟩, hbe7⟩
          obtain rfl := hb7.2 HT.out
          have HB7 := Lib.hid (And.intro (HB6.out.1.trans (hbe7.mono HB6.out.1.size)) (And.intro (HB6.out.2.1.below hbe7) (HB6.out.2.2.below hbe7)))
          clear hbe7 hb7
          by_cases hl0 : len = 0
          · subst hl0
            go_wp2
            go_ret
            exact ⟨rfl, HB7.out.1⟩
          · have hl0i : ¬ (len : Int) = 0 := by omega
            have hl0b : ((len : Int) == 0) = false := by simpa using hl0i
            have HM := Lib.hid (missing_any Ar B (N * len) N cr c (rounds N ks) (iota N) w7 HRL.out.1 (iota_len N) HRL.out.2 (by omega) HB7.out.2.2 HB7.out.2.1 (wf_iota N hN2 _ (rounds_mem N ks)) (wf_iota N hN2 _ fun _ h => h))
            have HZ := Lib.hid (rounds_miss N ks (by have := HA.out.2.1; omega))
            go_wp2_with fail
            refine HM.out.mono ?_
            rintro e w8 ⟨A8, r8, c8, rfl, hr8, _, hb8⟩
            rw [HZ.out] at hr8
            obtain rfl : r8 = 0 := hr8
            have HB8 := Lib.hid (HB7.out.1.trans (hb8.mono HB7.out.1.size))
            clear hb8
            go_wp2
            go_ret
            exact ⟨rfl, HB8.out⟩

set_option maxRecDepth 100000 in
theorem cells_u64 : Try.prog.cellsOf 29 = 1 := by kernel_rfl
theorem add_addr (b off k : Nat) : (⟨b, off, none⟩ : Addr).add k = ⟨b, off + k, none⟩ := by unfold Addr.add; by_cases h : k = 0 <;> simp [h]

set_option maxRecDepth 100000 in
theorem walk {H : Type} {enc : TypeId × Value → H} {spare : Nat → Bool} {held : Bool} {w : World} {base b0 : Nat} {r : Reach} {v : Value} {d : DataW H} {p : List MemPlace} (n : Int) (hn : (Lit.int .u8 n).wf = true)
    (ok : Value.okWide Try.prog w r b0 27 v) (h : DataW.Trod enc Try.prog w base spare held 27 v d p) :
    Calls Try.prog 4 #[.int .u8 n, v] w fun e w' => e = .returned (.bool true) ∧ Below w.heap.size w w' := by
  have hn' : 0 ≤ n ∧ n ≤ 255 := by simp [Lit.wf, IntKind.min, IntKind.max, IntKind.bits, IntKind.signed] at hn; omega
  obtain ⟨a0, len, cap, rfl⟩ := okWide_slice Try.underlying27 ok
  by_cases hlong : 20 < len
  · exact law_long n a0 len cap w hlong
  · obtain ⟨fuel, hf⟩ := h
    rcases open_ints Try.underlying27 Try.underlying29 cells_u64 hf with ⟨hcs, _⟩ | ⟨a, len', cap', zs, hcs, hb, hl, hm, hzl, _, hc, hwf⟩
    · simp [Value.cells] at hcs
      obtain ⟨rfl, rfl, rfl⟩ := hcs
      exact law_any n (1 + n % 12).toNat none 0 0 [] w hn'.1 (by omega) rfl (by omega) (fun _ h => absurd h (by simp)) (fun h => absurd h (by omega))
    · simp [Value.cells] at hcs
      obtain ⟨rfl, rfl, rfl⟩ := hcs
      have hlz : len ≤ zs.length := by rw [hzl]; split <;> omega
      refine law_any n (1 + n % 12).toNat (some a) len cap (zs.take len) w hn'.1 (by omega) (by simp; omega) (by omega) (fun z hz => ?_) (fun hlen => ?_)
      · have := hwf z (List.mem_of_mem_take hz)
        simp [Lit.wf, IntKind.min, IntKind.max, IntKind.bits, IntKind.signed] at this
        omega
      · obtain ⟨b, off, spot⟩ := a
        have hspot : spot = none := by
          have h1 := hc 0 (by omega)
          simpa [Addr.add] using World.cell?_spot h1
        subst hspot
        refine ⟨b, off, rfl, ?_, fun i hi => ?_⟩
        · have := World.block_lt_of_cell? w _ (hc 0 (by omega))
          simpa [Addr.add] using this
        · have := hc i (by omega)
          rw [add_addr] at this
          rw [List.getD_eq_getElem?_getD, List.getElem?_take_of_lt hi, ← List.getD_eq_getElem?_getD]
          exact this
end Go.Proofs.Ytnopmeadliaiiaa.picksRounds
