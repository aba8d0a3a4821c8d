/- The page's shard: Do. -/
import Derived.Test.YtmdjhcpafjgigaaPgShard4
namespace Go.Proofs.Ytmdjhcpafjgigaa.Mk
open Go Go.RowKit Go.MuLone

def qAct (m room who : Int) (k : K3) (ls : List En) : Int × List En :=
  if m = 1 then (qiR room k ls, qiL room k ls)
  else if m = 2 then (if who < 1 then (1, ls) else (qR 1 who k ls, qC 1 who k ls (qS k ⟨k, 2, who⟩ ls)))
  else if m = 3 then (qR 2 who k ls, qC 2 who k ls (qS k ⟨k, 1, 0⟩ ls))
  else if m = 4 then (qR 2 who k ls, qC 2 who k ls (qS k ⟨k, 3, 0⟩ ls))
  else (qR 3 0 k ls, qC 3 0 k ls (ls.eraseIdx (qf k ls).toNat))
set_option maxRecDepth 20000 in
theorem qclaim_few (Q : Nat) (who : Int) (k : K3) (w : World) (hw : who < 1) : Calls Try.prog 21 #[.pointer (some ⟨Q, 0, none⟩), k.val, .int .i64 who] w fun e w' => e = .returned (.int .i64 1) ∧ Below w.heap.size w w' := by
  have HK := Lib.hid (KB.new w k).bel
  obtain ⟨kc, kf, ks⟩ := k
  unfold K3.val
  dsimp only at HK ⊢
  go_enter Try.func21, Try.ntmps21
  go_wp2
  go_ret
  exact ⟨rfl, HK.out⟩
set_option maxRecDepth 20000 in
theorem qdo_any (Q : Nat) (m room who : Int) (v : Value) (ls : List En) (k : K3) (w : World) (h : QI w Q room v ls) (hn : ls.length ≤ 1000) (hm : m = 1 ∨ m = 2 ∨ m = 3 ∨ m = 4 ∨ m = 5) :
    Calls Try.prog 8 #[.pointer (some ⟨Q, 0, none⟩), .int .i64 m, k.val, .int .i64 who] w fun e w' => e = .returned (.int .i64 (qAct m room who k ls).1) ∧ ∃ v', QI w' Q room v' (qAct m room who k ls).2 ∧ Below Q w w' := by
  have HKB := Lib.hid (KB.new w k)
  have hQ := h.alloc (.cells #[.int .i64 k.c, .int .i64 k.f, .int .u64 k.s] 35)
  have HLT := Lib.hid h.lt
  clear h
  rcases hm with h | h | h | h | h <;> subst h
  · skip
    have hc := qins_any Q room v ls k _ hQ hn
    have HE : Hid _ := (show qAct 1 room who k ls = (qiR room k ls, qiL room k ls) from rfl)
    obtain ⟨kc, kf, ks⟩ := k
    unfold K3.val at hc ⊢
    dsimp only at hc HKB HE ⊢
    have HC := Lib.hid hc
    clear hc hQ
    rw [HE.out]
    dsimp only
    clear HE
    go_enter Try.func8, Try.ntmps8
    go_wp2_with fail
    refine HC.out.mono ?_
    rintro _ w' ⟨rfl, v', hq, hb⟩
    have HF := Lib.hid (And.intro hq ((HKB.out.bel.mono (Nat.le_of_lt HLT.out)).trans hb))
    clear hq hb HC HKB
    go_wp2
    go_ret
    exact ⟨rfl, v', HF.out.1, HF.out.2⟩
  · by_cases hwho : who < 1
    · have hc : Calls Try.prog 21 #[.pointer (some ⟨Q, 0, none⟩), k.val, .int .i64 who] _ fun e w' => e = .returned (.int .i64 1) ∧ ∃ v', QI w' Q room v' ls ∧ Below Q _ w' := (qclaim_few Q who k (w.alloc (.cells #[.int .i64 k.c, .int .i64 k.f, .int .u64 k.s] 35)) hwho).mono fun _ _ ⟨he, hb⟩ => ⟨he, v, hQ.below hb, hb.mono (Nat.le_of_lt hQ.lt)⟩
      have HE : Hid _ := (show qAct 2 room who k ls = (1, ls) by simp [qAct, hwho])
      obtain ⟨kc, kf, ks⟩ := k
      unfold K3.val at hc ⊢
      dsimp only at hc HKB HE ⊢
      have HC := Lib.hid hc
      clear hc hQ
      rw [HE.out]
      dsimp only
      clear HE
      go_enter Try.func8, Try.ntmps8
      go_wp2_with fail
      refine HC.out.mono ?_
      rintro _ w' ⟨rfl, v', hq, hb⟩
      have HF := Lib.hid (And.intro hq ((HKB.out.bel.mono (Nat.le_of_lt HLT.out)).trans hb))
      clear hq hb HC HKB
      go_wp2
      go_ret
      exact ⟨rfl, v', HF.out.1, HF.out.2⟩
    · have hc := qclaim_any Q room who v ls k _ hQ hn hwho
      have HE : Hid _ := (show qAct 2 room who k ls = (qR 1 who k ls, qC 1 who k ls (qS k ⟨k, 2, who⟩ ls)) by simp [qAct, hwho])
      obtain ⟨kc, kf, ks⟩ := k
      unfold K3.val at hc ⊢
      dsimp only at hc HKB HE ⊢
      have HC := Lib.hid hc
      clear hc hQ
      rw [HE.out]
      dsimp only
      clear HE
      go_enter Try.func8, Try.ntmps8
      go_wp2_with fail
      refine HC.out.mono ?_
      rintro _ w' ⟨rfl, v', hq, hb⟩
      have HF := Lib.hid (And.intro hq ((HKB.out.bel.mono (Nat.le_of_lt HLT.out)).trans hb))
      clear hq hb HC HKB
      go_wp2
      go_ret
      exact ⟨rfl, v', HF.out.1, HF.out.2⟩
  · skip
    have hc := qend_any Q room who v ls k _ hQ hn 1
    have HE : Hid _ := (show qAct 3 room who k ls = (qR 2 who k ls, qC 2 who k ls (qS k ⟨k, 1, 0⟩ ls)) from rfl)
    obtain ⟨kc, kf, ks⟩ := k
    unfold K3.val at hc ⊢
    dsimp only at hc HKB HE ⊢
    have HC := Lib.hid hc
    clear hc hQ
    rw [HE.out]
    dsimp only
    clear HE
    go_enter Try.func8, Try.ntmps8
    go_wp2_with fail
    refine HC.out.mono ?_
    rintro _ w' ⟨rfl, v', hq, hb⟩
    have HF := Lib.hid (And.intro hq ((HKB.out.bel.mono (Nat.le_of_lt HLT.out)).trans hb))
    clear hq hb HC HKB
    go_wp2
    go_ret
    exact ⟨rfl, v', HF.out.1, HF.out.2⟩
  · skip
    have hc := qend_any Q room who v ls k _ hQ hn 3
    have HE : Hid _ := (show qAct 4 room who k ls = (qR 2 who k ls, qC 2 who k ls (qS k ⟨k, 3, 0⟩ ls)) from rfl)
    obtain ⟨kc, kf, ks⟩ := k
    unfold K3.val at hc ⊢
    dsimp only at hc HKB HE ⊢
    have HC := Lib.hid hc
    clear hc hQ
    rw [HE.out]
    dsimp only
    clear HE
    go_enter Try.func8, Try.ntmps8
    go_wp2_with fail
    refine HC.out.mono ?_
    rintro _ w' ⟨rfl, v', hq, hb⟩
    have HF := Lib.hid (And.intro hq ((HKB.out.bel.mono (Nat.le_of_lt HLT.out)).trans hb))
    clear hq hb HC HKB
    go_wp2
    go_ret
    exact ⟨rfl, v', HF.out.1, HF.out.2⟩
  · skip
    have hc := qexpire_any Q room v ls k _ hQ hn
    have HE : Hid _ := (show qAct 5 room who k ls = (qR 3 0 k ls, qC 3 0 k ls (ls.eraseIdx (qf k ls).toNat)) from rfl)
    obtain ⟨kc, kf, ks⟩ := k
    unfold K3.val at hc ⊢
    dsimp only at hc HKB HE ⊢
    have HC := Lib.hid hc
    clear hc hQ
    rw [HE.out]
    dsimp only
    clear HE
    go_enter Try.func8, Try.ntmps8
    go_wp2_with fail
    refine HC.out.mono ?_
    rintro _ w' ⟨rfl, v', hq, hb⟩
    have HF := Lib.hid (And.intro hq ((HKB.out.bel.mono (Nat.le_of_lt HLT.out)).trans hb))
    clear hq hb HC HKB
    go_wp2
    go_ret
    exact ⟨rfl, v', HF.out.1, HF.out.2⟩
end Go.Proofs.Ytmdjhcpafjgigaa.Mk
