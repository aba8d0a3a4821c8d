/- 'ShardPlays': what a shard answers to whatever is done. -/
import Derived.Test.YtmdjhcpafjgigaaSnap
import Derived.Test.YtmdjhcpafjgigaaEnSame
import Derived.Test.YtmdjhcpafjgigaaActsOpen
import Derived.Test.YtmdjhcpafjgigaaPgLaw
import Derived.Deep.RegionHeld3
import Derived.Deep.CutBlock
import Derived.Deep.QuietTactic
import Derived.BigQuiet
namespace Go.Proofs.Ytmdjhcpafjgigaa.Mk
open Go Go.RowKit Go.MuLone

set_option maxRecDepth 20000 in
set_option maxHeartbeats 40000000 in
theorem law_plays (room : Int) (hr1 : 1 ≤ room) (hr2 : room ≤ 64) (A : Option Addr) (len cap : Nat) (qs : List A5) (W : World) (hq : RdT W A len qs) (hl : len ≤ 100) :
    Calls Try.prog 3 #[.int .i64 room, .slice A len cap] W fun e w' => e = .returned (.bool true) ∧ Below W.heap.size W w' := by
  have HQ := Lib.hid hq
  clear hq
  have HN := Lib.hid (snew_ok room W hr1 hr2)
  have hrA : ¬ room < 1 := by omega
  have hrB : ¬ (64 : Int) < room := by omega
  go_enter Try.func3, Try.ntmps3
  go_wp2_with fail
  refine HN.out.mono ?_
  rintro _ w1 ⟨⟨S, B, rfl, h1, hS, hB⟩, b1⟩
  have hbox := heap_alloc_new w1 (.cells #[.slice none 0 0, .int .i64 room] TQ)
  have H1 : Hid (PW W (w1.alloc (.cells #[.slice none 0 0, .int .i64 room] TQ)) S B w1.heap.size room [] 0 (.slice none 0 0) []) :=
    ⟨h1.new _, ⟨hbox, World.ownsRow_nil _ _ _ _⟩, b1.alloc b1.size _, hS, hB, h1.ltS, h1.ltB⟩
  clear HN h1 hS hB b1 hbox
  go_wp2
  generalize w1.alloc (.cells #[.slice none 0 0, .int .i64 room] TQ) = w2 at H1 ⊢
  generalize w1.heap.size = Q at H1 ⊢
  go_loopw [8] (fun vi wr => ∃ (i : Nat) (l : List Ms) (clock : Nat) (v : Value) (ls : List En), vi = .int .i64 (i : Int) ∧ i ≤ len ∧ PW W wr S B Q room l clock v ls ∧ Hid (QM ls l ∧ MOk l clock ∧ (l.length : Int) ≤ room)) (fun vi _ => len - (intOf vi).toNat)
  case atStart => exact ⟨0, [], 0, _, [], rfl, Nat.zero_le _, H1.out, QM.nil, MOk.nil, by simp; omega⟩
  case round =>
    clear H1
    obtain ⟨i, l, clock, v, ls, rfl, hi, hpw, HM⟩ := hrel
    have HO := Lib.hid hpw
    clear hpw
    by_cases hlt : i < len
    · have hi0 : (0 : Int) ≤ (i : Int) := by omega
      have hi1 : (i : Int) < (len : Int) := by omega
      obtain ⟨b, off, hA, hbl, hcs⟩ := HQ.out.cells (by omega)
      have ha := hcs i (by have := HQ.out.many; omega)
      have hkd := HQ.out.kinds _ (List.getElem_mem (h := (by have := HQ.out.many; omega : i < qs.length)))
      generalize qs[i]'(by have := HQ.out.many; omega) = q at ha hkd
      subst hA
      clear hcs
      obtain ⟨kd, who, ⟨qc, qk, qs'⟩⟩ := q
      dsimp only at hkd
      have HSA : Hid (∀ V, Below W.heap.size W V → (fun V => V.cell? ⟨b, off + i * 5, none⟩ = some (.int .u8 kd) ∧ V.cell? ⟨b, off + i * 5 + 1, none⟩ = some (.int .i64 who) ∧ V.cell? ⟨b, off + i * 5 + 2, none⟩ = some (.int .i64 qc) ∧ V.cell? ⟨b, off + i * 5 + 3, none⟩ = some (.int .i64 qk) ∧ V.cell? ⟨b, off + i * 5 + 4, none⟩ = some (.int .u64 qs')) V) := fun V hb => by
        obtain ⟨c0, c1, c2, c3, c4⟩ := ha.keep (hb.block b hbl)
        exact ⟨c0, c1, c2, c3, c4⟩
      have hm5 : kd.tmod 5 = 0 ∨ kd.tmod 5 = 1 ∨ kd.tmod 5 = 2 ∨ kd.tmod 5 = 3 ∨ kd.tmod 5 = 4 := by rw [Int.tmod_eq_emod_of_nonneg hkd.1]; omega
      have hlsn : ls.length ≤ 1000 := by have h1 := HM.out.1.len; have h2 := HM.out.2.2; omega
      have hact := HM.out.1.act HM.out.2.1 (kd.tmod 5) room who ⟨qc, qk, qs'⟩
      have hok' := act_ok (m := kd.tmod 5) (room := room) (who := who) (k := ⟨qc, qk, qs'⟩) HM.out.2.1
      have hlen' := act_len (m := kd.tmod 5) (who := who) (k := ⟨qc, qk, qs'⟩) (clock := clock) HM.out.2.2
      have hd := fun V hV => does_any S B room kd who l clock ⟨qc, qk, qs'⟩ hkd.1 V hV
      have hk := fun V => kind_any kd who ⟨qc, qk, qs'⟩ hkd.1 V
      have hdo := fun V (hV : QI V Q room v ls) => qdo_any Q (kindOf (kd.tmod 5)) room who v ls ⟨qc, qk, qs'⟩ V hV hlsn (by unfold kindOf; rcases hm5 with h | h | h | h | h <;> rw [h] <;> simp)
      generalize kindOf (kd.tmod 5) = mk at hact hk hdo
      generalize actRes (kd.tmod 5) room who ⟨qc, qk, qs'⟩ l clock = R at hd hact hok' hlen'
      generalize qAct mk room who ⟨qc, qk, qs'⟩ ls = R2 at hact hdo
      obtain ⟨r, l', c'⟩ := R
      obtain ⟨r2, ls'⟩ := R2
      dsimp only at hd hact hok' hlen' hdo
      obtain ⟨hr, hqm⟩ := hact
      subst hr
      unfold actV at hd hk
      unfold K3.val at hdo
      dsimp only at hd hk hdo
      have hln : ls'.length = l'.length := hqm.len
      have hls' : ls'.length ≤ 1000 := by omega
      have hsn := fun V hV => snap_any S B room l' c' V hV hok' (by omega)
      have hle := fun V hV => slen_any S B room l' c' V hV
      rw [← hln] at hle
      have HM' : Hid (QM ls' l' ∧ MOk l' c' ∧ (l'.length : Int) ≤ room) := ⟨hqm, hok', hlen'⟩
      have HD := Lib.hid hd
      have HKD := Lib.hid hk
      have HDO := Lib.hid hdo
      have HSN := Lib.hid hsn
      have HLE := Lib.hid hle
      have HL5 := Lib.hid hls'
      have hPW0 : Hid (PW W wr.drew S B Q room l clock v ls) := HO.out.drew
      clear hd hk hdo hsn hle hqm hok' hlen' hln hls' hlsn hm5 hkd ha
      go_upto_region 12 with fail
      go_cut [90] from 47 to 91 (fun cv wx => cv = .bool false ∧ ∃ vv, PW W wx S B Q room l' c' vv ls')
      case first =>
        refine wp_region_held_drew (S := (fun V => V.cell? ⟨b, off + i * 5, none⟩ = some (.int .u8 kd) ∧ V.cell? ⟨b, off + i * 5 + 1, none⟩ = some (.int .i64 who) ∧ V.cell? ⟨b, off + i * 5 + 2, none⟩ = some (.int .i64 qc) ∧ V.cell? ⟨b, off + i * 5 + 3, none⟩ = some (.int .i64 qk) ∧ V.cell? ⟨b, off + i * 5 + 4, none⟩ = some (.int .u64 qs'))) (by kernel_rfl) (HSA.out _ hPW0.out.bel) (fun hHeld => ?_)
        refine wpAnyH_take (i := 0) (oi := _) (v := ?_) rfl (by kernel_rfl) (by kernel_rfl) (by kernel_rfl) (fun _ _ _ h => h) (Or.inl ⟨by rfl, ?_⟩) (by assumption) ?_
        rotate_left
        · (intro W hSw; (try dsimp only at hSw); go_simp; try with_reducible rfl)
        try simp only [Act.put, List.getElem_toArray, List.getElem_cons_zero, List.setIfInBounds_toArray, List.set_cons_zero, List.set_cons_succ]
        refine wpAnyH_take (i := 1) (oi := _) (v := ?_) rfl (by kernel_rfl) (by kernel_rfl) (by kernel_rfl) (fun _ _ _ h => h) (Or.inl ⟨by rfl, ?_⟩) (by assumption) ?_
        rotate_left
        · (intro W hSw; (try dsimp only at hSw); go_simp; try with_reducible rfl)
        try simp only [Act.put, List.getElem_toArray, List.getElem_cons_succ, List.getElem_cons_zero, List.setIfInBounds_toArray, List.set_cons_zero, List.set_cons_succ]
        refine wpAnyH_take (i := 2) (oi := _) (v := ?_) rfl (by kernel_rfl) (by kernel_rfl) (by kernel_rfl) (fun _ _ _ h => h) (Or.inl ⟨by rfl, ?_⟩) (by assumption) ?_
        rotate_left
        · (intro W hSw; (try dsimp only at hSw); go_simp; try with_reducible rfl)
        try simp only [Act.put, List.getElem_toArray, List.getElem_cons_succ, List.getElem_cons_zero, List.setIfInBounds_toArray, List.set_cons_zero, List.set_cons_succ]
        refine wpAnyH_take (i := 3) (oi := _) (v := ?_) rfl (by kernel_rfl) (by kernel_rfl) (by kernel_rfl) (fun _ _ _ h => h) (Or.inl ⟨by rfl, ?_⟩) (by assumption) ?_
        rotate_left
        · (intro W hSw; (try dsimp only at hSw); go_simp; try with_reducible rfl)
        try simp only [Act.put, List.getElem_toArray, List.getElem_cons_succ, List.getElem_cons_zero, List.setIfInBounds_toArray, List.set_cons_zero, List.set_cons_succ]
        refine wpAnyH_take (i := 4) (oi := _) (v := ?_) rfl (by kernel_rfl) (by kernel_rfl) (by kernel_rfl) (fun _ _ _ h => h) (Or.inl ⟨by rfl, ?_⟩) (by assumption) ?_
        rotate_left
        · (intro W hSw; (try dsimp only at hSw); go_simp; try with_reducible rfl)
        try simp only [Act.put, List.getElem_toArray, List.getElem_cons_succ, List.getElem_cons_zero, List.setIfInBounds_toArray, List.set_cons_zero, List.set_cons_succ]
        refine wpAnyH_take (i := 6) (oi := _) (v := ?_) rfl (by kernel_rfl) (by kernel_rfl) (by kernel_rfl) (fun _ _ _ h => h) (Or.inl ⟨by rfl, ?_⟩) (by assumption) ?_
        rotate_left
        · (intro W hSw; (try dsimp only at hSw); go_simp; try with_reducible rfl)
        try simp only [Act.put, List.getElem_toArray, List.getElem_cons_succ, List.getElem_cons_zero, List.setIfInBounds_toArray, List.set_cons_zero, List.set_cons_succ]
        refine wpAnyH_take (i := 7) (oi := _) (v := ?_) rfl (by kernel_rfl) (by kernel_rfl) (by kernel_rfl) (fun _ _ _ h => h) (Or.inl ⟨by rfl, ?_⟩) (by assumption) ?_
        rotate_left
        · (intro W hSw; (try dsimp only at hSw); go_simp; try with_reducible rfl)
        try simp only [Act.put, List.getElem_toArray, List.getElem_cons_succ, List.getElem_cons_zero, List.setIfInBounds_toArray, List.set_cons_zero, List.set_cons_succ]
        refine wpAnyH_take (i := 8) (oi := _) (v := ?_) rfl (by kernel_rfl) (by kernel_rfl) (by kernel_rfl) (fun _ _ _ h => h) (Or.inl ⟨by rfl, ?_⟩) (by assumption) ?_
        rotate_left
        · (intro W hSw; (try dsimp only at hSw); go_simp; try with_reducible rfl)
        try simp only [Act.put, List.getElem_toArray, List.getElem_cons_succ, List.getElem_cons_zero, List.setIfInBounds_toArray, List.set_cons_zero, List.set_cons_succ]
        refine wpAnyH_take (i := 9) (oi := _) (v := ?_) rfl (by kernel_rfl) (by kernel_rfl) (by kernel_rfl) (fun _ _ _ h => h) (Or.inl ⟨by rfl, ?_⟩) (by assumption) ?_
        rotate_left
        · (intro W hSw; (try dsimp only at hSw); go_simp; try with_reducible rfl)
        try simp only [Act.put, List.getElem_toArray, List.getElem_cons_succ, List.getElem_cons_zero, List.setIfInBounds_toArray, List.set_cons_zero, List.set_cons_succ]
        refine wpAnyH_take (i := 10) (oi := _) (v := ?_) rfl (by kernel_rfl) (by kernel_rfl) (by kernel_rfl) (fun _ _ _ h => h) (Or.inl ⟨by rfl, ?_⟩) (by assumption) ?_
        rotate_left
        · (intro W hSw; (try dsimp only at hSw); go_simp; try with_reducible rfl)
        try simp only [Act.put, List.getElem_toArray, List.getElem_cons_succ, List.getElem_cons_zero, List.setIfInBounds_toArray, List.set_cons_zero, List.set_cons_succ]
        refine wpAnyH_take (i := 12) (oi := _) (v := ?_) rfl (by kernel_rfl) (by kernel_rfl) (by kernel_rfl) (fun _ _ _ h => h) (Or.inl ⟨by rfl, ?_⟩) (by assumption) ?_
        rotate_left
        · (intro W hSw; (try dsimp only at hSw); go_simp; try with_reducible rfl)
        try simp only [Act.put, List.getElem_toArray, List.getElem_cons_succ, List.getElem_cons_zero, List.setIfInBounds_toArray, List.set_cons_zero, List.set_cons_succ]
        refine wpAnyH_take (i := 13) (oi := _) (v := ?_) rfl (by kernel_rfl) (by kernel_rfl) (by kernel_rfl) (fun _ _ _ h => h) (Or.inl ⟨by rfl, ?_⟩) (by assumption) ?_
        rotate_left
        · (intro W hSw; (try dsimp only at hSw); go_simp; try with_reducible rfl)
        try simp only [Act.put, List.getElem_toArray, List.getElem_cons_succ, List.getElem_cons_zero, List.setIfInBounds_toArray, List.set_cons_zero, List.set_cons_succ]
        refine wpAnyH_take (i := 14) (oi := _) (v := ?_) rfl (by kernel_rfl) (by kernel_rfl) (by kernel_rfl) (fun _ _ _ h => h) (Or.inl ⟨by rfl, ?_⟩) (by assumption) ?_
        rotate_left
        · (intro W hSw; (try dsimp only at hSw); go_simp; try with_reducible rfl)
        try simp only [Act.put, List.getElem_toArray, List.getElem_cons_succ, List.getElem_cons_zero, List.setIfInBounds_toArray, List.set_cons_zero, List.set_cons_succ]
        refine wpAnyH_take (i := 15) (oi := _) (v := ?_) rfl (by kernel_rfl) (by kernel_rfl) (by kernel_rfl) (fun _ _ _ h => h) (Or.inl ⟨by rfl, ?_⟩) (by assumption) ?_
        rotate_left
        · (intro W hSw; (try dsimp only at hSw); go_simp; try with_reducible rfl)
        try simp only [Act.put, List.getElem_toArray, List.getElem_cons_succ, List.getElem_cons_zero, List.setIfInBounds_toArray, List.set_cons_zero, List.set_cons_succ]
        refine wpAnyH_take (i := 16) (oi := _) (v := ?_) rfl (by kernel_rfl) (by kernel_rfl) (by kernel_rfl) (fun _ _ _ h => h) (Or.inl ⟨by rfl, ?_⟩) (by assumption) ?_
        rotate_left
        · (intro W hSw; (try dsimp only at hSw); go_simp; try with_reducible rfl)
        try simp only [Act.put, List.getElem_toArray, List.getElem_cons_succ, List.getElem_cons_zero, List.setIfInBounds_toArray, List.set_cons_zero, List.set_cons_succ]
        refine wpAnyH_take (i := 17) (oi := _) (v := ?_) rfl (by kernel_rfl) (by kernel_rfl) (by kernel_rfl) (fun _ _ _ h => h) (Or.inl ⟨by rfl, ?_⟩) (by assumption) ?_
        rotate_left
        · (intro W hSw; (try dsimp only at hSw); go_simp; try with_reducible rfl)
        try simp only [Act.put, List.getElem_toArray, List.getElem_cons_succ, List.getElem_cons_zero, List.setIfInBounds_toArray, List.set_cons_zero, List.set_cons_succ]
        refine wpAnyH_take (i := 18) (oi := _) (v := ?_) rfl (by kernel_rfl) (by kernel_rfl) (by kernel_rfl) (fun _ _ _ h => h) (Or.inl ⟨by rfl, ?_⟩) (by assumption) ?_
        rotate_left
        · (intro W hSw; (try dsimp only at hSw); go_simp; try with_reducible rfl)
        try simp only [Act.put, List.getElem_toArray, List.getElem_cons_succ, List.getElem_cons_zero, List.setIfInBounds_toArray, List.set_cons_zero, List.set_cons_succ]
        refine wpAnyH_take (i := 19) (oi := _) (v := ?_) rfl (by kernel_rfl) (by kernel_rfl) (by kernel_rfl) (fun _ _ _ h => h) (Or.inl ⟨by rfl, ?_⟩) (by assumption) ?_
        rotate_left
        · (intro W hSw; (try dsimp only at hSw); go_simp; try with_reducible rfl)
        try simp only [Act.put, List.getElem_toArray, List.getElem_cons_succ, List.getElem_cons_zero, List.setIfInBounds_toArray, List.set_cons_zero, List.set_cons_succ]
        refine wpAnyH_take (i := 20) (oi := _) (v := ?_) rfl (by kernel_rfl) (by kernel_rfl) (by kernel_rfl) (fun _ _ _ h => h) (Or.inl ⟨by rfl, ?_⟩) (by assumption) ?_
        rotate_left
        · (intro W hSw; (try dsimp only at hSw); go_simp; try with_reducible rfl)
        try simp only [Act.put, List.getElem_toArray, List.getElem_cons_succ, List.getElem_cons_zero, List.setIfInBounds_toArray, List.set_cons_zero, List.set_cons_succ]
        refine wpAnyH_take (i := 21) (oi := _) (v := ?_) rfl (by kernel_rfl) (by kernel_rfl) (by kernel_rfl) (fun _ _ _ h => h) (Or.inl ⟨by rfl, ?_⟩) (by assumption) ?_
        rotate_left
        · (intro W hSw; (try dsimp only at hSw); go_simp; try with_reducible rfl)
        try simp only [Act.put, List.getElem_toArray, List.getElem_cons_succ, List.getElem_cons_zero, List.setIfInBounds_toArray, List.set_cons_zero, List.set_cons_succ]
        refine wpAnyH_ready (rs := [5]) (by kernel_rfl) (by simp) ?_
        refine AllReadyH.cons rfl (fun K hK => ?_) AllReadyH.nil
        · simp only [List.getElem_toArray, List.getElem_cons_succ, List.getElem_cons_zero]
          rw [if_pos (by rfl)]
          go_simp
          (refine (HD.out _ hPW0.out.sh).mono ?_; rintro e w3 ⟨rfl, hs3, hO3⟩; have PW1 := Lib.hid (hPW0.out.shard hs3 hO3); clear hs3 hO3)
          go_wp2_with fail
          refine hK.out _ _ (HSA.out _ PW1.out.bel) (fun hHeld => ?_)
          clear hK K
          try simp only [Act.put, List.getElem_toArray, List.getElem_cons_succ, List.getElem_cons_zero, List.setIfInBounds_toArray, List.set_cons_zero, List.set_cons_succ]
          refine wpAnyH_ready (rs := [11]) (by kernel_rfl) (by simp) ?_
          refine AllReadyH.cons rfl (fun K hK => ?_) AllReadyH.nil
          · simp only [List.getElem_toArray, List.getElem_cons_succ, List.getElem_cons_zero]
            rw [if_pos (by rfl)]
            go_simp
            (refine (HKD.out _).mono ?_; rintro e w4 ⟨rfl, hb4⟩; have PW2 := Lib.hid (PW1.out.below hb4); clear hb4)
            go_wp2_with fail
            refine hK.out _ _ (HSA.out _ PW2.out.bel) (fun hHeld => ?_)
            clear hK K
            try simp only [Act.put, List.getElem_toArray, List.getElem_cons_succ, List.getElem_cons_zero, List.setIfInBounds_toArray, List.set_cons_zero, List.set_cons_succ]
            refine wpAnyH_ready (rs := [22]) (by kernel_rfl) (by simp) ?_
            refine AllReadyH.cons rfl (fun K hK => ?_) AllReadyH.nil
            · simp only [List.getElem_toArray, List.getElem_cons_succ, List.getElem_cons_zero]
              rw [if_pos (by rfl)]
              go_simp
              (refine (HDO.out _ PW2.out.q).mono ?_; rintro e w5 ⟨rfl, v5, hq5, hb5⟩; have pw3 := PW2.out.page hq5 hb5; obtain ⟨A5, c5, hv5⟩ := hq5.form; subst hv5; have q5 := hq5.cell.1; have PW3 := Lib.hid pw3; clear hq5 hb5 pw3)
              go_wp2_with fail
              refine hK.out _ _ (HSA.out _ PW3.out.bel) (fun hHeld => ?_)
              clear hK K
              try simp only [Act.put, List.getElem_toArray, List.getElem_cons_succ, List.getElem_cons_zero, List.setIfInBounds_toArray, List.set_cons_zero, List.set_cons_succ]
              refine wpAnyH_take (i := 23) (oi := _) (v := ?_) rfl (by kernel_rfl) (by kernel_rfl) (by kernel_rfl) (fun _ _ _ h => h) (Or.inl ⟨by rfl, ?_⟩) (by assumption) ?_
              rotate_left
              · (intro W hSw; (try dsimp only at hSw); go_simp; try with_reducible rfl)
              try simp only [Act.put, List.getElem_toArray, List.getElem_cons_succ, List.getElem_cons_zero, List.setIfInBounds_toArray, List.set_cons_zero, List.set_cons_succ]
              refine wpAnyH_take (i := 24) (oi := _) (v := ?_) rfl (by kernel_rfl) (by kernel_rfl) (by kernel_rfl) (fun _ _ _ h => h) (Or.inl ⟨by rfl, ?_⟩) (by assumption) ?_
              rotate_left
              · (intro W hSw; (try dsimp only at hSw); go_simp; try with_reducible rfl)
              try simp only [Act.put, List.getElem_toArray, List.getElem_cons_succ, List.getElem_cons_zero, List.setIfInBounds_toArray, List.set_cons_zero, List.set_cons_succ]
              refine wpAnyH_take (i := 25) (oi := _) (v := ?_) rfl (by kernel_rfl) (by kernel_rfl) (by kernel_rfl) (fun _ _ _ h => h) (Or.inl ⟨by rfl, ?_⟩) (by assumption) ?_
              rotate_left
              · (intro W hSw; (try dsimp only at hSw); go_simp; try with_reducible rfl)
              try simp only [Act.put, List.getElem_toArray, List.getElem_cons_succ, List.getElem_cons_zero, List.setIfInBounds_toArray, List.set_cons_zero, List.set_cons_succ]
              refine wpAnyH_take (i := 27) (oi := _) (v := ?_) rfl (by kernel_rfl) (by kernel_rfl) (by kernel_rfl) (fun _ _ _ h => h) (Or.inl ⟨by rfl, ?_⟩) (by assumption) ?_
              rotate_left
              · (intro W hSw; (try dsimp only at hSw); go_simp; try with_reducible rfl)
              try simp only [Act.put, List.getElem_toArray, List.getElem_cons_succ, List.getElem_cons_zero, List.setIfInBounds_toArray, List.set_cons_zero, List.set_cons_succ]
              refine wpAnyH_take (i := 28) (oi := _) (v := ?_) rfl (by kernel_rfl) (by kernel_rfl) (by kernel_rfl) (fun _ _ _ h => h) (Or.inl ⟨by rfl, ?_⟩) (by assumption) ?_
              rotate_left
              · (intro W hSw; (try dsimp only at hSw); go_simp; try with_reducible rfl)
              try simp only [Act.put, List.getElem_toArray, List.getElem_cons_succ, List.getElem_cons_zero, List.setIfInBounds_toArray, List.set_cons_zero, List.set_cons_succ]
              refine wpAnyH_take (i := 29) (oi := _) (v := ?_) rfl (by kernel_rfl) (by kernel_rfl) (by kernel_rfl) (fun _ _ _ h => h) (Or.inl ⟨by rfl, ?_⟩) (by assumption) ?_
              rotate_left
              · (intro W hSw; (try dsimp only at hSw); go_simp; try with_reducible rfl)
              try simp only [Act.put, List.getElem_toArray, List.getElem_cons_succ, List.getElem_cons_zero, List.setIfInBounds_toArray, List.set_cons_zero, List.set_cons_succ]
              refine wpAnyH_ready (rs := [26, 30]) (by kernel_rfl) (by simp) ?_
              refine AllReadyH.cons rfl (fun K hK => ?_) (AllReadyH.cons rfl (fun K hK => ?_) AllReadyH.nil)
              · simp only [List.getElem_toArray, List.getElem_cons_succ, List.getElem_cons_zero]
                rw [if_pos (by rfl)]
                go_simp
                (refine (HSN.out _ PW3.out.sh).mono ?_; rintro e w6 ⟨v6, ls6, rfl, hr6, hp6, hw6, hs6, hO6⟩; have pw4 := PW3.out.shard hs6 hO6; obtain ⟨A6, c6, hv6⟩ := hr6.form; subst hv6; have hls6 := sorted_eq HM'.out.2.1 hp6 HM'.out.1.perm hw6 HM'.out.1.pw; subst hls6; have q6 := pw4.q.cell.1; have PW4 := Lib.hid pw4; have HR6 := Lib.hid hr6; clear hr6 hp6 hw6 hs6 hO6 pw4)
                go_wp2_with fail
                refine hK.out _ _ (HSA.out _ PW4.out.bel) (fun hHeld => ?_)
                clear hK K
                try simp only [Act.put, List.getElem_toArray, List.getElem_cons_succ, List.getElem_cons_zero, List.setIfInBounds_toArray, List.set_cons_zero, List.set_cons_succ]
                refine wpAnyH_ready (rs := [30]) (by kernel_rfl) (by simp) ?_
                refine AllReadyH.cons rfl (fun K hK => ?_) AllReadyH.nil
                · simp only [List.getElem_toArray, List.getElem_cons_succ, List.getElem_cons_zero]
                  rw [if_pos (by rfl)]
                  go_simp
                  refine hK.out _ _ (HSA.out _ PW4.out.bel) (fun hHeld => ?_)
                  clear hK K
                  try simp only [Act.put, List.getElem_toArray, List.getElem_cons_succ, List.getElem_cons_zero, List.setIfInBounds_toArray, List.set_cons_zero, List.set_cons_succ]
                  refine wpAnyH_ready (rs := [31]) (by kernel_rfl) (by simp) ?_
                  refine AllReadyH.cons rfl (fun K hK => ?_) AllReadyH.nil
                  · simp only [List.getElem_toArray, List.getElem_cons_succ, List.getElem_cons_zero]
                    rw [if_pos (by rfl)]
                    go_simp
                    (refine (same_en _ _ _ _ _ _ HL5.out HR6.out PW4.out.q.rowE).mono ?_; rintro e w7 ⟨rfl, hb7⟩; have PW5 := Lib.hid (PW4.out.below hb7); have q7 := PW5.out.q.cell.1; clear hb7)
                    go_wp2_with fail
                    refine hK.out _ _ (HSA.out _ PW5.out.bel) (fun hHeld => ?_)
                    clear hK K
                    try simp only [Act.put, List.getElem_toArray, List.getElem_cons_succ, List.getElem_cons_zero, List.setIfInBounds_toArray, List.set_cons_zero, List.set_cons_succ]
                    refine wpAnyH_take (i := 32) (oi := _) (v := ?_) rfl (by kernel_rfl) (by kernel_rfl) (by kernel_rfl) (fun _ _ _ h => h) (Or.inl ⟨by rfl, ?_⟩) (by assumption) ?_
                    rotate_left
                    · (intro W hSw; (try dsimp only at hSw); go_simp; try with_reducible rfl)
                    try simp only [Act.put, List.getElem_toArray, List.getElem_cons_succ, List.getElem_cons_zero, List.setIfInBounds_toArray, List.set_cons_zero, List.set_cons_succ]
                    refine wpAnyH_take (i := 33) (oi := _) (v := ?_) rfl (by kernel_rfl) (by kernel_rfl) (by kernel_rfl) (fun _ _ _ h => h) (Or.inl ⟨by rfl, ?_⟩) (by assumption) ?_
                    rotate_left
                    · (intro W hSw; (try dsimp only at hSw); go_simp; try with_reducible rfl)
                    try simp only [Act.put, List.getElem_toArray, List.getElem_cons_succ, List.getElem_cons_zero, List.setIfInBounds_toArray, List.set_cons_zero, List.set_cons_succ]
                    refine wpAnyH_take (i := 34) (oi := _) (v := ?_) rfl (by kernel_rfl) (by kernel_rfl) (by kernel_rfl) (fun _ _ _ h => h) (Or.inl ⟨by rfl, ?_⟩) (by assumption) ?_
                    rotate_left
                    · (intro W hSw; (try dsimp only at hSw); go_simp; try with_reducible rfl)
                    try simp only [Act.put, List.getElem_toArray, List.getElem_cons_succ, List.getElem_cons_zero, List.setIfInBounds_toArray, List.set_cons_zero, List.set_cons_succ]
                    refine wpAnyH_take (i := 35) (oi := _) (v := ?_) rfl (by kernel_rfl) (by kernel_rfl) (by kernel_rfl) (fun _ _ _ h => h) (Or.inl ⟨by rfl, ?_⟩) (by assumption) ?_
                    rotate_left
                    · (intro W hSw; (try dsimp only at hSw); go_simp; try with_reducible rfl)
                    try simp only [Act.put, List.getElem_toArray, List.getElem_cons_succ, List.getElem_cons_zero, List.setIfInBounds_toArray, List.set_cons_zero, List.set_cons_succ]
                    refine wpAnyH_take (i := 37) (oi := _) (v := ?_) rfl (by kernel_rfl) (by kernel_rfl) (by kernel_rfl) (fun _ _ _ h => h) (Or.inl ⟨by rfl, ?_⟩) (by assumption) ?_
                    rotate_left
                    · (intro W hSw; (try dsimp only at hSw); go_simp; try with_reducible rfl)
                    try simp only [Act.put, List.getElem_toArray, List.getElem_cons_succ, List.getElem_cons_zero, List.setIfInBounds_toArray, List.set_cons_zero, List.set_cons_succ]
                    refine wpAnyH_take (i := 38) (oi := _) (v := ?_) rfl (by kernel_rfl) (by kernel_rfl) (by kernel_rfl) (fun _ _ _ h => h) (Or.inl ⟨by rfl, ?_⟩) (by assumption) ?_
                    rotate_left
                    · (intro W hSw; (try dsimp only at hSw); go_simp; try with_reducible rfl)
                    try simp only [Act.put, List.getElem_toArray, List.getElem_cons_succ, List.getElem_cons_zero, List.setIfInBounds_toArray, List.set_cons_zero, List.set_cons_succ]
                    refine wpAnyH_take (i := 39) (oi := _) (v := ?_) rfl (by kernel_rfl) (by kernel_rfl) (by kernel_rfl) (fun _ _ _ h => h) (Or.inl ⟨by rfl, ?_⟩) (by assumption) ?_
                    rotate_left
                    · (intro W hSw; (try dsimp only at hSw); go_simp; try with_reducible rfl)
                    try simp only [Act.put, List.getElem_toArray, List.getElem_cons_succ, List.getElem_cons_zero, List.setIfInBounds_toArray, List.set_cons_zero, List.set_cons_succ]
                    refine wpAnyH_ready (rs := [36, 40]) (by kernel_rfl) (by simp) ?_
                    refine AllReadyH.cons rfl (fun K hK => ?_) (AllReadyH.cons rfl (fun K hK => ?_) AllReadyH.nil)
                    · simp only [List.getElem_toArray, List.getElem_cons_succ, List.getElem_cons_zero]
                      rw [if_pos (by rfl)]
                      go_simp
                      (refine (HLE.out _ PW5.out.sh).mono ?_; rintro e w8 ⟨rfl, hs8, hO8⟩; have PW6 := Lib.hid (PW5.out.shard hs8 hO8); have q8 := PW6.out.q.cell.1; clear hs8 hO8)
                      go_wp2_with fail
                      refine hK.out _ _ (HSA.out _ PW6.out.bel) (fun hHeld => ?_)
                      clear hK K
                      try simp only [Act.put, List.getElem_toArray, List.getElem_cons_succ, List.getElem_cons_zero, List.setIfInBounds_toArray, List.set_cons_zero, List.set_cons_succ]
                      refine wpAnyH_ready (rs := [40]) (by kernel_rfl) (by simp) ?_
                      refine AllReadyH.cons rfl (fun K hK => ?_) AllReadyH.nil
                      · simp only [List.getElem_toArray, List.getElem_cons_succ, List.getElem_cons_zero]
                        rw [if_pos (by rfl)]
                        go_simp
                        refine hK.out _ _ (HSA.out _ PW6.out.bel) (fun hHeld => ?_)
                        clear hK K
                        try simp only [Act.put, List.getElem_toArray, List.getElem_cons_succ, List.getElem_cons_zero, List.setIfInBounds_toArray, List.set_cons_zero, List.set_cons_succ]
                        refine wpAnyH_take (i := 41) (oi := _) (v := ?_) rfl (by kernel_rfl) (by kernel_rfl) (by kernel_rfl) (fun _ _ _ h => h) (Or.inl ⟨by rfl, ?_⟩) (by assumption) ?_
                        rotate_left
                        · (intro W hSw; (try dsimp only at hSw); go_simp; try with_reducible rfl)
                        try simp only [Act.put, List.getElem_toArray, List.getElem_cons_succ, List.getElem_cons_zero, List.setIfInBounds_toArray, List.set_cons_zero, List.set_cons_succ]
                        refine wpAnyH_take (i := 42) (oi := _) (v := ?_) rfl (by kernel_rfl) (by kernel_rfl) (by kernel_rfl) (fun _ _ _ h => h) (Or.inl ⟨by rfl, ?_⟩) (by assumption) ?_
                        rotate_left
                        · (intro W hSw; (try dsimp only at hSw); go_simp; try with_reducible rfl)
                        try simp only [Act.put, List.getElem_toArray, List.getElem_cons_succ, List.getElem_cons_zero, List.setIfInBounds_toArray, List.set_cons_zero, List.set_cons_succ]
                        refine wpAnyH_take (i := 43) (oi := _) (v := ?_) rfl (by kernel_rfl) (by kernel_rfl) (by kernel_rfl) (fun _ _ _ h => h) (Or.inl ⟨by rfl, ?_⟩) (by assumption) ?_
                        rotate_left
                        · (intro W hSw; (try dsimp only at hSw); go_simp; try with_reducible rfl)
                        try simp only [Act.put, List.getElem_toArray, List.getElem_cons_succ, List.getElem_cons_zero, List.setIfInBounds_toArray, List.set_cons_zero, List.set_cons_succ]
                        refine wpAnyH_done (by kernel_rfl) ?_ _
                        go_wp2
                        go_meet
                        exact ⟨rfl, _, PW6.out⟩
                    · simp only [List.getElem_toArray, List.getElem_cons_succ, List.getElem_cons_zero]
                      rw [if_pos (by rfl)]
                      go_simp
                      refine hK.out _ _ (HSA.out _ PW5.out.bel) (fun hHeld => ?_)
                      clear hK K
                      try simp only [Act.put, List.getElem_toArray, List.getElem_cons_succ, List.getElem_cons_zero, List.setIfInBounds_toArray, List.set_cons_zero, List.set_cons_succ]
                      refine wpAnyH_take (i := 41) (oi := _) (v := ?_) rfl (by kernel_rfl) (by kernel_rfl) (by kernel_rfl) (fun _ _ _ h => h) (Or.inl ⟨by rfl, ?_⟩) (by assumption) ?_
                      rotate_left
                      · (intro W hSw; (try dsimp only at hSw); go_simp; try with_reducible rfl)
                      try simp only [Act.put, List.getElem_toArray, List.getElem_cons_succ, List.getElem_cons_zero, List.setIfInBounds_toArray, List.set_cons_zero, List.set_cons_succ]
                      refine wpAnyH_ready (rs := [36]) (by kernel_rfl) (by simp) ?_
                      refine AllReadyH.cons rfl (fun K hK => ?_) AllReadyH.nil
                      · simp only [List.getElem_toArray, List.getElem_cons_succ, List.getElem_cons_zero]
                        rw [if_pos (by rfl)]
                        go_simp
                        (refine (HLE.out _ PW5.out.sh).mono ?_; rintro e w8 ⟨rfl, hs8, hO8⟩; have PW6 := Lib.hid (PW5.out.shard hs8 hO8); have q8 := PW6.out.q.cell.1; clear hs8 hO8)
                        go_wp2_with fail
                        refine hK.out _ _ (HSA.out _ PW6.out.bel) (fun hHeld => ?_)
                        clear hK K
                        try simp only [Act.put, List.getElem_toArray, List.getElem_cons_succ, List.getElem_cons_zero, List.setIfInBounds_toArray, List.set_cons_zero, List.set_cons_succ]
                        refine wpAnyH_take (i := 42) (oi := _) (v := ?_) rfl (by kernel_rfl) (by kernel_rfl) (by kernel_rfl) (fun _ _ _ h => h) (Or.inl ⟨by rfl, ?_⟩) (by assumption) ?_
                        rotate_left
                        · (intro W hSw; (try dsimp only at hSw); go_simp; try with_reducible rfl)
                        try simp only [Act.put, List.getElem_toArray, List.getElem_cons_succ, List.getElem_cons_zero, List.setIfInBounds_toArray, List.set_cons_zero, List.set_cons_succ]
                        refine wpAnyH_take (i := 43) (oi := _) (v := ?_) rfl (by kernel_rfl) (by kernel_rfl) (by kernel_rfl) (fun _ _ _ h => h) (Or.inl ⟨by rfl, ?_⟩) (by assumption) ?_
                        rotate_left
                        · (intro W hSw; (try dsimp only at hSw); go_simp; try with_reducible rfl)
                        try simp only [Act.put, List.getElem_toArray, List.getElem_cons_succ, List.getElem_cons_zero, List.setIfInBounds_toArray, List.set_cons_zero, List.set_cons_succ]
                        refine wpAnyH_done (by kernel_rfl) ?_ _
                        go_wp2
                        go_meet
                        exact ⟨rfl, _, PW6.out⟩
              · simp only [List.getElem_toArray, List.getElem_cons_succ, List.getElem_cons_zero]
                rw [if_pos (by rfl)]
                go_simp
                refine hK.out _ _ (HSA.out _ PW3.out.bel) (fun hHeld => ?_)
                clear hK K
                try simp only [Act.put, List.getElem_toArray, List.getElem_cons_succ, List.getElem_cons_zero, List.setIfInBounds_toArray, List.set_cons_zero, List.set_cons_succ]
                refine wpAnyH_ready (rs := [26]) (by kernel_rfl) (by simp) ?_
                refine AllReadyH.cons rfl (fun K hK => ?_) AllReadyH.nil
                · simp only [List.getElem_toArray, List.getElem_cons_succ, List.getElem_cons_zero]
                  rw [if_pos (by rfl)]
                  go_simp
                  (refine (HSN.out _ PW3.out.sh).mono ?_; rintro e w6 ⟨v6, ls6, rfl, hr6, hp6, hw6, hs6, hO6⟩; have pw4 := PW3.out.shard hs6 hO6; obtain ⟨A6, c6, hv6⟩ := hr6.form; subst hv6; have hls6 := sorted_eq HM'.out.2.1 hp6 HM'.out.1.perm hw6 HM'.out.1.pw; subst hls6; have q6 := pw4.q.cell.1; have PW4 := Lib.hid pw4; have HR6 := Lib.hid hr6; clear hr6 hp6 hw6 hs6 hO6 pw4)
                  go_wp2_with fail
                  refine hK.out _ _ (HSA.out _ PW4.out.bel) (fun hHeld => ?_)
                  clear hK K
                  try simp only [Act.put, List.getElem_toArray, List.getElem_cons_succ, List.getElem_cons_zero, List.setIfInBounds_toArray, List.set_cons_zero, List.set_cons_succ]
                  refine wpAnyH_ready (rs := [31]) (by kernel_rfl) (by simp) ?_
                  refine AllReadyH.cons rfl (fun K hK => ?_) AllReadyH.nil
                  · simp only [List.getElem_toArray, List.getElem_cons_succ, List.getElem_cons_zero]
                    rw [if_pos (by rfl)]
                    go_simp
                    (refine (same_en _ _ _ _ _ _ HL5.out HR6.out PW4.out.q.rowE).mono ?_; rintro e w7 ⟨rfl, hb7⟩; have PW5 := Lib.hid (PW4.out.below hb7); have q7 := PW5.out.q.cell.1; clear hb7)
                    go_wp2_with fail
                    refine hK.out _ _ (HSA.out _ PW5.out.bel) (fun hHeld => ?_)
                    clear hK K
                    try simp only [Act.put, List.getElem_toArray, List.getElem_cons_succ, List.getElem_cons_zero, List.setIfInBounds_toArray, List.set_cons_zero, List.set_cons_succ]
                    refine wpAnyH_take (i := 32) (oi := _) (v := ?_) rfl (by kernel_rfl) (by kernel_rfl) (by kernel_rfl) (fun _ _ _ h => h) (Or.inl ⟨by rfl, ?_⟩) (by assumption) ?_
                    rotate_left
                    · (intro W hSw; (try dsimp only at hSw); go_simp; try with_reducible rfl)
                    try simp only [Act.put, List.getElem_toArray, List.getElem_cons_succ, List.getElem_cons_zero, List.setIfInBounds_toArray, List.set_cons_zero, List.set_cons_succ]
                    refine wpAnyH_take (i := 33) (oi := _) (v := ?_) rfl (by kernel_rfl) (by kernel_rfl) (by kernel_rfl) (fun _ _ _ h => h) (Or.inl ⟨by rfl, ?_⟩) (by assumption) ?_
                    rotate_left
                    · (intro W hSw; (try dsimp only at hSw); go_simp; try with_reducible rfl)
                    try simp only [Act.put, List.getElem_toArray, List.getElem_cons_succ, List.getElem_cons_zero, List.setIfInBounds_toArray, List.set_cons_zero, List.set_cons_succ]
                    refine wpAnyH_take (i := 34) (oi := _) (v := ?_) rfl (by kernel_rfl) (by kernel_rfl) (by kernel_rfl) (fun _ _ _ h => h) (Or.inl ⟨by rfl, ?_⟩) (by assumption) ?_
                    rotate_left
                    · (intro W hSw; (try dsimp only at hSw); go_simp; try with_reducible rfl)
                    try simp only [Act.put, List.getElem_toArray, List.getElem_cons_succ, List.getElem_cons_zero, List.setIfInBounds_toArray, List.set_cons_zero, List.set_cons_succ]
                    refine wpAnyH_take (i := 35) (oi := _) (v := ?_) rfl (by kernel_rfl) (by kernel_rfl) (by kernel_rfl) (fun _ _ _ h => h) (Or.inl ⟨by rfl, ?_⟩) (by assumption) ?_
                    rotate_left
                    · (intro W hSw; (try dsimp only at hSw); go_simp; try with_reducible rfl)
                    try simp only [Act.put, List.getElem_toArray, List.getElem_cons_succ, List.getElem_cons_zero, List.setIfInBounds_toArray, List.set_cons_zero, List.set_cons_succ]
                    refine wpAnyH_take (i := 37) (oi := _) (v := ?_) rfl (by kernel_rfl) (by kernel_rfl) (by kernel_rfl) (fun _ _ _ h => h) (Or.inl ⟨by rfl, ?_⟩) (by assumption) ?_
                    rotate_left
                    · (intro W hSw; (try dsimp only at hSw); go_simp; try with_reducible rfl)
                    try simp only [Act.put, List.getElem_toArray, List.getElem_cons_succ, List.getElem_cons_zero, List.setIfInBounds_toArray, List.set_cons_zero, List.set_cons_succ]
                    refine wpAnyH_take (i := 38) (oi := _) (v := ?_) rfl (by kernel_rfl) (by kernel_rfl) (by kernel_rfl) (fun _ _ _ h => h) (Or.inl ⟨by rfl, ?_⟩) (by assumption) ?_
                    rotate_left
                    · (intro W hSw; (try dsimp only at hSw); go_simp; try with_reducible rfl)
                    try simp only [Act.put, List.getElem_toArray, List.getElem_cons_succ, List.getElem_cons_zero, List.setIfInBounds_toArray, List.set_cons_zero, List.set_cons_succ]
                    refine wpAnyH_take (i := 39) (oi := _) (v := ?_) rfl (by kernel_rfl) (by kernel_rfl) (by kernel_rfl) (fun _ _ _ h => h) (Or.inl ⟨by rfl, ?_⟩) (by assumption) ?_
                    rotate_left
                    · (intro W hSw; (try dsimp only at hSw); go_simp; try with_reducible rfl)
                    try simp only [Act.put, List.getElem_toArray, List.getElem_cons_succ, List.getElem_cons_zero, List.setIfInBounds_toArray, List.set_cons_zero, List.set_cons_succ]
                    refine wpAnyH_ready (rs := [36, 40]) (by kernel_rfl) (by simp) ?_
                    refine AllReadyH.cons rfl (fun K hK => ?_) (AllReadyH.cons rfl (fun K hK => ?_) AllReadyH.nil)
                    · simp only [List.getElem_toArray, List.getElem_cons_succ, List.getElem_cons_zero]
                      rw [if_pos (by rfl)]
                      go_simp
                      (refine (HLE.out _ PW5.out.sh).mono ?_; rintro e w8 ⟨rfl, hs8, hO8⟩; have PW6 := Lib.hid (PW5.out.shard hs8 hO8); have q8 := PW6.out.q.cell.1; clear hs8 hO8)
                      go_wp2_with fail
                      refine hK.out _ _ (HSA.out _ PW6.out.bel) (fun hHeld => ?_)
                      clear hK K
                      try simp only [Act.put, List.getElem_toArray, List.getElem_cons_succ, List.getElem_cons_zero, List.setIfInBounds_toArray, List.set_cons_zero, List.set_cons_succ]
                      refine wpAnyH_ready (rs := [40]) (by kernel_rfl) (by simp) ?_
                      refine AllReadyH.cons rfl (fun K hK => ?_) AllReadyH.nil
                      · simp only [List.getElem_toArray, List.getElem_cons_succ, List.getElem_cons_zero]
                        rw [if_pos (by rfl)]
                        go_simp
                        refine hK.out _ _ (HSA.out _ PW6.out.bel) (fun hHeld => ?_)
                        clear hK K
                        try simp only [Act.put, List.getElem_toArray, List.getElem_cons_succ, List.getElem_cons_zero, List.setIfInBounds_toArray, List.set_cons_zero, List.set_cons_succ]
                        refine wpAnyH_take (i := 41) (oi := _) (v := ?_) rfl (by kernel_rfl) (by kernel_rfl) (by kernel_rfl) (fun _ _ _ h => h) (Or.inl ⟨by rfl, ?_⟩) (by assumption) ?_
                        rotate_left
                        · (intro W hSw; (try dsimp only at hSw); go_simp; try with_reducible rfl)
                        try simp only [Act.put, List.getElem_toArray, List.getElem_cons_succ, List.getElem_cons_zero, List.setIfInBounds_toArray, List.set_cons_zero, List.set_cons_succ]
                        refine wpAnyH_take (i := 42) (oi := _) (v := ?_) rfl (by kernel_rfl) (by kernel_rfl) (by kernel_rfl) (fun _ _ _ h => h) (Or.inl ⟨by rfl, ?_⟩) (by assumption) ?_
                        rotate_left
                        · (intro W hSw; (try dsimp only at hSw); go_simp; try with_reducible rfl)
                        try simp only [Act.put, List.getElem_toArray, List.getElem_cons_succ, List.getElem_cons_zero, List.setIfInBounds_toArray, List.set_cons_zero, List.set_cons_succ]
                        refine wpAnyH_take (i := 43) (oi := _) (v := ?_) rfl (by kernel_rfl) (by kernel_rfl) (by kernel_rfl) (fun _ _ _ h => h) (Or.inl ⟨by rfl, ?_⟩) (by assumption) ?_
                        rotate_left
                        · (intro W hSw; (try dsimp only at hSw); go_simp; try with_reducible rfl)
                        try simp only [Act.put, List.getElem_toArray, List.getElem_cons_succ, List.getElem_cons_zero, List.setIfInBounds_toArray, List.set_cons_zero, List.set_cons_succ]
                        refine wpAnyH_done (by kernel_rfl) ?_ _
                        go_wp2
                        go_meet
                        exact ⟨rfl, _, PW6.out⟩
                    · simp only [List.getElem_toArray, List.getElem_cons_succ, List.getElem_cons_zero]
                      rw [if_pos (by rfl)]
                      go_simp
                      refine hK.out _ _ (HSA.out _ PW5.out.bel) (fun hHeld => ?_)
                      clear hK K
                      try simp only [Act.put, List.getElem_toArray, List.getElem_cons_succ, List.getElem_cons_zero, List.setIfInBounds_toArray, List.set_cons_zero, List.set_cons_succ]
                      refine wpAnyH_take (i := 41) (oi := _) (v := ?_) rfl (by kernel_rfl) (by kernel_rfl) (by kernel_rfl) (fun _ _ _ h => h) (Or.inl ⟨by rfl, ?_⟩) (by assumption) ?_
                      rotate_left
                      · (intro W hSw; (try dsimp only at hSw); go_simp; try with_reducible rfl)
                      try simp only [Act.put, List.getElem_toArray, List.getElem_cons_succ, List.getElem_cons_zero, List.setIfInBounds_toArray, List.set_cons_zero, List.set_cons_succ]
                      refine wpAnyH_ready (rs := [36]) (by kernel_rfl) (by simp) ?_
                      refine AllReadyH.cons rfl (fun K hK => ?_) AllReadyH.nil
                      · simp only [List.getElem_toArray, List.getElem_cons_succ, List.getElem_cons_zero]
                        rw [if_pos (by rfl)]
                        go_simp
                        (refine (HLE.out _ PW5.out.sh).mono ?_; rintro e w8 ⟨rfl, hs8, hO8⟩; have PW6 := Lib.hid (PW5.out.shard hs8 hO8); have q8 := PW6.out.q.cell.1; clear hs8 hO8)
                        go_wp2_with fail
                        refine hK.out _ _ (HSA.out _ PW6.out.bel) (fun hHeld => ?_)
                        clear hK K
                        try simp only [Act.put, List.getElem_toArray, List.getElem_cons_succ, List.getElem_cons_zero, List.setIfInBounds_toArray, List.set_cons_zero, List.set_cons_succ]
                        refine wpAnyH_take (i := 42) (oi := _) (v := ?_) rfl (by kernel_rfl) (by kernel_rfl) (by kernel_rfl) (fun _ _ _ h => h) (Or.inl ⟨by rfl, ?_⟩) (by assumption) ?_
                        rotate_left
                        · (intro W hSw; (try dsimp only at hSw); go_simp; try with_reducible rfl)
                        try simp only [Act.put, List.getElem_toArray, List.getElem_cons_succ, List.getElem_cons_zero, List.setIfInBounds_toArray, List.set_cons_zero, List.set_cons_succ]
                        refine wpAnyH_take (i := 43) (oi := _) (v := ?_) rfl (by kernel_rfl) (by kernel_rfl) (by kernel_rfl) (fun _ _ _ h => h) (Or.inl ⟨by rfl, ?_⟩) (by assumption) ?_
                        rotate_left
                        · (intro W hSw; (try dsimp only at hSw); go_simp; try with_reducible rfl)
                        try simp only [Act.put, List.getElem_toArray, List.getElem_cons_succ, List.getElem_cons_zero, List.setIfInBounds_toArray, List.set_cons_zero, List.set_cons_succ]
                        refine wpAnyH_done (by kernel_rfl) ?_ _
                        go_wp2
                        go_meet
                        exact ⟨rfl, _, PW6.out⟩

      obtain ⟨rfl, vv, hpw⟩ := hcut
      have hlk := HM'.out.1.look HM'.out.2.1 ⟨qc, qk, qs'⟩
      obtain ⟨Av, cv, hvv⟩ := hpw.q.form
      subst hvv
      have HP := Lib.hid hpw
      clear hpw hPW0 HD HKD HDO HSN HLE
      rcases hlk with ⟨hen, hqf⟩ | ⟨j, hj, hqf, hen⟩
      · have hg := sget_full S B room l' c' ⟨qc, qk, qs'⟩ wc HP.out.sh
        rw [hen, show (none : Option En).getD en0 = en0 from rfl, show (none : Option En).isSome = false from rfl] at hg
        have hne := fun W => neq_en en0 en0 W
        simp only [decide_true, Bool.not_true] at hne
        unfold en0 En.cells at hg hne
        unfold K3.val at hg
        dsimp only at hg hne
        have HG := Lib.hid hg
        clear hg
        obtain ⟨c0, c1, c2, c3, c4⟩ := HSA.out wc HP.out.bel
        go_wp2_with fail
        refine HG.out.mono ?_
        rintro _ w10 ⟨rfl, hs10, hO10⟩
        have PW10 := Lib.hid (HP.out.shard hs10 hO10)
        have PW11 := Lib.hid (PW10.out.alloc (.cells #[.int .i64 0, .int .i64 0, .int .u64 0, .int .i64 0, .int .i64 0] TEn))
        have hx := heap_alloc_new w10 (.cells #[.int .i64 0, .int .i64 0, .int .u64 0, .int .i64 0, .int .i64 0] TEn)
        clear HG hs10 hO10 c0 c1 c2 c3 c4
        go_upto_region 15 with fail
        obtain ⟨w11, hw11⟩ : ∃ V, V = w10.alloc (.cells #[.int .i64 0, .int .i64 0, .int .u64 0, .int .i64 0, .int .i64 0] TEn) := ⟨_, rfl⟩
        obtain ⟨Xb, hXb⟩ : ∃ X, X = w10.heap.size := ⟨_, rfl⟩
        rw [← hw11] at PW11 hx ⊢
        rw [← hXb] at hx ⊢
        clear hw11 hXb
        have hf := find_any Q room (.slice Av ls'.length cv) ls' ⟨qc, qk, qs'⟩ w11 PW11.out.q HL5.out
        rw [hqf] at hf
        unfold K3.val at hf
        dsimp only at hf
        have HF := Lib.hid hf
        have HX := Lib.hid hx
        clear hf hx hqf
        obtain ⟨c0, c1, c2, c3, c4⟩ := HSA.out w11 PW11.out.bel
        go_wp2_with fail
        refine HF.out.mono ?_
        rintro _ w12 ⟨rfl, hb12⟩
        have hx12 : w12.heap[Xb]? = some (.cells #[.int .i64 0, .int .i64 0, .int .u64 0, .int .i64 0, .int .i64 0] TEn) := (hb12.block Xb (Array.getElem?_eq_some_iff.1 HX.out).1).trans HX.out
        have PW12 := Lib.hid (PW11.out.below hb12)
        have x0 := cell_of_row w12 Xb 0 _ _ (0, 0) hx12
        have x1 := cell_of_row w12 Xb 1 _ _ (0, 0) hx12
        have x2 := cell_of_row w12 Xb 2 _ _ (0, 0) hx12
        have x3 := cell_of_row w12 Xb 3 _ _ (0, 0) hx12
        have x4 := cell_of_row w12 Xb 4 _ _ (0, 0) hx12
        have q0 := PW12.out.q.cell.1
        clear HF HX hb12 hx12 c0 c1 c2 c3 c4
        go_upto_region 16 with fail
        go_quiet (fail)
        go_wp2
        go_roundw
        case rel => exact ⟨i + 1, l', c', _, ls', by go_num, by omega, PW12.out.drewN _, HM'.out⟩
        case measure => simp [intOf]; omega
      · have hg := sget_full S B room l' c' ⟨qc, qk, qs'⟩ wc HP.out.sh
        rw [hen, show (some (ls'[j]'hj)).getD en0 = ls'[j]'hj from rfl, show (some (ls'[j]'hj)).isSome = true from rfl] at hg
        have hne := fun W => neq_en (ls'[j]'hj) (ls'[j]'hj) W
        simp only [decide_true, Bool.not_true] at hne
        have HEA := Lib.hid (fun V (h : QI V Q room (.slice Av ls'.length cv) ls') => h.rowE.at j hj)
        have hj0 : (0 : Int) ≤ (j : Int) := by omega
        have hj1 : (j : Int) < (ls'.length : Int) := by omega
        clear hen
        generalize ls'[j]'hj = m at hg hne HEA
        obtain ⟨⟨mc, mf, ms⟩, mst, mow⟩ := m
        unfold En.cells at hg hne
        unfold K3.val at hg
        dsimp only at hg hne
        have HG := Lib.hid hg
        clear hg
        obtain ⟨c0, c1, c2, c3, c4⟩ := HSA.out wc HP.out.bel
        go_wp2_with fail
        refine HG.out.mono ?_
        rintro _ w10 ⟨rfl, hs10, hO10⟩
        have PW10 := Lib.hid (HP.out.shard hs10 hO10)
        have PW11 := Lib.hid (PW10.out.alloc (.cells #[.int .i64 mc, .int .i64 mf, .int .u64 ms, .int .i64 mst, .int .i64 mow] TEn))
        have hx := heap_alloc_new w10 (.cells #[.int .i64 mc, .int .i64 mf, .int .u64 ms, .int .i64 mst, .int .i64 mow] TEn)
        clear HG hs10 hO10 c0 c1 c2 c3 c4
        go_upto_region 15 with fail
        obtain ⟨w11, hw11⟩ : ∃ V, V = w10.alloc (.cells #[.int .i64 mc, .int .i64 mf, .int .u64 ms, .int .i64 mst, .int .i64 mow] TEn) := ⟨_, rfl⟩
        obtain ⟨Xb, hXb⟩ : ∃ X, X = w10.heap.size := ⟨_, rfl⟩
        rw [← hw11] at PW11 hx ⊢
        rw [← hXb] at hx ⊢
        clear hw11 hXb
        have hf := find_any Q room (.slice Av ls'.length cv) ls' ⟨qc, qk, qs'⟩ w11 PW11.out.q HL5.out
        rw [hqf] at hf
        unfold K3.val at hf
        dsimp only at hf
        have HF := Lib.hid hf
        have HX := Lib.hid hx
        clear hf hx hqf
        obtain ⟨c0, c1, c2, c3, c4⟩ := HSA.out w11 PW11.out.bel
        go_wp2_with fail
        refine HF.out.mono ?_
        rintro _ w12 ⟨rfl, hb12⟩
        have hx12 : w12.heap[Xb]? = some (.cells #[.int .i64 mc, .int .i64 mf, .int .u64 ms, .int .i64 mst, .int .i64 mow] TEn) := (hb12.block Xb (Array.getElem?_eq_some_iff.1 HX.out).1).trans HX.out
        have PW12 := Lib.hid (PW11.out.below hb12)
        have x0 := cell_of_row w12 Xb 0 _ _ (0, 0) hx12
        have x1 := cell_of_row w12 Xb 1 _ _ (0, 0) hx12
        have x2 := cell_of_row w12 Xb 2 _ _ (0, 0) hx12
        have x3 := cell_of_row w12 Xb 3 _ _ (0, 0) hx12
        have x4 := cell_of_row w12 Xb 4 _ _ (0, 0) hx12
        have q0 := PW12.out.q.cell.1
        clear HF HX hb12 hx12 c0 c1 c2 c3 c4
        obtain ⟨g, c1, hv, _, _, he⟩ := HEA.out w12 PW12.out.q
        injection hv with hv hv1 hv2
        clear hv1
        subst hv hv2
        obtain ⟨e0, e1, e2, e3, e4⟩ := he
        dsimp only at e0 e1 e2 e3 e4
        clear HEA
        go_upto_region 16 with fail
        go_quiet (fail)
        go_wp2
        go_roundw
        case rel => exact ⟨i + 1, l', c', _, ls', by go_num, by omega, PW12.out.drewN _, HM'.out⟩
        case measure => simp [intOf]; omega
    · obtain rfl : i = len := by omega
      have hawk := fun V => awake_any V
      go_wp2_with (refine (hawk _).mono ?_; rintro _ w9 ⟨rfl, b9⟩)
      go_ret
      exact ⟨rfl, HO.out.bel.trans (b9.mono HO.out.bel.size)⟩
end Go.Proofs.Ytmdjhcpafjgigaa.Mk
