import Derived.Test.YtdljphbfbiganaaGreatDoorShaOf
import Derived.Test.YtdljphbfbiganaaGreatDoorShaPage
import Derived.Test.YtdljphbfbiganaaGreatDoorGShaVals
/- The sum of all bytes, by the page. -/
namespace Go.Proofs.YtdljphbfbiganaaGreatDoor.Sha
open Go Go.RowKit

set_option maxRecDepth 100000 in
set_option maxHeartbeats 4000000 in
theorem rof_any (s : ByteArray) (hs : s.size ≤ 1000000) (w : World) :
    Calls Tryz.prog 30 #[.string s] w
      fun r w' => r = .returned (.agg #[.int .u8 (((ofSt s).a.toNat : Int) / 16777216), .int .u8 (((ofSt s).a.toNat : Int) / 65536 % 256), .int .u8 (((ofSt s).a.toNat : Int) / 256 % 256), .int .u8 (((ofSt s).a.toNat : Int) % 256), .int .u8 (((ofSt s).b.toNat : Int) / 16777216), .int .u8 (((ofSt s).b.toNat : Int) / 65536 % 256), .int .u8 (((ofSt s).b.toNat : Int) / 256 % 256), .int .u8 (((ofSt s).b.toNat : Int) % 256), .int .u8 (((ofSt s).c.toNat : Int) / 16777216), .int .u8 (((ofSt s).c.toNat : Int) / 65536 % 256), .int .u8 (((ofSt s).c.toNat : Int) / 256 % 256), .int .u8 (((ofSt s).c.toNat : Int) % 256), .int .u8 (((ofSt s).d.toNat : Int) / 16777216), .int .u8 (((ofSt s).d.toNat : Int) / 65536 % 256), .int .u8 (((ofSt s).d.toNat : Int) / 256 % 256), .int .u8 (((ofSt s).d.toNat : Int) % 256), .int .u8 (((ofSt s).e.toNat : Int) / 16777216), .int .u8 (((ofSt s).e.toNat : Int) / 65536 % 256), .int .u8 (((ofSt s).e.toNat : Int) / 256 % 256), .int .u8 (((ofSt s).e.toNat : Int) % 256), .int .u8 (((ofSt s).f.toNat : Int) / 16777216), .int .u8 (((ofSt s).f.toNat : Int) / 65536 % 256), .int .u8 (((ofSt s).f.toNat : Int) / 256 % 256), .int .u8 (((ofSt s).f.toNat : Int) % 256), .int .u8 (((ofSt s).g.toNat : Int) / 16777216), .int .u8 (((ofSt s).g.toNat : Int) / 65536 % 256), .int .u8 (((ofSt s).g.toNat : Int) / 256 % 256), .int .u8 (((ofSt s).g.toNat : Int) % 256), .int .u8 (((ofSt s).h.toNat : Int) / 16777216), .int .u8 (((ofSt s).h.toNat : Int) / 65536 % 256), .int .u8 (((ofSt s).h.toNat : Int) / 256 % 256), .int .u8 (((ofSt s).h.toNat : Int) % 256)]) ∧ Below w.heap.size w w' := by
  obtain ⟨N, hA, hNd, hAle⟩ := whole_size s
  have hof : ofSt s = blocks (whole s).data.toList N := by unfold ofSt; rw [← hNd]
  have hwh : whole s = s ++ padS s.size := rfl
  have hpsz := padS_size s.size
  have hno : noughts s.size ≤ 63 := by unfold noughts; omega
  have hadd : s.size + (padS s.size).size ≤ 9223372036854775807 := by omega
  generalize hPS : padS s.size = PS at hadd hwh hpsz
  have hpd := fun W => rpad_any s.size (by omega) W
  rw [show padS s.size = PS from hPS] at hpd
  have HPd := Lib.hid hpd
  have HWh := Lib.hid hwh
  have HOf := Lib.hid hof
  clear hof hwh hpd hPS hpsz hno
  have HA := Lib.hid hA
  clear hA hNd
  go_enter Tryz.func30, Tryz.ntmps30
  go_wp2_with fail
  refine (HPd.out _).mono ?_
  rintro e w2 ⟨rfl, hb2⟩
  have hR2 : w2.heap[w.heap.size]? = some (.cells #[.int .u8 0, .int .u8 0, .int .u8 0, .int .u8 0, .int .u8 0, .int .u8 0, .int .u8 0, .int .u8 0, .int .u8 0, .int .u8 0, .int .u8 0, .int .u8 0, .int .u8 0, .int .u8 0, .int .u8 0, .int .u8 0, .int .u8 0, .int .u8 0, .int .u8 0, .int .u8 0, .int .u8 0, .int .u8 0, .int .u8 0, .int .u8 0, .int .u8 0, .int .u8 0, .int .u8 0, .int .u8 0, .int .u8 0, .int .u8 0, .int .u8 0, .int .u8 0] 57 (0, 0)) := (hb2.block _ (by simp)).trans Array.getElem?_push_size
  have hB2 : Below w.heap.size w w2 := ((Below.refl _ _).alloc (Nat.le_refl _) _).trans (hb2.mono (by simp))
  clear hb2
  go_wp2_with fail
  rw [← HWh.out]
  refine (rstart_any _).mono ?_
  rintro e w3 ⟨rfl, hw3⟩
  have hz2 := (Array.getElem?_eq_some_iff.1 hR2).1
  have hR3 : w3.heap[w.heap.size]? = some (.cells #[.int .u8 0, .int .u8 0, .int .u8 0, .int .u8 0, .int .u8 0, .int .u8 0, .int .u8 0, .int .u8 0, .int .u8 0, .int .u8 0, .int .u8 0, .int .u8 0, .int .u8 0, .int .u8 0, .int .u8 0, .int .u8 0, .int .u8 0, .int .u8 0, .int .u8 0, .int .u8 0, .int .u8 0, .int .u8 0, .int .u8 0, .int .u8 0, .int .u8 0, .int .u8 0, .int .u8 0, .int .u8 0, .int .u8 0, .int .u8 0, .int .u8 0, .int .u8 0] 57 (0, 0)) := by rw [hw3, Below.heap_alloc _ _ _ hz2]; exact hR2
  have hS3 : w3.heap[w2.heap.size]? = some (.cells #[.int .u32 (start.a.toNat : Int), .int .u32 (start.b.toNat : Int), .int .u32 (start.c.toNat : Int), .int .u32 (start.d.toNat : Int), .int .u32 (start.e.toNat : Int), .int .u32 (start.f.toNat : Int), .int .u32 (start.g.toNat : Int), .int .u32 (start.h.toNat : Int)] 85 (0, 0)) := by rw [hw3]; exact Array.getElem?_push_size
  have hB3 : Below w.heap.size w w3 := by rw [hw3]; exact hB2.alloc (Nat.le_of_lt hz2) _
  clear hw3 hR2 hB2
  generalize w2.heap.size = G0 at *
  generalize hAl : whole s = AL at *
  have HAl := Lib.hid hAl
  clear hAl
  have hAL1 : AL.size ≤ 1000072 := by omega
  go_wp2_with fail
  go_loopw [4, 5] (fun v i wr => ∃ (k g : Nat) (cs : Array Value), k ≤ N ∧ i = .int .i64 ((64 * k : Nat) : Int) ∧ v = .slice (some ⟨g, 0, none⟩) 8 8 ∧ wr.heap[g]? = some (.cells cs 85 (0, 0)) ∧ First8 cs (blocks AL.data.toList k) ∧ wr.heap[w.heap.size]? = some (.cells #[.int .u8 0, .int .u8 0, .int .u8 0, .int .u8 0, .int .u8 0, .int .u8 0, .int .u8 0, .int .u8 0, .int .u8 0, .int .u8 0, .int .u8 0, .int .u8 0, .int .u8 0, .int .u8 0, .int .u8 0, .int .u8 0, .int .u8 0, .int .u8 0, .int .u8 0, .int .u8 0, .int .u8 0, .int .u8 0, .int .u8 0, .int .u8 0, .int .u8 0, .int .u8 0, .int .u8 0, .int .u8 0, .int .u8 0, .int .u8 0, .int .u8 0, .int .u8 0] 57 (0, 0)) ∧ Below w.heap.size w wr) (fun _ i _ => AL.size + 64 - (intOf i).toNat)
  case atStart => exact ⟨0, G0, _, Nat.zero_le _, rfl, rfl, hS3, First8.arr start, hR3, hB3⟩
  case round =>
    obtain ⟨k, g, cs, hk, rfl, rfl, hg, hf, hR, hB⟩ := hrel
    clear hR3 hS3 hB3
    have HG := Lib.hid hg
    have HF := Lib.hid hf
    have HR := Lib.hid hR
    clear hg hf hR
    have hAN : AL.size = 64 * N := HA.out
    rcases Nat.lt_or_ge k N with hlt | hge
    · have h1 : ((64 * k : Nat) : Int) + 64 ≤ (AL.size : Int) := by omega
      have h2 : ((64 * k : Nat) : Int) + 64 = ((64 * (k + 1) : Nat) : Int) := by omega
      have hsz : (AL.extract (64 * k) (64 * k + 64)).size = 64 := by simp [ByteArray.size_extract]; omega
      have hbl : (AL.extract (64 * k) (64 * k + 64)).data.toList = (AL.data.toList.drop (64 * k)).take 64 := by
        rw [Lib.extract_data, show 64 * k + 64 - 64 * k = 64 by omega]
      have hbn : blocks AL.data.toList (k + 1) = turn (blocks AL.data.toList k) ((AL.data.toList.drop (64 * k)).take 64) := rfl
      rw [← hbl] at hbn
      have HTu := Lib.hid (rturn_any (blocks AL.data.toList k) (AL.extract (64 * k) (64 * k + 64)) hsz g 8 wr cs HG.out HF.out)
      have HBn := Lib.hid hbn
      clear hbn hbl hsz hAN
      go_wp2_with fail
      refine HTu.out.mono ?_
      rintro e w5 ⟨g5, rfl, hg5, hb5⟩
      have HG5 := Lib.hid hg5
      have HR5 := Lib.hid ((hb5.block _ ((Array.getElem?_eq_some_iff.1 HR.out).1)).trans HR.out)
      have HB5 := Lib.hid (hB.trans (hb5.mono hB.size))
      clear hg5 hb5
      go_wp2
      go_roundw
      case rel => exact ⟨k + 1, g5, _, hlt, by rw [show ((64 * (k + 1) : Nat) : Int) = 64 * (k : Int) + 64 by omega], rfl, HG5.out, by rw [HBn.out]; exact First8.arr _, HR5.out, HB5.out⟩
      case measure => simp [intOf]; omega
    · have hkN : k = N := by omega
      subst hkN
      have hkb : (k : Int) ≤ 20000 := by omega
      have hkb2 : (0 : Int) ≤ (k : Int) := by omega
      have h1 : ¬ (64 * (k : Int) + 64 ≤ (AL.size : Int)) := by omega
      have h3 : (AL.size : Int) < 64 * (k : Int) + 64 := by omega
      have hst : ofSt s = blocks AL.data.toList k := HOf.out
      generalize blocks AL.data.toList k = S at hst HF
      have HSt := Lib.hid hst
      obtain ⟨c0, c1, c2, c3, c4, c5, c6, c7⟩ := cellsX HG.out HF.out
      have hz := (Array.getElem?_eq_some_iff.1 HG.out).1
      have hzR := (Array.getElem?_eq_some_iff.1 HR.out).1
      have HB := Lib.hid hB
      clear hst hB hge hk hAN
      go_wp2_with fail
      refine wp_loop_rounds 9 ?_
      rw [rounds_succ]
      go_wp2_with fail
      rw [rounds_succ]
      go_wp2_with fail
      rw [rounds_succ]
      go_wp2_with fail
      rw [rounds_succ]
      go_wp2_with fail
      rw [rounds_succ]
      go_wp2_with fail
      rw [rounds_succ]
      go_wp2_with fail
      rw [rounds_succ]
      go_wp2_with fail
      rw [rounds_succ]
      go_wp2_with fail
      rw [rounds_succ]
      go_upto_region 15 with fail
      obtain ⟨C, hC⟩ : ∃ C : Array Value, C = #[.int .u8 ((S.a.toNat : Int) / 16777216), .int .u8 ((S.a.toNat : Int) / 65536 % 256), .int .u8 ((S.a.toNat : Int) / 256 % 256), .int .u8 ((S.a.toNat : Int) % 256), .int .u8 ((S.b.toNat : Int) / 16777216), .int .u8 ((S.b.toNat : Int) / 65536 % 256), .int .u8 ((S.b.toNat : Int) / 256 % 256), .int .u8 ((S.b.toNat : Int) % 256), .int .u8 ((S.c.toNat : Int) / 16777216), .int .u8 ((S.c.toNat : Int) / 65536 % 256), .int .u8 ((S.c.toNat : Int) / 256 % 256), .int .u8 ((S.c.toNat : Int) % 256), .int .u8 ((S.d.toNat : Int) / 16777216), .int .u8 ((S.d.toNat : Int) / 65536 % 256), .int .u8 ((S.d.toNat : Int) / 256 % 256), .int .u8 ((S.d.toNat : Int) % 256), .int .u8 ((S.e.toNat : Int) / 16777216), .int .u8 ((S.e.toNat : Int) / 65536 % 256), .int .u8 ((S.e.toNat : Int) / 256 % 256), .int .u8 ((S.e.toNat : Int) % 256), .int .u8 ((S.f.toNat : Int) / 16777216), .int .u8 ((S.f.toNat : Int) / 65536 % 256), .int .u8 ((S.f.toNat : Int) / 256 % 256), .int .u8 ((S.f.toNat : Int) % 256), .int .u8 ((S.g.toNat : Int) / 16777216), .int .u8 ((S.g.toNat : Int) / 65536 % 256), .int .u8 ((S.g.toNat : Int) / 256 % 256), .int .u8 ((S.g.toNat : Int) % 256), .int .u8 ((S.h.toNat : Int) / 16777216), .int .u8 ((S.h.toNat : Int) / 65536 % 256), .int .u8 ((S.h.toNat : Int) / 256 % 256), .int .u8 ((S.h.toNat : Int) % 256)] := ⟨_, rfl⟩
      rw [← hC]
      have hCz : C.size = 32 := by rw [hC]; rfl
      have hC1 : C.all (·.oneCell') = true := by rw [hC]; exact u8_one (sumL S)
      have HC := Lib.hid hC
      clear hC
      have hRw : (wr.alloc (.cells C 57)).heap[w.heap.size]? = some (.cells #[.int .u8 0, .int .u8 0, .int .u8 0, .int .u8 0, .int .u8 0, .int .u8 0, .int .u8 0, .int .u8 0, .int .u8 0, .int .u8 0, .int .u8 0, .int .u8 0, .int .u8 0, .int .u8 0, .int .u8 0, .int .u8 0, .int .u8 0, .int .u8 0, .int .u8 0, .int .u8 0, .int .u8 0, .int .u8 0, .int .u8 0, .int .u8 0, .int .u8 0, .int .u8 0, .int .u8 0, .int .u8 0, .int .u8 0, .int .u8 0, .int .u8 0, .int .u8 0] 57 (0, 0)) := (Below.heap_alloc _ _ _ hzR).trans HR.out
      have hi32 : (Tryz.prog.info? 57).map (·.size) = some C.size := by rw [hCz]; kernel_rfl
      refine wp_region_lit ?_
      refine wpList_load_row rfl 57 _ rfl wr.heap.size rfl 57 C (0, 0) _ Array.getElem?_push_size Tryz.underlying57 (isArr 32 5) hi32 ?_
      refine wpList_store_rowTo rfl 57 _ _ rfl rfl w.heap.size C rfl rfl 57 _ hRw hi32 (by rw [hCz]; rfl) hC1 ?_
      refine wpList_nil ?_
      have HR' := setRow_heap (wr.alloc (.cells C 57)) w.heap.size _ C 57 (0, 0) hRw
      have HB9 : Below w.heap.size w ((wr.alloc (.cells C 57)).setRow w.heap.size C) := below_setRow (HB.out.alloc HB.out.size _) (Nat.le_refl _) _
      obtain ⟨W9, hW9⟩ : ∃ W9, W9 = (wr.alloc (.cells C 57)).setRow w.heap.size C := ⟨_, rfl⟩
      rw [← hW9] at HR' HB9 ⊢
      clear hW9 hRw
      go_wp2_with fail
      exact bodyPost_ret (results_cell_row Tryz.results30 _ _ w.heap.size 57 C (0, 0) (.array 32 5) rfl HR' Tryz.underlying57 (isArr 32 5) hi32) rfl ⟨by rw [HC.out, HSt.out], HB9⟩
end Go.Proofs.YtdljphbfbiganaaGreatDoor.Sha
