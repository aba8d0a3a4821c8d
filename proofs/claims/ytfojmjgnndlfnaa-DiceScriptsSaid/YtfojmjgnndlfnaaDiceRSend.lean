/- The page's dice: a step that sends a packet; a step. -/
import Derived.Test.YtfojmjgnndlfnaaDiceRStep
namespace Go.Proofs.Ytfojmjgnndlfnaa.DiceW
open Go Go.RowKit Conf Dice
set_option linter.unusedVariables false

theorem belz_i4 (s : Int) : 0 ≤ belZ s 4 ∧ belZ s 4 < 4 := by
  unfold belZ
  rw [if_neg (by decide)]
  exact bel_lo (by decide) (by decide)
theorem reps_size (k : Nat) (h : k < 4 := by omega) : (reps (k : Int)).size < 4 := by
  show (List.replicate (k : Int).toNat (97 : UInt8)).toArray.size < 4
  simp
  omega
theorem reps_succ (k : Nat) : reps (k : Int) ++ (⟨#[97]⟩ : ByteArray) = reps ((k : Int) + 1) := by
  apply ByteArray.ext
  rw [ByteArray.data_append]
  show (List.replicate (k : Int).toNat (97 : UInt8)).toArray ++ #[97] = (List.replicate ((k : Int) + 1).toNat (97 : UInt8)).toArray
  rw [show ((k : Int) + 1).toNat = k + 1 by omega, show ((k : Int)).toNat = k by omega, List.replicate_succ']
  apply Array.toList_inj.1
  simp
set_option maxRecDepth 20000 in
set_option maxHeartbeats 8000000 in
theorem rstep_2 {w : World} {g : Nat} {st : Int} (c : Cfg) (h1 : 1 ≤ c.n) (h4 : c.n ≤ 4) (ha : c.f1 ≤ 9223372036854775807) (h : D TR w g st) (h27 : ¬ belZ st 40 ≤ 27) (h32 : ¬ belZ st 40 ≤ 32) (h35 : belZ st 40 ≤ 35) : Calls Try.prog 18 #[.pointer (some ⟨g, 0, none⟩), .agg c.cells] w fun e w' => e = .returned (.agg (stepF st (c.n : Int) c.f1).1.cells) ∧ D TR w' g (stepF st (c.n : Int) c.f1).2 ∧ On g w w' := by
  have hlt := blk_lt h
  have hmm : 2 * (c.n : Int) ≤ 9223372036854775807 := by omega
  have hnn : (c.n : Int) ≤ 9223372036854775807 := by omega
  have hn4 : (c.n : Int) ≤ 4 := by omega
  have hn0 : (0 : Int) ≤ (c.n : Int) := by omega
  have HN := Lib.hid (And.intro hmm (And.intro hnn ha))
  unfold Cfg.cells
  have d0 : D TR ((w.alloc (.cells #[.slice c.A c.n c.cap, .int .i64 c.f1, .int .i64 c.f2, .int .i64 c.f3, .int .i64 c.f4, .int .i64 c.f5, .int .i64 c.f6, .int .i64 c.f7, .int .i64 c.f8, .int .i64 c.f9, .int .i64 c.f10, .int .u64 c.f11] TCf)).alloc (.cells #[.int .i64 0, .int .i64 0, .int .i64 0, .int .i64 0, .int .i64 0, .int .u64 0, .int .u64 0, .string ⟨#[]⟩] TSt)) g st := blk_alloc (blk_alloc h)
  have cf0 : ((w.alloc (.cells #[.slice c.A c.n c.cap, .int .i64 c.f1, .int .i64 c.f2, .int .i64 c.f3, .int .i64 c.f4, .int .i64 c.f5, .int .i64 c.f6, .int .i64 c.f7, .int .i64 c.f8, .int .i64 c.f9, .int .i64 c.f10, .int .u64 c.f11] TCf)).alloc (.cells #[.int .i64 0, .int .i64 0, .int .i64 0, .int .i64 0, .int .i64 0, .int .u64 0, .int .u64 0, .string ⟨#[]⟩] TSt)).heap[w.heap.size]? = some (.cells #[.slice c.A c.n c.cap, .int .i64 c.f1, .int .i64 c.f2, .int .i64 c.f3, .int .i64 c.f4, .int .i64 c.f5, .int .i64 c.f6, .int .i64 c.f7, .int .i64 c.f8, .int .i64 c.f9, .int .i64 c.f10, .int .u64 c.f11] TCf (0, 0)) := blk_alloc (heap_alloc_new w _)
  have r0 : ((w.alloc (.cells #[.slice c.A c.n c.cap, .int .i64 c.f1, .int .i64 c.f2, .int .i64 c.f3, .int .i64 c.f4, .int .i64 c.f5, .int .i64 c.f6, .int .i64 c.f7, .int .i64 c.f8, .int .i64 c.f9, .int .i64 c.f10, .int .u64 c.f11] TCf)).alloc (.cells #[.int .i64 0, .int .i64 0, .int .i64 0, .int .i64 0, .int .i64 0, .int .u64 0, .int .u64 0, .string ⟨#[]⟩] TSt)).heap[w.heap.size + 1]? = some (.cells #[.int .i64 0, .int .i64 0, .int .i64 0, .int .i64 0, .int .i64 0, .int .u64 0, .int .u64 0, .string ⟨#[]⟩] TSt (0, 0)) := heap_at _ _ _ (by simp)
  have o0 : On g w ((w.alloc (.cells #[.slice c.A c.n c.cap, .int .i64 c.f1, .int .i64 c.f2, .int .i64 c.f3, .int .i64 c.f4, .int .i64 c.f5, .int .i64 c.f6, .int .i64 c.f7, .int .i64 c.f8, .int .i64 c.f9, .int .i64 c.f10, .int .u64 c.f11] TCf)).alloc (.cells #[.int .i64 0, .int .i64 0, .int .i64 0, .int .i64 0, .int .i64 0, .int .u64 0, .int .u64 0, .string ⟨#[]⟩] TSt)) := ((On.refl _ _).alloc _).alloc _
  obtain ⟨w0, hw0⟩ : ∃ X, X = (w.alloc (.cells #[.slice c.A c.n c.cap, .int .i64 c.f1, .int .i64 c.f2, .int .i64 c.f3, .int .i64 c.f4, .int .i64 c.f5, .int .i64 c.f6, .int .i64 c.f7, .int .i64 c.f8, .int .i64 c.f9, .int .i64 c.f10, .int .u64 c.f11] TCf)).alloc (.cells #[.int .i64 0, .int .i64 0, .int .i64 0, .int .i64 0, .int .i64 0, .int .u64 0, .int .u64 0, .string ⟨#[]⟩] TSt) := ⟨_, rfl⟩
  rw [← hw0] at d0 cf0 r0 o0
  have hS := blk_lt r0
  obtain ⟨Z, hZ⟩ : ∃ Z : Array Value, Z = #[.int .i64 0, .int .i64 0, .int .i64 0, .int .i64 0, .int .i64 0, .int .u64 0, .int .u64 0, .string ⟨#[]⟩] := ⟨_, rfl⟩
  have hzv : (zeroValue TSt).run Try.prog w0 = .ok (.agg Z) w0 := by rw [hZ]; kernel_rfl
  have hzs : Z.size = 8 := by rw [hZ]; rfl
  have hst := run_storeCells_new (P := Try.prog) w0 TSt Z Z (by rw [hZ]; kernel_rfl) rfl (by rw [hZ]; simp [Value.oneCell'])
  obtain ⟨S, hSd⟩ : ∃ X, X = w0.heap.size := ⟨_, rfl⟩
  have h2 : SBR w (w0.alloc (.cells Z TSt)) g S st c #[.int .i64 0, .int .i64 0, .int .i64 0, .int .i64 0, .int .i64 0, .int .u64 0, .int .u64 0, .string ⟨#[]⟩] := ⟨blk_alloc d0, blk_alloc cf0, blk_alloc r0, by rw [hSd, ← hZ]; exact heap_alloc_new w0 _, o0.alloc _, hlt, by omega⟩
  have H2' := Lib.hid h2
  have HSd := Lib.hid hSd
  clear d0 cf0 r0 o0 hS hlt h h2 hSd hmm hnn ha h1 h4 hZ
  go_enter Try.func18, Try.ntmps18
  go_upto_region 1 with fail
  rw [← hw0]
  clear hw0
  go_upto_region 2 with fail
  obtain ⟨w2, hw2⟩ : ∃ X, X = w0.alloc (.cells Z TSt) := ⟨_, rfl⟩
  have H2 := Lib.hid (show SBR w w2 g S st c #[.int .i64 0, .int .i64 0, .int .i64 0, .int .i64 0, .int .i64 0, .int .u64 0, .int .u64 0, .string ⟨#[]⟩] by rw [hw2]; exact H2'.out)
  rw [← hw2, ← HSd.out]
  clear hw2 H2' hst hzv hzs HSd
  go_wp2_with fail
  refine (rbelow_on H2.out.d (by decide)).mono ?_
  rintro _ w3 ⟨rfl, d, o⟩
  have H3 := Lib.hid (H2.out.call d o)
  clear d o H2
  have hF : stepF st (c.n : Int) c.f1 = stepF st (c.n : Int) c.f1 := rfl
  conv at hF => rhs; unfold stepF
  obtain ⟨b, hb⟩ : ∃ b, b = belZ st 40 := ⟨_, rfl⟩
  rw [← hb] at hF ⊢ h27 h32 h35
  have HF := Lib.hid hF
  clear hb hF
  obtain ⟨s1, hs1⟩ : ∃ s, s = nxZ st 40 := ⟨_, rfl⟩
  rw [← hs1] at HF H3
  clear hs1
  have c0 := cell_of_row w3 S 0 _ _ (0, 0) H3.out.box
  have f0 := fr_of H3.out.box 0
  have h := H3.out
  have H4 : Hid (SBR w (w3.setCell ⟨S, 0, none⟩ (.int .i64 3)) g S (s1) c #[.int .i64 3, .int .i64 0, .int .i64 0, .int .i64 0, .int .i64 0, .int .u64 0, .int .u64 0, .string ⟨#[]⟩]) := Lib.hid (h.set 0 (.int .i64 3))
  have qc := cell_of_row _ w.heap.size 0 _ _ (0, 0) H4.out.cfg
  clear h
  go_wp2_with fail
  refine (rbelow_on H4.out.d HN.out.2.1).mono ?_
  rintro _ w5 ⟨rfl, d, o⟩
  have h := H4.out.call d o
  clear d o
  have c3 := cell_of_row w5 S 3 _ _ (0, 0) h.box
  have f3 := fr_of h.box 3
  have H5 : Hid (SBR w (w5.setCell ⟨S, 3, none⟩ (.int .i64 (belZ s1 (c.n : Int)))) g S (nxZ s1 (c.n : Int)) c #[.int .i64 3, .int .i64 0, .int .i64 0, .int .i64 (belZ s1 (c.n : Int)), .int .i64 0, .int .u64 0, .int .u64 0, .string ⟨#[]⟩]) := Lib.hid (h.set 3 (.int .i64 (belZ s1 (c.n : Int))))
  clear h H4 H3 c0 f0 qc
  go_wp2_with fail
  refine (rbelow_on H5.out.d (by decide)).mono ?_
  rintro _ w6 ⟨rfl, d, o⟩
  have h := H5.out.call d o
  clear d o
  have c4 := cell_of_row w6 S 4 _ _ (0, 0) h.box
  have f4 := fr_of h.box 4
  have H6 : Hid (SBR w (w6.setCell ⟨S, 4, none⟩ (.int .i64 (belZ (nxZ s1 (c.n : Int)) 2))) g S (nxZ (nxZ s1 (c.n : Int)) 2) c #[.int .i64 3, .int .i64 0, .int .i64 0, .int .i64 (belZ s1 (c.n : Int)), .int .i64 (belZ (nxZ s1 (c.n : Int)) 2), .int .u64 0, .int .u64 0, .string ⟨#[]⟩]) := Lib.hid (h.set 4 (.int .i64 (belZ (nxZ s1 (c.n : Int)) 2)))
  clear h H5 c3 f3
  go_wp2_with fail
  refine (rbelow_on H6.out.d (by decide)).mono ?_
  rintro _ w7 ⟨rfl, d, o⟩
  have h := H6.out.call d o
  clear d o
  have H7 : Hid (SBR w w7 g S (nxZ (nxZ (nxZ s1 (c.n : Int)) 2) 2) c #[.int .i64 3, .int .i64 0, .int .i64 0, .int .i64 (belZ s1 (c.n : Int)), .int .i64 (belZ (nxZ s1 (c.n : Int)) 2), .int .u64 0, .int .u64 0, .string ⟨#[]⟩]) := Lib.hid h
  clear h H6 c4 f4
  by_cases hz : belZ (nxZ (nxZ s1 (c.n : Int)) 2) 2 = 0
  · go_wp2_with fail
    refine (rbelow_on H7.out.d (by decide)).mono ?_
    rintro _ w9 ⟨rfl, d, o⟩
    have h := H7.out.call d o
    clear d o
    have H9 : Hid (SBR w w9 g S (nxZ (nxZ (nxZ (nxZ s1 (c.n : Int)) 2) 2) 4) c #[.int .i64 3, .int .i64 0, .int .i64 0, .int .i64 (belZ s1 (c.n : Int)), .int .i64 (belZ (nxZ s1 (c.n : Int)) 2), .int .u64 0, .int .u64 0, .string ⟨#[]⟩]) := Lib.hid h
    clear h H7
    have hb4 := belz_i4 (nxZ (nxZ (nxZ s1 (c.n : Int)) 2) 2)
    obtain ⟨L, hL4, hL⟩ : ∃ L : Nat, L < 4 ∧ belZ (nxZ (nxZ (nxZ s1 (c.n : Int)) 2) 2) 4 = (L : Int) := by
      generalize belZ (nxZ (nxZ (nxZ s1 (c.n : Int)) 2) 2) 4 = x at hb4
      exact ⟨x.toNat, by omega, by omega⟩
    have hP : pkF s1 (c.n : Int) = ⟨belZ s1 (c.n : Int), belZ (nxZ s1 (c.n : Int)) 2, 0, reps (L : Int), nxZ (nxZ (nxZ (nxZ s1 (c.n : Int)) 2) 2) 4⟩ := by rw [← hL]; exact if_pos hz
    have HP := Lib.hid hP
    rw [hL]
    clear hb4 hL hP
    obtain ⟨e9, he9⟩ : ∃ e, e = nxZ (nxZ (nxZ (nxZ s1 (c.n : Int)) 2) 2) 4 := ⟨_, rfl⟩
    rw [← he9] at H9 HP
    clear he9
    have hLi : (L : Int) ≤ 3 := by omega
    go_wp2
    go_loopw [8] (fun i wr => ∃ k : Nat, i = .int .i64 (k : Int) ∧ k ≤ L ∧ SBR w wr g S e9 c #[.int .i64 3, .int .i64 0, .int .i64 0, .int .i64 (belZ s1 (c.n : Int)), .int .i64 (belZ (nxZ s1 (c.n : Int)) 2), .int .u64 0, .int .u64 0, .string (reps (k : Int))]) (fun i _ => L - (intOf i).toNat)
    case atStart => exact ⟨0, rfl, Nat.zero_le _, H9.out⟩
    case round =>
      obtain ⟨k, rfl, hk, h⟩ := hrel
      by_cases hlt : k < L
      · have hki : (k : Int) < (L : Int) := by omega
        have hsz := reps_size k
        have hs1 : ((reps (k : Int)).size : Int) + 1 ≤ 9223372036854775807 := by omega
        have hs2 : (reps (k : Int)).size + 1 ≤ 9223372036854775807 := by omega
        have c7 := cell_of_row wr S 7 _ _ (0, 0) h.box
        have f7 := fr_of h.box 7
        have H := Lib.hid (fun v => h.set 7 v)
        clear h hsz
        go_wp2
        go_roundw
        case rel =>
          refine ⟨k + 1, by go_num, by omega, ?_⟩
          have hh := H.out (.string (reps (k : Int) ++ ⟨#[97]⟩))
          rw [show ((k + 1 : Nat) : Int) = (k : Int) + 1 by omega, ← reps_succ]
          exact hh
        case measure => simp [intOf]; omega
      · obtain rfl : k = L := by omega
        have H6 : Hid (SBR w wr g S e9 c #[.int .i64 3, .int .i64 0, .int .i64 0, .int .i64 (belZ s1 (c.n : Int)), .int .i64 (belZ (nxZ s1 (c.n : Int)) 2), .int .u64 0, .int .u64 0, .string (reps (k : Int))]) := Lib.hid h
        clear h
        go_upto_region 33 with fail
        obtain ⟨w7, hw7⟩ : ∃ X, X = wr := ⟨_, rfl⟩
        rw [← hw7] at H6 ⊢
        clear hw7
        refine wp_region_lit ?_
        refine wpList_load_row rfl TSt _ rfl S rfl TSt _ (0, 0) _ H6.out.box Try.underlying44 rfl (by kernel_rfl) ?_
        refine wpList_store_rowTo rfl TSt _ _ rfl rfl (w.heap.size + 1) _ rfl rfl TSt _ H6.out.res (by kernel_rfl) rfl (by simp [Value.oneCell']) ?_
        refine wpList_nil ?_
        have HR' := setRow_heap w7 (w.heap.size + 1) _ #[.int .i64 3, .int .i64 0, .int .i64 0, .int .i64 (belZ s1 (c.n : Int)), .int .i64 (belZ (nxZ s1 (c.n : Int)) 2), .int .u64 0, .int .u64 0, .string (reps (k : Int))] TSt (0, 0) H6.out.res
        have HO9 := H6.out.on.setRow (show w.heap.size ≤ w.heap.size + 1 by omega) #[.int .i64 3, .int .i64 0, .int .i64 0, .int .i64 (belZ s1 (c.n : Int)), .int .i64 (belZ (nxZ s1 (c.n : Int)) 2), .int .u64 0, .int .u64 0, .string (reps (k : Int))]
        have HD9 := (setRow_other w7 (w.heap.size + 1) g #[.int .i64 3, .int .i64 0, .int .i64 0, .int .i64 (belZ s1 (c.n : Int)), .int .i64 (belZ (nxZ s1 (c.n : Int)) 2), .int .u64 0, .int .u64 0, .string (reps (k : Int))] (by have := H6.out.lt; omega)).trans H6.out.d
        obtain ⟨w9, hw9⟩ : ∃ X, X = w7.setRow (w.heap.size + 1) #[.int .i64 3, .int .i64 0, .int .i64 0, .int .i64 (belZ s1 (c.n : Int)), .int .i64 (belZ (nxZ s1 (c.n : Int)) 2), .int .u64 0, .int .u64 0, .string (reps (k : Int))] := ⟨_, rfl⟩
        rw [← hw9] at HR' HO9 HD9 ⊢
        clear hw9
        go_wp2_with fail
        have hF := HF.out
        rw [if_neg (show ¬ b ≤ 27 by omega), if_neg (show ¬ b ≤ 32 by omega), if_pos (show b ≤ 35 by omega), HP.out] at hF
        rw [hF]
        dsimp only
        exact bodyPost_ret (results_cell_row Try.results18 _ _ (w.heap.size + 1) TSt _ (0, 0) _ rfl HR' Try.underlying44 rfl (by kernel_rfl)) rfl ⟨rfl, HD9, HO9⟩
  · go_wp2_with fail
    refine (rbelow_on H7.out.d (by decide)).mono ?_
    rintro _ w8 ⟨rfl, d, o⟩
    have h := H7.out.call d o
    clear d o
    have c6 := cell_of_row w8 S 6 _ _ (0, 0) h.box
    have f6 := fr_of h.box 6
    have H8 : Hid (SBR w (w8.setCell ⟨S, 6, none⟩ (.int .u64 (IntKind.u64.wrap (wrap64 (1 + belZ (nxZ (nxZ (nxZ s1 (c.n : Int)) 2) 2) 20))))) g S (nxZ (nxZ (nxZ (nxZ s1 (c.n : Int)) 2) 2) 20) c #[.int .i64 3, .int .i64 0, .int .i64 0, .int .i64 (belZ s1 (c.n : Int)), .int .i64 (belZ (nxZ s1 (c.n : Int)) 2), .int .u64 0, .int .u64 (IntKind.u64.wrap (wrap64 (1 + belZ (nxZ (nxZ (nxZ s1 (c.n : Int)) 2) 2) 20))), .string ⟨#[]⟩]) := Lib.hid (h.set 6 (.int .u64 (IntKind.u64.wrap (wrap64 (1 + belZ (nxZ (nxZ (nxZ s1 (c.n : Int)) 2) 2) 20)))))
    clear h H7
    go_wp2_with fail
    refine (rbelow_on H8.out.d (by decide)).mono ?_
    rintro _ w9 ⟨rfl, d, o⟩
    have h := H8.out.call d o
    clear d o
    have H9 : Hid (SBR w w9 g S (nxZ (nxZ (nxZ (nxZ (nxZ s1 (c.n : Int)) 2) 2) 20) 4) c #[.int .i64 3, .int .i64 0, .int .i64 0, .int .i64 (belZ s1 (c.n : Int)), .int .i64 (belZ (nxZ s1 (c.n : Int)) 2), .int .u64 0, .int .u64 (IntKind.u64.wrap (wrap64 (1 + belZ (nxZ (nxZ (nxZ s1 (c.n : Int)) 2) 2) 20))), .string ⟨#[]⟩]) := Lib.hid h
    clear h H8
    have hb4 := belz_i4 (nxZ (nxZ (nxZ (nxZ s1 (c.n : Int)) 2) 2) 20)
    obtain ⟨L, hL4, hL⟩ : ∃ L : Nat, L < 4 ∧ belZ (nxZ (nxZ (nxZ (nxZ s1 (c.n : Int)) 2) 2) 20) 4 = (L : Int) := by
      generalize belZ (nxZ (nxZ (nxZ (nxZ s1 (c.n : Int)) 2) 2) 20) 4 = x at hb4
      exact ⟨x.toNat, by omega, by omega⟩
    have hP : pkF s1 (c.n : Int) = ⟨belZ s1 (c.n : Int), belZ (nxZ s1 (c.n : Int)) 2, IntKind.u64.wrap (wrap64 (1 + belZ (nxZ (nxZ (nxZ s1 (c.n : Int)) 2) 2) 20)), reps (L : Int), nxZ (nxZ (nxZ (nxZ (nxZ s1 (c.n : Int)) 2) 2) 20) 4⟩ := by rw [← hL]; exact if_neg hz
    have HP := Lib.hid hP
    rw [hL]
    clear hb4 hL hP
    obtain ⟨e9, he9⟩ : ∃ e, e = nxZ (nxZ (nxZ (nxZ (nxZ s1 (c.n : Int)) 2) 2) 20) 4 := ⟨_, rfl⟩
    rw [← he9] at H9 HP
    clear he9
    have hLi : (L : Int) ≤ 3 := by omega
    go_wp2
    go_loopw [8] (fun i wr => ∃ k : Nat, i = .int .i64 (k : Int) ∧ k ≤ L ∧ SBR w wr g S e9 c #[.int .i64 3, .int .i64 0, .int .i64 0, .int .i64 (belZ s1 (c.n : Int)), .int .i64 (belZ (nxZ s1 (c.n : Int)) 2), .int .u64 0, .int .u64 (IntKind.u64.wrap (wrap64 (1 + belZ (nxZ (nxZ (nxZ s1 (c.n : Int)) 2) 2) 20))), .string (reps (k : Int))]) (fun i _ => L - (intOf i).toNat)
    case atStart => exact ⟨0, rfl, Nat.zero_le _, H9.out⟩
    case round =>
      obtain ⟨k, rfl, hk, h⟩ := hrel
      by_cases hlt : k < L
      · have hki : (k : Int) < (L : Int) := by omega
        have hsz := reps_size k
        have hs1 : ((reps (k : Int)).size : Int) + 1 ≤ 9223372036854775807 := by omega
        have hs2 : (reps (k : Int)).size + 1 ≤ 9223372036854775807 := by omega
        have c7 := cell_of_row wr S 7 _ _ (0, 0) h.box
        have f7 := fr_of h.box 7
        have H := Lib.hid (fun v => h.set 7 v)
        clear h hsz
        go_wp2
        go_roundw
        case rel =>
          refine ⟨k + 1, by go_num, by omega, ?_⟩
          have hh := H.out (.string (reps (k : Int) ++ ⟨#[97]⟩))
          rw [show ((k + 1 : Nat) : Int) = (k : Int) + 1 by omega, ← reps_succ]
          exact hh
        case measure => simp [intOf]; omega
      · obtain rfl : k = L := by omega
        have H6 : Hid (SBR w wr g S e9 c #[.int .i64 3, .int .i64 0, .int .i64 0, .int .i64 (belZ s1 (c.n : Int)), .int .i64 (belZ (nxZ s1 (c.n : Int)) 2), .int .u64 0, .int .u64 (IntKind.u64.wrap (wrap64 (1 + belZ (nxZ (nxZ (nxZ s1 (c.n : Int)) 2) 2) 20))), .string (reps (k : Int))]) := Lib.hid h
        clear h
        go_upto_region 33 with fail
        obtain ⟨w7, hw7⟩ : ∃ X, X = wr := ⟨_, rfl⟩
        rw [← hw7] at H6 ⊢
        clear hw7
        refine wp_region_lit ?_
        refine wpList_load_row rfl TSt _ rfl S rfl TSt _ (0, 0) _ H6.out.box Try.underlying44 rfl (by kernel_rfl) ?_
        refine wpList_store_rowTo rfl TSt _ _ rfl rfl (w.heap.size + 1) _ rfl rfl TSt _ H6.out.res (by kernel_rfl) rfl (by simp [Value.oneCell']) ?_
        refine wpList_nil ?_
        have HR' := setRow_heap w7 (w.heap.size + 1) _ #[.int .i64 3, .int .i64 0, .int .i64 0, .int .i64 (belZ s1 (c.n : Int)), .int .i64 (belZ (nxZ s1 (c.n : Int)) 2), .int .u64 0, .int .u64 (IntKind.u64.wrap (wrap64 (1 + belZ (nxZ (nxZ (nxZ s1 (c.n : Int)) 2) 2) 20))), .string (reps (k : Int))] TSt (0, 0) H6.out.res
        have HO9 := H6.out.on.setRow (show w.heap.size ≤ w.heap.size + 1 by omega) #[.int .i64 3, .int .i64 0, .int .i64 0, .int .i64 (belZ s1 (c.n : Int)), .int .i64 (belZ (nxZ s1 (c.n : Int)) 2), .int .u64 0, .int .u64 (IntKind.u64.wrap (wrap64 (1 + belZ (nxZ (nxZ (nxZ s1 (c.n : Int)) 2) 2) 20))), .string (reps (k : Int))]
        have HD9 := (setRow_other w7 (w.heap.size + 1) g #[.int .i64 3, .int .i64 0, .int .i64 0, .int .i64 (belZ s1 (c.n : Int)), .int .i64 (belZ (nxZ s1 (c.n : Int)) 2), .int .u64 0, .int .u64 (IntKind.u64.wrap (wrap64 (1 + belZ (nxZ (nxZ (nxZ s1 (c.n : Int)) 2) 2) 20))), .string (reps (k : Int))] (by have := H6.out.lt; omega)).trans H6.out.d
        obtain ⟨w9, hw9⟩ : ∃ X, X = w7.setRow (w.heap.size + 1) #[.int .i64 3, .int .i64 0, .int .i64 0, .int .i64 (belZ s1 (c.n : Int)), .int .i64 (belZ (nxZ s1 (c.n : Int)) 2), .int .u64 0, .int .u64 (IntKind.u64.wrap (wrap64 (1 + belZ (nxZ (nxZ (nxZ s1 (c.n : Int)) 2) 2) 20))), .string (reps (k : Int))] := ⟨_, rfl⟩
        rw [← hw9] at HR' HO9 HD9 ⊢
        clear hw9
        go_wp2_with fail
        have hF := HF.out
        rw [if_neg (show ¬ b ≤ 27 by omega), if_neg (show ¬ b ≤ 32 by omega), if_pos (show b ≤ 35 by omega), HP.out] at hF
        rw [hF]
        dsimp only
        exact bodyPost_ret (results_cell_row Try.results18 _ _ (w.heap.size + 1) TSt _ (0, 0) _ rfl HR' Try.underlying44 rfl (by kernel_rfl)) rfl ⟨rfl, HD9, HO9⟩
theorem rstep_any {w : World} {g : Nat} {st : Int} (c : Cfg) (h1 : 1 ≤ c.n) (h4 : c.n ≤ 4) (ha : c.f1 ≤ 9223372036854775807) (h : D TR w g st) : Calls Try.prog 18 #[.pointer (some ⟨g, 0, none⟩), .agg c.cells] w fun e w' => e = .returned (.agg (stepF st (c.n : Int) c.f1).1.cells) ∧ D TR w' g (stepF st (c.n : Int) c.f1).2 ∧ On g w w' := by
  by_cases h27 : belZ st 40 ≤ 27
  · exact rstep_0 c h1 h4 ha h h27
  · by_cases h32 : belZ st 40 ≤ 32
    · exact rstep_1 c h1 h4 ha h h27 h32
    · by_cases h35 : belZ st 40 ≤ 35
      · exact rstep_2 c h1 h4 ha h h27 h32 h35
      · by_cases h36 : belZ st 40 = 36
        · exact rstep_3 c h1 h4 ha h h27 h32 h35 h36
        · by_cases h37 : belZ st 40 = 37
          · exact rstep_4 c h1 h4 ha h h27 h32 h35 h36 h37
          · by_cases h38 : belZ st 40 = 38
            · exact rstep_5 c h1 h4 ha h h27 h32 h35 h36 h37 h38
            · exact rstep_6 c h1 h4 ha h h27 h32 h35 h36 h37 h38
end Go.Proofs.Ytfojmjgnndlfnaa.DiceW
