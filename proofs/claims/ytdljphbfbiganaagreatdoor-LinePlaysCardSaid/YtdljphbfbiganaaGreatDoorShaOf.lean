import Derived.Test.YtdljphbfbiganaaGreatDoorGShaVals
import Derived.Test.YtdljphbfbiganaaGreatDoorShaTurn
import Derived.Test.YtdljphbfbiganaaGreatDoorGShaTurned
import Derived.Lib.Strings
import Derived.Lib.IndexBytes
import Derived.RegionCalls
import Derived.Deep.Cut
/- The sum of all parts, by the program. -/
namespace Go.Proofs.YtdljphbfbiganaaGreatDoor.Sha
open Go Go.RowKit

/-- a state behind k blocks -/
def blocks (l : List UInt8) : Nat → St
  | 0 => start
  | k + 1 => turn (blocks l k) ((l.drop (64 * k)).take 64)
def sumL (S : St) : List Int := [(S.a.toNat : Int) / 16777216, (S.a.toNat : Int) / 65536 % 256, (S.a.toNat : Int) / 256 % 256, (S.a.toNat : Int) % 256, (S.b.toNat : Int) / 16777216, (S.b.toNat : Int) / 65536 % 256, (S.b.toNat : Int) / 256 % 256, (S.b.toNat : Int) % 256, (S.c.toNat : Int) / 16777216, (S.c.toNat : Int) / 65536 % 256, (S.c.toNat : Int) / 256 % 256, (S.c.toNat : Int) % 256, (S.d.toNat : Int) / 16777216, (S.d.toNat : Int) / 65536 % 256, (S.d.toNat : Int) / 256 % 256, (S.d.toNat : Int) % 256, (S.e.toNat : Int) / 16777216, (S.e.toNat : Int) / 65536 % 256, (S.e.toNat : Int) / 256 % 256, (S.e.toNat : Int) % 256, (S.f.toNat : Int) / 16777216, (S.f.toNat : Int) / 65536 % 256, (S.f.toNat : Int) / 256 % 256, (S.f.toNat : Int) % 256, (S.g.toNat : Int) / 16777216, (S.g.toNat : Int) / 65536 % 256, (S.g.toNat : Int) / 256 % 256, (S.g.toNat : Int) % 256, (S.h.toNat : Int) / 16777216, (S.h.toNat : Int) / 65536 % 256, (S.h.toNat : Int) / 256 % 256, (S.h.toNat : Int) % 256]
theorem u8_one (l : List Int) : ((l.map (Value.int .u8)).toArray.all (·.oneCell')) = true := by
  rw [Array.all_eq_true']
  intro x hx
  obtain ⟨y, _, rfl⟩ := List.mem_map.1 (List.mem_toArray.1 hx); rfl
def whole (s : ByteArray) : ByteArray := s ++ padS s.size
def ofSt (s : ByteArray) : St := blocks (whole s).data.toList ((whole s).size / 64)
theorem padS_size (n : Nat) : (padS n).size = 1 + noughts n + 8 := by
  unfold padS
  rw [ByteArray.size_append, ByteArray.size_append, strOfNums_size]
  show 1 + (List.replicate (noughts n) (0 : UInt8)).toArray.size + 8 = _
  simp
theorem whole_size (s : ByteArray) : ∃ N, (whole s).size = 64 * N ∧ N = (whole s).size / 64 ∧ (whole s).size ≤ s.size + 72 := by
  have h : (whole s).size = s.size + (1 + noughts s.size + 8) := by unfold whole; rw [ByteArray.size_append, padS_size]
  have h2 : noughts s.size = (119 - s.size % 64) % 64 := rfl
  exact ⟨(whole s).size / 64, by omega, rfl, by omega⟩

set_option maxRecDepth 100000 in
set_option maxHeartbeats 4000000 in
theorem of_any (bk off cap : Nat) (xs : List ByteArray) (s : ByteArray) (hs : s.size ≤ 1000000) (hj : (⟨(Lib.join (xs.map (·.data.toList)) []).toArray⟩ : ByteArray) = s)
    (w : World) (ht : Tab w) (hcells : ∀ (j : Nat) x, xs[j]? = some x → w.cell? ⟨bk, off + j, none⟩ = some (.string x)) (hbk : bk < w.heap.size) (hN : xs.length ≤ 1000) (hcap : xs.length ≤ cap) :
    Calls Tryz.prog 27 #[.slice (some ⟨bk, off, none⟩) xs.length cap] w
      fun r w' => r = .returned (.agg #[.int .u8 (((ofSt s).a.toNat : Int) / 16777216), .int .u8 (((ofSt s).a.toNat : Int) / 65536 % 256), .int .u8 (((ofSt s).a.toNat : Int) / 256 % 256), .int .u8 (((ofSt s).a.toNat : Int) % 256), .int .u8 (((ofSt s).b.toNat : Int) / 16777216), .int .u8 (((ofSt s).b.toNat : Int) / 65536 % 256), .int .u8 (((ofSt s).b.toNat : Int) / 256 % 256), .int .u8 (((ofSt s).b.toNat : Int) % 256), .int .u8 (((ofSt s).c.toNat : Int) / 16777216), .int .u8 (((ofSt s).c.toNat : Int) / 65536 % 256), .int .u8 (((ofSt s).c.toNat : Int) / 256 % 256), .int .u8 (((ofSt s).c.toNat : Int) % 256), .int .u8 (((ofSt s).d.toNat : Int) / 16777216), .int .u8 (((ofSt s).d.toNat : Int) / 65536 % 256), .int .u8 (((ofSt s).d.toNat : Int) / 256 % 256), .int .u8 (((ofSt s).d.toNat : Int) % 256), .int .u8 (((ofSt s).e.toNat : Int) / 16777216), .int .u8 (((ofSt s).e.toNat : Int) / 65536 % 256), .int .u8 (((ofSt s).e.toNat : Int) / 256 % 256), .int .u8 (((ofSt s).e.toNat : Int) % 256), .int .u8 (((ofSt s).f.toNat : Int) / 16777216), .int .u8 (((ofSt s).f.toNat : Int) / 65536 % 256), .int .u8 (((ofSt s).f.toNat : Int) / 256 % 256), .int .u8 (((ofSt s).f.toNat : Int) % 256), .int .u8 (((ofSt s).g.toNat : Int) / 16777216), .int .u8 (((ofSt s).g.toNat : Int) / 65536 % 256), .int .u8 (((ofSt s).g.toNat : Int) / 256 % 256), .int .u8 (((ofSt s).g.toNat : Int) % 256), .int .u8 (((ofSt s).h.toNat : Int) / 16777216), .int .u8 (((ofSt s).h.toNat : Int) / 65536 % 256), .int .u8 (((ofSt s).h.toNat : Int) / 256 % 256), .int .u8 (((ofSt s).h.toNat : Int) % 256)]) ∧ Below w.heap.size w w' := by
  have hjl : (Lib.join (xs.map (·.data.toList)) []).length = s.size := by rw [← hj]; rfl
  have hjoin : ∀ W, Below w.heap.size w W → Calls Tryz.prog 46 #[.slice (some ⟨bk, off, none⟩) xs.length cap, .string ⟨#[]⟩] W fun e w' => e = .returned (.string s) ∧ Below W.heap.size W w' := fun W hW => by
    have := Any.strings_Join laysJoin extraJoin bk off cap xs ⟨#[]⟩ W (fun j x h => (hW.cell (p := ⟨bk, off + j, none⟩) hbk).trans (hcells j x h)) (Nat.lt_of_lt_of_le hbk hW.size) (by omega) hcap (by show (Lib.join _ []).length ≤ _; rw [hjl]; omega)
    rw [show (⟨#[]⟩ : ByteArray).data.toList = [] from rfl, hj] at this
    exact this
  have HJ := Lib.hid hjoin
  have HT := Lib.hid ht
  obtain ⟨N, hA, hNd, hAle⟩ := whole_size s
  have hof : ofSt s = blocks (whole s).data.toList N := by unfold ofSt; rw [← hNd]
  have hwh : whole s = s ++ padS s.size := rfl
  have hpsz := padS_size s.size
  have hno : noughts s.size ≤ 63 := by unfold noughts; omega
  have hadd : s.size + (padS s.size).size ≤ 9223372036854775807 := by omega
  generalize xs.length = nx at *
  generalize hPS : padS s.size = PS at hadd hwh hpsz
  have hpd := fun W => pad_any s.size (by omega) W
  rw [show padS s.size = PS from hPS] at hpd
  have HPd := Lib.hid hpd
  have HPS := Lib.hid hPS
  have HWh := Lib.hid hwh
  have HOf := Lib.hid hof
  have HCells := Lib.hid hcells
  clear hjoin ht hof hwh hpd hPS hpsz hcells hno hj hjl
  have HA := Lib.hid hA
  clear hA hNd
  go_enter Tryz.func27, Tryz.ntmps27
  go_wp2_with fail
  refine (HJ.out _ ((Below.refl _ _).alloc (Nat.le_refl _) _)).mono ?_
  rintro e w1 ⟨rfl, hb1⟩
  have hR1 : w1.heap[w.heap.size]? = some (.cells #[.int .u8 0, .int .u8 0, .int .u8 0, .int .u8 0, .int .u8 0, .int .u8 0, .int .u8 0, .int .u8 0, .int .u8 0, .int .u8 0, .int .u8 0, .int .u8 0, .int .u8 0, .int .u8 0, .int .u8 0, .int .u8 0, .int .u8 0, .int .u8 0, .int .u8 0, .int .u8 0, .int .u8 0, .int .u8 0, .int .u8 0, .int .u8 0, .int .u8 0, .int .u8 0, .int .u8 0, .int .u8 0, .int .u8 0, .int .u8 0, .int .u8 0, .int .u8 0] 58 (0, 0)) := (hb1.block _ (by simp)).trans Array.getElem?_push_size
  have hB1 : Below w.heap.size w w1 := ((Below.refl _ _).alloc (Nat.le_refl _) _).trans (hb1.mono (by simp))
  clear hb1
  go_wp2_with fail
  refine (HPd.out _).mono ?_
  rintro e w2 ⟨rfl, hb2⟩
  have hz1 := (Array.getElem?_eq_some_iff.1 hR1).1
  have hR2 := (hb2.block _ hz1).trans hR1
  have hB2 := hB1.trans (hb2.mono (Nat.le_of_lt hz1))
  clear hb2 hR1 hB1 hz1
  go_wp2_with fail
  rw [← HWh.out]
  refine (start_any _).mono ?_
  rintro e w3 ⟨rfl, hb3⟩
  have hz2 := (Array.getElem?_eq_some_iff.1 hR2).1
  have hR3 := (hb3.block _ hz2).trans hR2
  have hB3 := hB2.trans (hb3.mono (Nat.le_of_lt hz2))
  have hz3 := (Array.getElem?_eq_some_iff.1 hR3).1
  clear hb3 hR2 hB2 hz2
  have HR3 := Lib.hid hR3
  clear hR3
  go_wp2_with fail
  obtain ⟨W0, hW0⟩ : ∃ W0, W0 = w3.alloc (.cells #[.int .u32 (start.a.toNat : Int), .int .u32 (start.b.toNat : Int), .int .u32 (start.c.toNat : Int), .int .u32 (start.d.toNat : Int), .int .u32 (start.e.toNat : Int), .int .u32 (start.f.toNat : Int), .int .u32 (start.g.toNat : Int), .int .u32 (start.h.toNat : Int)] 86) := ⟨_, rfl⟩
  rw [← hW0]
  have hS0 : W0.heap[w3.heap.size]? = some (.cells #[.int .u32 (start.a.toNat : Int), .int .u32 (start.b.toNat : Int), .int .u32 (start.c.toNat : Int), .int .u32 (start.d.toNat : Int), .int .u32 (start.e.toNat : Int), .int .u32 (start.f.toNat : Int), .int .u32 (start.g.toNat : Int), .int .u32 (start.h.toNat : Int)] 86 (0, 0)) := by rw [hW0]; exact Array.getElem?_push_size
  have hR0 : W0.heap[w.heap.size]? = some (.cells #[.int .u8 0, .int .u8 0, .int .u8 0, .int .u8 0, .int .u8 0, .int .u8 0, .int .u8 0, .int .u8 0, .int .u8 0, .int .u8 0, .int .u8 0, .int .u8 0, .int .u8 0, .int .u8 0, .int .u8 0, .int .u8 0, .int .u8 0, .int .u8 0, .int .u8 0, .int .u8 0, .int .u8 0, .int .u8 0, .int .u8 0, .int .u8 0, .int .u8 0, .int .u8 0, .int .u8 0, .int .u8 0, .int .u8 0, .int .u8 0, .int .u8 0, .int .u8 0] 58 (0, 0)) := by rw [hW0, Below.heap_alloc _ _ _ hz3]; exact HR3.out
  have hB0 : Below w.heap.size w W0 := by rw [hW0]; exact hB3.alloc (Nat.le_of_lt hz3) _
  clear hW0 hB3 HR3
  generalize hG : w3.heap.size = G at *
  clear hG
  generalize hAl : whole s = AL at *
  have HAl := Lib.hid hAl
  clear hAl
  go_loopw [3] (fun t wr => ∃ (k : Nat) (X : ByteArray), k ≤ N ∧ t = .string X ∧ X.data.toList = AL.data.toList.drop (64 * k) ∧ wr.heap[G]? = some (.cells #[.int .u32 ((blocks AL.data.toList k).a.toNat : Int), .int .u32 ((blocks AL.data.toList k).b.toNat : Int), .int .u32 ((blocks AL.data.toList k).c.toNat : Int), .int .u32 ((blocks AL.data.toList k).d.toNat : Int), .int .u32 ((blocks AL.data.toList k).e.toNat : Int), .int .u32 ((blocks AL.data.toList k).f.toNat : Int), .int .u32 ((blocks AL.data.toList k).g.toNat : Int), .int .u32 ((blocks AL.data.toList k).h.toNat : Int)] 86 (0, 0)) ∧ wr.heap[w.heap.size]? = some (.cells #[.int .u8 0, .int .u8 0, .int .u8 0, .int .u8 0, .int .u8 0, .int .u8 0, .int .u8 0, .int .u8 0, .int .u8 0, .int .u8 0, .int .u8 0, .int .u8 0, .int .u8 0, .int .u8 0, .int .u8 0, .int .u8 0, .int .u8 0, .int .u8 0, .int .u8 0, .int .u8 0, .int .u8 0, .int .u8 0, .int .u8 0, .int .u8 0, .int .u8 0, .int .u8 0, .int .u8 0, .int .u8 0, .int .u8 0, .int .u8 0, .int .u8 0, .int .u8 0] 58 (0, 0)) ∧ Below w.heap.size w wr) (fun t _ => match t with | .string X => X.size | _ => 0)
  case atStart => exact ⟨0, AL, Nat.zero_le _, rfl, by simp, hS0, hR0, hB0⟩
  case round =>
    obtain ⟨k, X, hk, rfl, hX, hS, hR, hB⟩ := hrel
    clear hS0 hR0 hB0
    have HS := Lib.hid hS
    have HR := Lib.hid hR
    clear hR
    have hXs : X.size = 64 * N - 64 * k := by
      have : X.size = X.data.toList.length := by simp
      rw [this, hX, List.length_drop]
      have : AL.data.toList.length = AL.size := by simp
      rw [this, HA.out]
    rcases Nat.lt_or_ge k N with hlt | hge
    · have hX64 : 64 ≤ X.size := by omega
      have hb64 : (X.extract 0 64).size = 64 := by simp [ByteArray.size_extract]; omega
      have hbl : (X.extract 0 64).data.toList = (AL.data.toList.drop (64 * k)).take 64 := by
        rw [← hX, Lib.extract_data]; simp
      have hnx : (X.extract 64 X.size).data.toList = AL.data.toList.drop (64 * (k + 1)) := by
        rw [Lib.extract_to_end, hX, List.drop_drop, show 64 * k + 64 = 64 * (k + 1) by omega]
      have hnxs : (X.extract 64 X.size).size = X.size - 64 := by simp [ByteArray.size_extract]
      have hne : ¬ X.toList = [] := by rw [Lib.toList_data]; intro h; have h2 : X.size = 0 := (by rw [Lib.size_eq, h]; rfl); omega
      have hne2 : X.toList.isEmpty = false := by cases h : X.toList with | nil => exact absurd h hne | cons => rfl
      have hbn : blocks AL.data.toList (k + 1) = turn (blocks AL.data.toList k) ((AL.data.toList.drop (64 * k)).take 64) := rfl
      rw [← hbl] at hbn
      generalize blocks AL.data.toList k = S at *
      have HBn := Lib.hid hbn
      have HNx := Lib.hid hnx
      have hx64 : (64 : Int) ≤ (X.size : Int) := by omega
      obtain ⟨c0, c1, c2, c3, c4, c5, c6, c7⟩ := cells8 hS
      have hz := (Array.getElem?_eq_some_iff.1 hS).1
      have HNs := Lib.hid hnxs
      have HX := Lib.hid hX
      have HXs := Lib.hid hXs
      clear hbn hnx hbl hS hnxs hX hXs hX64
      go_wp2_with fail
      have HFr := Lib.hid (fun (W : World) (hW : Below wr.drew.heap.size wr.drew W) => cells8 ((hW.block G hz).trans HS.out))
      have HFf := Lib.hid (fun (W : World) (hW : Below wr.drew.heap.size wr.drew W) => free8 ((hW.block G hz).trans HS.out))
      have HTu := Lib.hid (turn_any S (X.extract 0 64) hb64 wr.drew (tab_below HT.out hB.drew))
      clear hb64
      go_region_with ((go_at_call 49; refine HTu.out.mono ?_; rintro e w5 ⟨rfl, hb5⟩; obtain ⟨d0, d1, d2, d3, d4, d5, d6, d7⟩ := HFr.out w5 hb5; obtain ⟨e0, e1, e2, e3, e4, e5, e6, e7⟩ := HFf.out w5 hb5))
      have hB5 : Below w.heap.size w w5 := hB.drew.trans (hb5.mono hB.size)
      have hS5 := (hb5.block G hz).trans HS.out
      have hR5 := (hb5.block w.heap.size (Nat.lt_trans hz3 hz)).trans HR.out
      have HBn2 : Hid (blocks AL.data.toList (k + 1) = turn S (List.take 64 X.data.toList)) := Lib.hid (by rw [HBn.out, Lib.extract_data]; simp)
      have HS5 := Lib.hid hS5
      have HR5 := Lib.hid hR5
      have HB5 := Lib.hid hB5
      clear hS5 hR5 hB5 hb5 d0 d1 d2 d3 d4 d5 d6 d7 e0 e1 e2 e3 e4 e5 e6 e7 c0 c1 c2 c3 c4 c5 c6 c7 hB
      go_wp2
      go_roundw
      case rel => exact ⟨k + 1, _, hlt, rfl, HNx.out, by rw [HBn2.out]; exact set8 HS5.out _ _ _ _ _ _ _ _, far8 HR5.out (Nat.ne_of_lt hz3) _ _ _ _ _ _ _ _, below8 HB5.out (Nat.le_of_lt hz3) _ _ _ _ _ _ _ _⟩
      case measure => simp; omega
    · have hkN : k = N := by omega
      subst hkN
      have hX0 : X.toList = [] := by rw [Lib.toList_data]; apply List.eq_nil_of_length_eq_zero; rw [← Lib.size_eq]; omega
      have hst : ofSt s = blocks AL.data.toList k := HOf.out
      generalize blocks AL.data.toList k = S at hst HS hS
      have HSt := Lib.hid hst
      obtain ⟨c0, c1, c2, c3, c4, c5, c6, c7⟩ := cells8 hS
      have hz := (Array.getElem?_eq_some_iff.1 hS).1
      have HB := Lib.hid hB
      clear hst hS hX hXs hB hge hk
      go_wp2_with fail
      refine wp_loop_rounds 33 ?_
      rw [rounds_succ]
      go_wp2_with fail
      rw [rounds_succ]
      go_wp2_with fail
      rw [rounds_succ]
      go_wp2_with fail
      rw [rounds_succ]
      go_wp2_with fail
      rw [rounds_succ]
      go_wp2_with fail
      rw [rounds_succ]
      go_wp2_with fail
      rw [rounds_succ]
      go_wp2_with fail
      rw [rounds_succ]
      go_wp2_with fail
      rw [rounds_succ]
      go_wp2_with fail
      rw [rounds_succ]
      go_wp2_with fail
      rw [rounds_succ]
      go_wp2_with fail
      rw [rounds_succ]
      go_wp2_with fail
      rw [rounds_succ]
      go_wp2_with fail
      rw [rounds_succ]
      go_wp2_with fail
      rw [rounds_succ]
      go_wp2_with fail
      rw [rounds_succ]
      go_wp2_with fail
      rw [rounds_succ]
      go_wp2_with fail
      rw [rounds_succ]
      go_wp2_with fail
      rw [rounds_succ]
      go_wp2_with fail
      rw [rounds_succ]
      go_wp2_with fail
      rw [rounds_succ]
      go_wp2_with fail
      rw [rounds_succ]
      go_wp2_with fail
      rw [rounds_succ]
      go_wp2_with fail
      rw [rounds_succ]
      go_wp2_with fail
      rw [rounds_succ]
      go_wp2_with fail
      rw [rounds_succ]
      go_wp2_with fail
      rw [rounds_succ]
      go_wp2_with fail
      rw [rounds_succ]
      go_wp2_with fail
      rw [rounds_succ]
      go_wp2_with fail
      rw [rounds_succ]
      go_wp2_with fail
      rw [rounds_succ]
      go_wp2_with fail
      rw [rounds_succ]
      go_wp2_with fail
      rw [rounds_succ]
      go_upto_region 13 with fail
      obtain ⟨C, hC⟩ : ∃ C : Array Value, C = #[.int .u8 ((S.a.toNat : Int) / 16777216), .int .u8 ((S.a.toNat : Int) / 65536 % 256), .int .u8 ((S.a.toNat : Int) / 256 % 256), .int .u8 ((S.a.toNat : Int) % 256), .int .u8 ((S.b.toNat : Int) / 16777216), .int .u8 ((S.b.toNat : Int) / 65536 % 256), .int .u8 ((S.b.toNat : Int) / 256 % 256), .int .u8 ((S.b.toNat : Int) % 256), .int .u8 ((S.c.toNat : Int) / 16777216), .int .u8 ((S.c.toNat : Int) / 65536 % 256), .int .u8 ((S.c.toNat : Int) / 256 % 256), .int .u8 ((S.c.toNat : Int) % 256), .int .u8 ((S.d.toNat : Int) / 16777216), .int .u8 ((S.d.toNat : Int) / 65536 % 256), .int .u8 ((S.d.toNat : Int) / 256 % 256), .int .u8 ((S.d.toNat : Int) % 256), .int .u8 ((S.e.toNat : Int) / 16777216), .int .u8 ((S.e.toNat : Int) / 65536 % 256), .int .u8 ((S.e.toNat : Int) / 256 % 256), .int .u8 ((S.e.toNat : Int) % 256), .int .u8 ((S.f.toNat : Int) / 16777216), .int .u8 ((S.f.toNat : Int) / 65536 % 256), .int .u8 ((S.f.toNat : Int) / 256 % 256), .int .u8 ((S.f.toNat : Int) % 256), .int .u8 ((S.g.toNat : Int) / 16777216), .int .u8 ((S.g.toNat : Int) / 65536 % 256), .int .u8 ((S.g.toNat : Int) / 256 % 256), .int .u8 ((S.g.toNat : Int) % 256), .int .u8 ((S.h.toNat : Int) / 16777216), .int .u8 ((S.h.toNat : Int) / 65536 % 256), .int .u8 ((S.h.toNat : Int) / 256 % 256), .int .u8 ((S.h.toNat : Int) % 256)] := ⟨_, rfl⟩
      rw [← hC]
      have hCz : C.size = 32 := by rw [hC]; rfl
      have hC1 : C.all (·.oneCell') = true := by rw [hC]; exact u8_one (sumL S)
      have HC := Lib.hid hC
      clear hC
      have hRw : (wr.alloc (.cells C 58)).heap[w.heap.size]? = some (.cells #[.int .u8 0, .int .u8 0, .int .u8 0, .int .u8 0, .int .u8 0, .int .u8 0, .int .u8 0, .int .u8 0, .int .u8 0, .int .u8 0, .int .u8 0, .int .u8 0, .int .u8 0, .int .u8 0, .int .u8 0, .int .u8 0, .int .u8 0, .int .u8 0, .int .u8 0, .int .u8 0, .int .u8 0, .int .u8 0, .int .u8 0, .int .u8 0, .int .u8 0, .int .u8 0, .int .u8 0, .int .u8 0, .int .u8 0, .int .u8 0, .int .u8 0, .int .u8 0] 58 (0, 0)) := (Below.heap_alloc _ _ _ (Nat.lt_trans hz3 hz)).trans HR.out
      have hi32 : (Tryz.prog.info? 58).map (·.size) = some C.size := by rw [hCz]; kernel_rfl
      refine wp_region_lit ?_
      refine wpList_load_row rfl 58 _ rfl wr.heap.size rfl 58 C (0, 0) _ Array.getElem?_push_size Tryz.underlying58 (isArr 32 5) hi32 ?_
      refine wpList_store_rowTo rfl 58 _ _ rfl rfl w.heap.size C rfl rfl 58 _ hRw hi32 (by rw [hCz]; rfl) hC1 ?_
      refine wpList_nil ?_
      have HR' := setRow_heap (wr.alloc (.cells C 58)) w.heap.size _ C 58 (0, 0) hRw
      have HB9 : Below w.heap.size w ((wr.alloc (.cells C 58)).setRow w.heap.size C) := below_setRow (HB.out.alloc (Nat.le_of_lt (Nat.lt_trans hz3 hz)) _) (Nat.le_refl _) _
      obtain ⟨W9, hW9⟩ : ∃ W9, W9 = (wr.alloc (.cells C 58)).setRow w.heap.size C := ⟨_, rfl⟩
      rw [← hW9] at HR' HB9 ⊢
      clear hW9 hRw
      go_wp2_with fail
      exact bodyPost_ret (results_cell_row Tryz.results27 _ _ w.heap.size 58 C (0, 0) (.array 32 5) rfl HR' Tryz.underlying58 (isArr 32 5) hi32) rfl ⟨by rw [HC.out, HSt.out], HB9⟩
end Go.Proofs.YtdljphbfbiganaaGreatDoor.Sha
