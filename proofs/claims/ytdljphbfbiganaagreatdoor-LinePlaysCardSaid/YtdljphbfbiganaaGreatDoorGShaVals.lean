import Derived.Test.YtdljphbfbiganaaGreatDoorGCommon
import Derived.Test.YtdljphbfbiganaaGreatDoorGShaMath
import Derived.RegionCalls
import Derived.LoopTactic
/- A row of bytes as a text. -/
namespace Go.Proofs.YtdljphbfbiganaaGreatDoor.Sha
open Go Go.RowKit
def vals (l : List Int) : List Value := l.map (Value.int .u8)
theorem vals_snoc (l : List Int) (x : Int) : vals (l ++ [x]) = vals l ++ [.int .u8 x] := by simp [vals]
theorem vals_len (l : List Int) : (vals l).length = l.length := by simp [vals]

/-- One row of the bytes' type as a text. -/
theorem own_text {w : World} {base n : Nat} {v : Value} {xs : List Int} (h : w.ownsRow base 5 1 v n (vals xs)) :
    (convert 81 9 v).run Tryz.prog w = .ok (.string (strOfNums xs)) w := by
  have hl : xs.length = n := by have := h.1; simp [vals] at this; omega
  rcases h.2 with ⟨rfl, rfl⟩ | ⟨g, cap, cur, rfl, _⟩
  · have hx : xs = [] := List.eq_nil_of_length_eq_zero hl
    subst hx
    exact run_convert_bytes_nil w 81 5 Tryz.underlying81 Tryz.underlying5 _ _ 9 Tryz.underlying9
  · refine run_convert_bytes_arg w 81 5 Tryz.underlying81 Tryz.underlying5 g 0 n cap xs hl (fun i hi => ?_) 9 Tryz.underlying9
    have hx : (vals xs)[i]? = some (.int .u8 (xs.getD i 0)) := by
      unfold vals
      rw [List.getElem?_map, List.getElem?_eq_getElem (by omega), List.getD_eq_getElem?_getD, List.getElem?_eq_getElem (by omega)]
      rfl
    have := h.cells (g := g) rfl i _ hx
    rw [← this]
    unfold Addr.add
    by_cases h0 : i = 0 <;> simp [h0]

theorem one_text (W : World) (x : Int) : (convert 81 9 (.slice (some ⟨W.heap.size, 0, none⟩) 1 1)).run Tryz.prog (W.alloc (.cells #[.int .u8 x] 5)) = .ok (.string (strOfNums [x])) (W.alloc (.cells #[.int .u8 x] 5)) := by
  refine run_convert_bytes_arg _ 81 5 Tryz.underlying81 Tryz.underlying5 W.heap.size 0 1 1 [x] rfl (fun i hi => ?_) 9 Tryz.underlying9
  have h0 : i = 0 := by omega
  subst h0
  rw [World.cell?_alloc_mark]
  rfl

end Go.Proofs.YtdljphbfbiganaaGreatDoor.Sha
/- What stands behind the bytes in their padded ones, by the program. -/
namespace Go.Proofs.YtdljphbfbiganaaGreatDoor.Sha
open Go Go.RowKit

def noughts (n : Nat) : Nat := (119 - n % 64) % 64
def tail8 (c : Nat) : List Int := [((c / 72057594037927936 % 256 : Nat) : Int), ((c / 281474976710656 % 256 : Nat) : Int), ((c / 1099511627776 % 256 : Nat) : Int), ((c / 4294967296 % 256 : Nat) : Int), ((c / 16777216 % 256 : Nat) : Int), ((c / 65536 % 256 : Nat) : Int), ((c / 256 % 256 : Nat) : Int), ((c % 256 : Nat) : Int)]
def padS (n : Nat) : ByteArray := ⟨#[128]⟩ ++ ⟨(List.replicate (noughts n) (0 : UInt8)).toArray⟩ ++ strOfNums (tail8 (8 * n))

set_option maxRecDepth 100000 in
set_option maxHeartbeats 600000 in
theorem pad_any (n : Nat) (hn : n ≤ 1152921504606846976) (w : World) :
    Calls Tryz.prog 47 #[.int .i64 (n : Int)] w fun e w' => e = .returned (.string (padS n)) ∧ Below w.heap.size w w' := by
  have hn1 : (n : Int) ≤ 1152921504606846976 := by omega
  have hk : (119 - (n : Int) % 64) % 64 = ((noughts n : Nat) : Int) := by unfold noughts; omega
  have hk1 : noughts n ≤ 63 := by unfold noughts; omega
  have hp : padS n = ⟨#[128]⟩ ++ ⟨(List.replicate (noughts n) (0 : UInt8)).toArray⟩ ++ strOfNums (tail8 (8 * n)) := rfl
  generalize noughts n = k at *
  obtain ⟨c, hc⟩ : ∃ c : Nat, c = 8 * n := ⟨_, rfl⟩
  have hc8 : (8 : Int) * (n : Int) = (c : Int) := by omega
  rw [← hc] at hp
  have HP := Lib.hid hp
  clear hp hc
  go_enter Tryz.func47, Tryz.ntmps47
  have hrep := fun W => repeat_any k hk1 W
  have hR1 : (⟨(List.replicate k (0 : UInt8)).toArray⟩ : ByteArray).size ≤ 63 := by show (List.replicate k (0 : UInt8)).toArray.size ≤ 63; simpa using hk1
  generalize (⟨(List.replicate k (0 : UInt8)).toArray⟩ : ByteArray) = R at hrep hR1 HP
  have HRep := Lib.hid hrep
  clear hrep
  have hcb : c ≤ 9223372036854775808 := by omega
  go_wp2_with fail
  refine wp_loop_rounds 9 ?_
  rw [rounds_succ]
  go_wp2_with fail
  rw [rounds_succ]
  go_wp2_with fail
  rw [rounds_succ]
  go_wp2_with fail
  rw [rounds_succ]
  go_wp2_with fail
  rw [rounds_succ]
  go_wp2_with fail
  rw [rounds_succ]
  go_wp2_with fail
  rw [rounds_succ]
  go_wp2_with fail
  rw [rounds_succ]
  go_wp2_with fail
  rw [rounds_succ]
  go_wp2_with fail
  rw [hk]
  have ev : ((c : Int) / 72057594037927936) = ((c / 72057594037927936 % 256 : Nat) : Int) := by omega
  obtain ⟨W0, hW0⟩ : ∃ W0, W0 = w.alloc (.cells #[.int .u8 ((c : Int) / 72057594037927936), .int .u8 ((c : Int) / 281474976710656 % 256), .int .u8 ((c : Int) / 1099511627776 % 256), .int .u8 ((c : Int) / 4294967296 % 256), .int .u8 ((c : Int) / 16777216 % 256), .int .u8 ((c : Int) / 65536 % 256), .int .u8 ((c : Int) / 256 % 256), .int .u8 ((c : Int) % 256)] 105) := ⟨_, rfl⟩
  rw [← hW0]
  have hB0 : Below w.heap.size w W0 := by rw [hW0]; exact (Below.refl _ _).alloc (Nat.le_refl _) _
  have hh0 : W0.heap[w.heap.size]? = some (.cells ((tail8 c).map (Value.int .u8)).toArray 105 (0, 0)) := by
    rw [hW0, ev]; exact Array.getElem?_push_size
  have hz0 : w.heap.size < W0.heap.size := by rw [hW0]; simp
  clear hW0 ev
  have HV : Hid (∀ W', Below W0.heap.size W0 W' → (convert 81 9 (.slice (some ⟨w.heap.size, 0, none⟩) 8 8)).run Tryz.prog W' = .ok (.string (strOfNums (tail8 c))) W') := Lib.hid (fun W' hb => by
    refine run_convert_bytes_arg W' 81 5 Tryz.underlying81 Tryz.underlying5 w.heap.size 0 8 8 (tail8 c) rfl (fun i hi => ?_) 9 Tryz.underlying9
    have hadd : (⟨w.heap.size, 0, none⟩ : Addr).add i = ⟨w.heap.size, i, none⟩ := by unfold Addr.add; split <;> simp_all
    have h8 : (tail8 c).length = 8 := rfl
    first
      | rw [hadd, hb.cell (p := ⟨w.heap.size, i, none⟩) hz0, cell_of_row W0 w.heap.size i _ _ _ hh0, List.getElem?_toArray, List.getElem?_map, List.getD_eq_getElem?_getD, List.getElem?_eq_getElem (by omega)]
      | rw [Nat.zero_add, hb.cell (p := ⟨w.heap.size, i, none⟩) hz0, cell_of_row W0 w.heap.size i _ _ _ hh0, List.getElem?_toArray, List.getElem?_map, List.getD_eq_getElem?_getD, List.getElem?_eq_getElem (by omega)]
    rfl)
  have hv0 := HV.out W0.drew (Below.refl _ _).drew
  have hT1 : (strOfNums (tail8 c)).size ≤ 8 := by rw [strOfNums_size]; exact Nat.le_refl _
  generalize strOfNums (tail8 c) = T8 at HV hv0 hT1 HP
  have hs1 : 1 + R.size ≤ 9223372036854775807 := by omega
  have hs2 : ((⟨#[128]⟩ : ByteArray) ++ R).size + T8.size ≤ 9223372036854775807 := by rw [ByteArray.size_append]; have : (⟨#[128]⟩ : ByteArray).size = 1 := rfl; omega
  clear hh0
  go_wp2_with fail
  go_region_with ((go_at_call 63; refine (HRep.out _).mono ?_; rintro e w3 ⟨rfl, hb3⟩; have hb3' := (Below.refl W0.heap.size W0).drew.trans hb3; have hv3 := HV.out w3 hb3'))
  all_goals go_wp2
  all_goals go_ret
  all_goals exact ⟨by rw [HP.out]; rfl, hB0.trans (hb3'.mono (Nat.le_of_lt hz0))⟩
end Go.Proofs.YtdljphbfbiganaaGreatDoor.Sha
/- What stands behind the bytes in their padded ones, by the page. -/
namespace Go.Proofs.YtdljphbfbiganaaGreatDoor.Sha
open Go Go.RowKit

def lenOf : Value → Nat
  | .slice _ l _ => l
  | _ => 0
theorem infoB : (Tryz.prog.info? 5).map (fun i => (i.zero, i.size, i.bytes)) = some (some (.int .u8 0), 1, 1) := by kernel_rfl
def padL (k : Nat) : List Int := 128 :: List.replicate k 0
theorem sizes_le (K cc : Nat) (hno : K ≤ 63) : (strOfNums (padL K)).size + (strOfNums (tail8 cc)).size ≤ 9223372036854775807 := by
  rw [strOfNums_size, strOfNums_size]
  have h1 : (padL K).length = K + 1 := by simp [padL]
  have h2 : (tail8 cc).length = 8 := rfl
  omega
theorem own_new (wr : World) (B : Nat) (hB : B ≤ wr.heap.size) (x : Value) : (wr.alloc (.cells #[x] 5)).ownsRow B 5 1 (.slice (some ⟨wr.heap.size, 0, none⟩) 1 1) 1 [x] :=
  ⟨rfl, .inr ⟨wr.heap.size, 1, #[x], rfl, hB, Array.getElem?_push_size, Nat.le_refl _, by decide, rfl, rfl⟩⟩
theorem vals_one (l : List Int) : ∀ u ∈ vals l, u.oneCell' = true := by
  intro u hu
  obtain ⟨y, _, rfl⟩ := List.mem_map.1 hu; rfl
/-- the last k of the eight bytes -/
def lastB (c : Nat) : Nat → List Int
  | 0 => []
  | k + 1 => ((c / 256 ^ k % 256 : Nat) : Int) :: lastB c k
theorem lastB_len (c : Nat) : ∀ k, (lastB c k).length = k
  | 0 => rfl
  | k + 1 => by simp [lastB, lastB_len c k]
theorem lastB_8 (c : Nat) : lastB c 8 = tail8 c := by
  unfold tail8
  simp [lastB]
theorem padS_eq (n : Nat) : padS n = strOfNums (padL (noughts n)) ++ strOfNums (tail8 (8 * n)) := by
  unfold padS
  congr 1
  apply ByteArray.ext
  apply Array.ext'
  simp [padL, strOfNums, ByteArray.data_append]

set_option maxRecDepth 100000 in
set_option maxHeartbeats 600000 in
theorem rpad_any (n : Nat) (hn : n ≤ 1152921504606846976) (w : World) :
    Calls Tryz.prog 50 #[.int .i64 (n : Int)] w fun e w' => e = .returned (.string (padS n)) ∧ Below w.heap.size w w' := by
  obtain ⟨i0, hi, hz0, hz1, hz2⟩ := info_parts infoB
  have HY := Lib.hid hz2
  have hn1 : (n : Int) ≤ 1152921504606846976 := by omega
  have HPS := Lib.hid (padS_eq n)
  have hno : noughts n ≤ 63 := by unfold noughts; omega
  have hno2 : ∀ k : Nat, k ≤ noughts n → ((n % 64 + (k + 1) + 8) % 64 = 0 ↔ k = noughts n) := by unfold noughts; intro k hk; omega
  have HNo := Lib.hid hno2
  clear hno2
  go_enter Tryz.func50, Tryz.ntmps50
  go_wp2_with fail
  obtain ⟨W0, hW0⟩ : ∃ W0, W0 = w.alloc (.cells #[.int .u8 128] 5) := ⟨_, rfl⟩
  rw [← hW0]
  have hB0 : Below w.heap.size w W0 := by rw [hW0]; exact (Below.refl _ _).alloc (Nat.le_refl _) _
  have hO0 : W0.ownsRow w.heap.size 5 1 (.slice (some ⟨w.heap.size, 0, none⟩) 1 1) 1 (vals (padL 0)) := by
    refine ⟨rfl, .inr ⟨w.heap.size, 1, #[.int .u8 128], rfl, Nat.le_refl _, by rw [hW0]; exact Array.getElem?_push_size, Nat.le_refl _, by decide, rfl, rfl⟩⟩
  clear hW0
  go_loopw [3] (fun v wr => ∃ k : Nat, k ≤ noughts n ∧ wr.ownsRow w.heap.size 5 1 v (k + 1) (vals (padL k)) ∧ Below w.heap.size w wr) (fun v _ => noughts n + 1 - lenOf v)
  case atStart => exact ⟨0, Nat.zero_le _, hO0, hB0⟩
  case round =>
    obtain ⟨k, hk, hown, hB⟩ := hrel
    clear hO0 hB0
    obtain ⟨A, c, rfl⟩ := own_form hown
    have HO := Lib.hid hown
    clear hown
    have hle : w.heap.size ≤ wr.heap.size := hB.size
    by_cases hlt : k = noughts n
    · subst hlt
      have hez : ((n : Int) % 64 + ((noughts n : Nat) : Int) + 1 + 8) % 64 = 0 := by
        have := (HNo.out (noughts n) (Nat.le_refl _)).2 rfl
        omega
      have hez2 : ((n : Int) % 64 + (((noughts n : Nat) : Int) + 1) + 8) % 64 = 0 := by omega
      obtain ⟨cc, hcc⟩ : ∃ cc : Nat, cc = 8 * n := ⟨_, rfl⟩
      have hc8 : (n : Int) * 8 = (cc : Int) := by omega
      rw [← hcc] at HPS
      generalize noughts n = K at *
      have hcb : cc ≤ 9223372036854775808 := by omega
      clear hcc HNo hez
      go_wp2_with fail
      clear hez2
      obtain ⟨W1, hW1⟩ : ∃ W1 : World, W1 = wr := ⟨_, rfl⟩
      subst hW1
      go_loopw [4, 5, 6] (fun q v i wq => ∃ k : Nat, k ≤ 8 ∧ i = .int .i64 k ∧ q = .int .u64 ((cc / 256 ^ k : Nat) : Int) ∧ wq.ownsRow W1.heap.size 5 1 v k (vals (lastB cc k)) ∧ Below W1.heap.size W1 wq) (fun _ _ i _ => 8 - (intOf i).toNat)
      case atStart => exact ⟨0, by omega, rfl, by simp, World.ownsRow_nil _ _ _ _, Below.refl _ _⟩
      case round =>
        obtain ⟨k, hk8, rfl, rfl, hown, hB2⟩ := hrel
        obtain ⟨A2, c2, rfl⟩ := own_form hown
        have hqn : cc / 256 ^ (k + 1) = cc / 256 ^ k / 256 := by rw [Nat.pow_succ, Nat.div_div_eq_div_mul]
        have hqb : cc / 256 ^ k ≤ 9223372036854775808 := Nat.le_trans (Nat.div_le_self _ _) hcb
        have hlb : lastB cc (k + 1) = ((cc / 256 ^ k % 256 : Nat) : Int) :: lastB cc k := rfl
        have HO2 := Lib.hid hown
        have HL := Lib.hid hlb
        have HQ := Lib.hid hqn
        clear hown hlb hqn
        rcases Nat.lt_or_ge k 8 with hlt | hge
        · generalize cc / 256 ^ k = q at *
          have hk8' : (k : Int) < 8 := by omega
          have hle2 : W1.heap.size ≤ wr.heap.size := hB2.size
          go_wp2_with (at_builtin; refine wpList_append_rows rfl _ _ 81 rfl W1.heap.size W1.heap.size 5 i0 (.int .u8 0) 1 1 Tryz.underlying81 hi hz0 hz1 HY.out rfl (by decide) (.slice (some ⟨wr.heap.size, 0, none⟩) 1 1) 1 [.int .u8 ((q : Int) % 256)] rfl (own_new wr W1.heap.size hle2 _) _ _ _ rfl (World.ownsRow.alloc HO2.out _) (vals_one _) (by unfold maxLen; omega) (by omega) (by simp; omega) ?_; intro v5 w5 hown5 hg5)
          have hB5 : Below W1.heap.size W1 w5 := (hB2.alloc hle2 _).grown hg5 (by simp; omega) (own_ge (own_new wr W1.heap.size hle2 (.int .u8 ((q : Int) % 256))))
          have HO5 : Hid (w5.ownsRow W1.heap.size 5 1 v5 (k + 1) (vals (lastB cc (k + 1)))) := Lib.hid (by rw [HL.out, Nat.add_comm k 1]; exact hown5)
          obtain ⟨A5, c5, rfl⟩ := own_form HO5.out
          clear hown5 hg5
          go_wp2
          go_roundw
          case rel => exact ⟨k + 1, by omega, by go_num, by rw [HQ.out]; rfl, HO5.out, hB5⟩
          case measure => simp [intOf]; omega
        · have hk : k = 8 := by omega
          subst hk
          rw [lastB_8] at HO2
          have hv2 := own_text HO2.out
          have hv1 := own_text (own_below HO.out hB2)
          have hs : (strOfNums (padL K)).size + (strOfNums (tail8 cc)).size ≤ 9223372036854775807 := sizes_le K cc hno
          clear HO2
          go_wp2
          go_ret
          exact ⟨by rw [HPS.out]; rfl, hB.trans (hB2.mono hle)⟩
    · have hne : ¬ (((n : Int) % 64 + ((k : Int) + 1) + 8) % 64 = 0) := by
        have hq : ¬ ((n % 64 + (k + 1) + 8) % 64 = 0) := fun h => hlt ((HNo.out k hk).1 h)
        omega
      have hkk : k < noughts n := by omega
      go_wp2_with (at_builtin; refine wpList_append_own _ rfl _ _ 81 rfl w.heap.size 5 i0 (.int .u8 0) 1 1 Tryz.underlying81 hi hz0 hz1 HY.out rfl (by decide) _ _ _ rfl (World.ownsRow.alloc HO.out _) ⟨wr.heap.size, 0, none⟩ 1 1 [.int .u8 0] rfl rfl (cell_one_new _ _ _) (one_one rfl) (by unfold maxLen; omega) (by omega) (by simp; omega) ?_; intro v5 w5 hown5 hg5 _)
      have hB5 : Below w.heap.size w w5 := below_push hB hle HO.out hg5
      obtain ⟨A5, c5, rfl⟩ := own_form hown5
      have HO5 : Hid (w5.ownsRow w.heap.size 5 1 (.slice A5 (k + 1 + 1) c5) (k + 1 + 1) (vals (padL (k + 1)))) := Lib.hid (by
        have e : vals (padL (k + 1)) = vals (padL k) ++ [.int .u8 0] := by simp [vals, padL, List.replicate_succ']
        rw [e]; exact hown5)
      clear hown5 hg5
      go_wp2
      exact ⟨⟨k + 1, hkk, HO5.out, hB5⟩, by simp [lenOf]; omega⟩
end Go.Proofs.YtdljphbfbiganaaGreatDoor.Sha
