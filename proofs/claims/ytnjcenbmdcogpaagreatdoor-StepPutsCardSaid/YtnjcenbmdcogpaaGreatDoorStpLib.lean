/- Splitting at spaces, a byte's place, an unsigned number, by Go's library. -/
import Derived.Test.YtnjcenbmdcogpaaGreatDoorStpLay
import Derived.Test.YtnjcenbmdcogpaaGreatDoorStpMath
import Derived.Lib.ParseIntBMem
import Derived.Lib.AtoiErrMem
import Derived.Lib.Walk
import Derived.Lib.IfaceEq
import Derived.BigCall
import Derived.BigGuard
import Derived.WideShapes
namespace Go.Proofs.YtnjcenbmdcogpaaGreatDoor.Sp
open Go Go.Lib Go.RowKit

theorem infoS : (Tryz.prog.info? 9).map (fun i => (i.zero, i.size, i.bytes)) = some (some (.string ByteArray.empty), 1, 16) := by kernel_rfl
/-- the words of a line, as texts -/
def spB (s : ByteArray) : List ByteArray := splitB ⟨#[32]⟩ 0 (countB s ⟨#[32]⟩) s
theorem spB_data (s : ByteArray) : (spB s).map (·.data.toList) = sp s.data.toList := by
  unfold spB
  rw [splitB_data, ← split_sp]
  have e : countB s ⟨#[32]⟩ = s.data.toList.count 32 := count_one 32 _
  rw [e]
theorem ix_one (x : ByteArray) (w : World) : Calls Tryz.prog 87 #[.string x, .string ⟨#[32]⟩] w fun e w' => e = .returned (.int .i64 (indexB x ⟨#[32]⟩)) ∧ w' = w := by
  refine (Any.strings_Index_one (P := Tryz.prog) (ρ := laysSplit_ren) { laysSplit with } x 32 w).mono fun e w' h => ⟨?_, h.2⟩
  rw [h.1, ← index_one]
theorem cnt_one (x : ByteArray) (w : World) : Calls Tryz.prog 59 #[.string x, .string ⟨#[32]⟩] w fun e w' => e = .returned (.int .i64 (countB x ⟨#[32]⟩)) ∧ w' = w := by
  refine (Any.strings_Count_one (P := Tryz.prog) (ρ := laysSplit_ren) { laysSplit with } x 32 w).mono fun e w' h => ⟨?_, h.2⟩
  rw [h.1]
  have : countByte x.data.toList 32 = countB x ⟨#[32]⟩ := (count_one 32 _).symm
  rw [this]
set_option maxHeartbeats 1000000 in
theorem split_any (s : ByteArray) (w : World) (hs : s.size < 4294967281) :
    Calls Tryz.prog 43 #[.string s, .string ⟨#[32]⟩] w fun e w' => e = .returned (.slice (some ⟨w.heap.size, 0, none⟩) (spB s).length (spB s).length) ∧ w' = w.alloc (.cells ((spB s).map Value.string).toArray 9) := by
  have hl : (spB s).length = countB s ⟨#[32]⟩ + 1 := splitB_all _ (by decide) 0 _ s rfl
  have hcl : countB s ⟨#[32]⟩ ≤ s.size := countB_le _ (by decide) _ s (Nat.le_refl _)
  have c : Calls Tryz.prog 77 #[.string s, .string ⟨#[32]⟩, .int .i64 (0 : Nat), .int .i64 (-1)] w fun e w' => e = .returned (.slice (some ⟨w.heap.size, 0, none⟩) (splitB ⟨#[32]⟩ 0 (countB s ⟨#[32]⟩ + 1 - 1) s).length ((countB s ⟨#[32]⟩ + 1 : Nat))) ∧ w' = w.alloc (.cells (cellsOf (splitB ⟨#[32]⟩ 0 (countB s ⟨#[32]⟩ + 1 - 1) s) (countB s ⟨#[32]⟩ + 1)) 9) :=
    Any.strings_genSplit_core (P := Tryz.prog) (ρ := laysSplit_ren) { laysSplit with } infoS s ⟨#[32]⟩ 0 (-1) (countB s ⟨#[32]⟩ + 1) w hs (by decide) (Nat.zero_le _)
    (fun x cs _ => ix_one x _) (cnt_one s w) (by decide) (by decide) (by rw [if_pos (by decide)]; omega)
  rw [Nat.add_sub_cancel, show splitB ⟨#[32]⟩ 0 (countB s ⟨#[32]⟩) s = spB s from rfl, ← hl, cellsOf_full] at c
  clear hl hcl
  go_enter Tryz.func43, Tryz.ntmps43
  go_wp2_with fail
  refine c.mono ?_
  rintro e w' ⟨rfl, hw⟩
  rw [hw]
  go_wp2
  go_ret
  exact ⟨rfl, rfl⟩
theorem ixb_any (s : ByteArray) (c : Int) (w : World) : Calls Tryz.prog 80 #[.string s, .int .u8 c] w fun e w' => e = .returned (.int .i64 (indexByte s.data.toList (UInt8.ofNat c.toNat))) ∧ w' = w :=
  Any.strings_IndexByte (P := Tryz.prog) (ρ := laysIxB_ren) laysIxB s c w
/-- what the two errors of strconv lie at -/
structure ErrsLie (w : World) : Prop where
  syn : ∃ v, w.cell? ⟨2, 0, none⟩ = some v ∧ (v = .nilIface ∨ ∃ te pe, v = .iface te pe)
  ran : ∃ v, w.cell? ⟨3, 0, none⟩ = some v ∧ (v = .nilIface ∨ ∃ te pe, v = .iface te pe)
theorem ErrsLie.below {w w' : World} (h : ErrsLie w) (hb : Below w.heap.size w w') : ErrsLie w' := by
  obtain ⟨⟨a, ha, ha2⟩, ⟨b, hb', hb2⟩⟩ := h
  exact ⟨⟨a, (hb.cell (show (⟨2, 0, none⟩ : Addr).block < w.heap.size from lt_of_cell ha)).trans ha, ha2⟩, ⟨b, (hb.cell (show (⟨3, 0, none⟩ : Addr).block < w.heap.size from lt_of_cell hb')).trans hb', hb2⟩⟩
theorem puint_in (s : ByteArray) (w : World) (hs : s.size ≤ 9223372036854775806) :
    Calls Tryz.prog 78 #[.string s, .int .i64 10, .int .i64 64] w fun e w' => e = .returned (uintTupleM 127 18446744073709551615 (parseUintB 64 s.data.toList)) ∧ Below w.heap.size w w' := by
  refine (Any.internal_strconv_ParseUint_10_at64 (P := Tryz.prog) (ρ := laysPUint_ren) laysPUint s hs w).mono fun e w' h => ⟨?_, ?_⟩
  · exact h.1
  · rcases h.2 with rfl | rfl
    · exact Below.refl _ _
    · exact bytesWorld_below _ _ _
set_option maxHeartbeats 4000000 in
set_option maxRecDepth 100000 in
theorem puint_any (s : ByteArray) (w : World) (hs : s.size ≤ 281474976710656) (hE : ErrsLie w) :
    Calls Tryz.prog 46 #[.string s, .int .i64 10, .int .i64 64] w fun e w' => (∃ er, e = .returned (.tuple #[.int .u64 (numP s.data.toList : Nat), er])) ∧ Below w.heap.size w w' := by
  have hI := puint_in s w (by omega)
  unfold numP
  cases hp : parseUintB 64 s.data.toList with
  | ok u =>
    rw [hp] at hI
    have hI : Calls Tryz.prog 78 #[.string s, .int .i64 10, .int .i64 64] w fun e w' => e = .returned (.tuple #[.int .u64 u, .nilIface]) ∧ Below w.heap.size w w' := hI
    clear hp
    go_enter Tryz.func46, Tryz.ntmps46
    go_wp2_with fail
    refine hI.mono ?_
    rintro e w1 ⟨rfl, hb⟩
    have HB := Lib.hid hb
    clear hb
    go_wp2
    go_ret2
    exact ⟨⟨_, rfl⟩, HB.out⟩
  | range =>
    rw [hp] at hI
    have hI : Calls Tryz.prog 78 #[.string s, .int .i64 10, .int .i64 64] w fun e w' => e = .returned (.tuple #[.int .u64 18446744073709551615, .iface 127 (.int .i64 1)]) ∧ Below w.heap.size w w' := hI
    clear hp
    go_enter Tryz.func46, Tryz.ntmps46
    go_wp2_with fail
    refine hI.mono ?_
    rintro e w1 ⟨rfl, hb⟩
    have HE := Lib.hid (hE.below hb)
    have HB := Lib.hid hb
    clear hb hE
    go_wp2_with fail
    obtain ⟨_, ⟨v, hv, hv2⟩⟩ := HE.out
    refine (Any.strconv_toError_range (P := Tryz.prog) (ρ := laysToErr_ren) laysToErr ⟨#[80, 97, 114, 115, 101, 85, 105, 110, 116]⟩ s 10 64 v _ hs hv hv2).mono ?_
    rintro e w2 ⟨N, rfl, _, _, hb2⟩
    have HB2 := Lib.hid (HB.out.trans (hb2.mono HB.out.size))
    clear hb2
    go_wp2
    go_ret2
    exact ⟨⟨_, rfl⟩, HB2.out⟩
  | _ =>
    rw [hp] at hI
    have hI : Calls Tryz.prog 78 #[.string s, .int .i64 10, .int .i64 64] w fun e w' => e = .returned (.tuple #[.int .u64 0, .iface 127 (.int .i64 2)]) ∧ Below w.heap.size w w' := hI
    clear hp
    go_enter Tryz.func46, Tryz.ntmps46
    go_wp2_with fail
    refine hI.mono ?_
    rintro e w1 ⟨rfl, hb⟩
    have HE := Lib.hid (hE.below hb)
    have HB := Lib.hid hb
    clear hb hE
    go_wp2_with fail
    obtain ⟨⟨v, hv, hv2⟩, _⟩ := HE.out
    refine (Any.strconv_toError_syntax (P := Tryz.prog) (ρ := laysToErr_ren) laysToErr ⟨#[80, 97, 114, 115, 101, 85, 105, 110, 116]⟩ s 10 64 v _ hs hv hv2).mono ?_
    rintro e w2 ⟨N, rfl, _, _, hb2⟩
    have HB2 := Lib.hid (HB.out.trans (hb2.mono HB.out.size))
    clear hb2
    go_wp2
    go_ret2
    exact ⟨⟨_, rfl⟩, HB2.out⟩
end Go.Proofs.YtnjcenbmdcogpaaGreatDoor.Sp
