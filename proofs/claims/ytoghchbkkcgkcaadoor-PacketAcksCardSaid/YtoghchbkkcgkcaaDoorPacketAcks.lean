/- The law PacketAcks. -/
import Derived.Test.YtoghchbkkcgkcaaDoorPacketAck
import Derived.Test.YtoghchbkkcgkcaaDoorPacketOpen0
import Derived.Deep.RegionHeld3
namespace Go.Proofs.YtoghchbkkcgkcaaDoor.packetAcks
open Go Go.RowKit Num Texts Packet packetApart

set_option maxHeartbeats 1000000 in
theorem walk_long (p q : P5) (h : 300 < p.d.size ∨ 300 < q.d.size) (w : World) : Calls Tryd.prog 4 #[arg p, arg q] w fun e w' => e = .returned (.bool true) ∧ Below w.heap.size w w' := by
  have hT := Two.new w p q
  have HT := Lib.hid hT
  unfold P5.cells at hT
  unfold arg
  by_cases h1 : 300 < p.d.size
  · have h1 : (300 : Int) < (p.d.size : Int) := by omega
    clear h hT
    go_enter Tryd.func4, Tryd.ntmps4
    go_wp2_with fail
    refine (packetApart.awake_any _).mono ?_
    rintro e w1 ⟨rfl, b1⟩
    go_wp2
    go_ret
    exact ⟨rfl, (HT.out.call b1).2.1⟩
  · have h1 : ¬ (300 : Int) < (p.d.size : Int) := by omega
    have h2 : (300 : Int) < (q.d.size : Int) := by omega
    clear h hT
    go_enter Tryd.func4, Tryd.ntmps4
    go_wp2_with fail
    refine (packetApart.awake_any _).mono ?_
    rintro e w1 ⟨rfl, b1⟩
    go_wp2
    go_ret
    exact ⟨rfl, (HT.out.call b1).2.1⟩


theorem ne_list {a b : ByteArray} (h : a ≠ b) : ¬ a.toList = b.toList := fun e => h (by rw [ByteArray.toList_eq, ByteArray.toList_eq] at e; exact Go.WideShapes.bytes_inj e)


theorem ix_first (A : ByteArray) (l : List Int) (hA : A = strOfNums (1 :: l)) (w : World) : (Instr.index 9 (.string A) (.int .i64 0)).run Tryd.prog w = .ok (.int .u8 1) w := by
  have hz : 0 < A.size := by rw [hA, strOfNums_size]; simp
  rw [run_index_string w 9 _ .i64 0 Tryd.underlying9, dif_pos ⟨by omega, by omega⟩]
  subst hA
  rfl

set_option maxRecDepth 100000 in
set_option maxHeartbeats 1000000 in
theorem walk_both (p q : P5) (h1 : p.d.size ≤ 300) (h2 : q.d.size ≤ 300) (w : World) (hg : Sha.Tab w) : Calls Tryd.prog 4 #[arg p, arg q] w fun e w' => e = .returned (.bool true) ∧ Below w.heap.size w w' := by
  have HT := Lib.hid (Two.new w p q)
  have hb0 := (Two.new w p q).2.1
  have HTb := Lib.hid (Sha.tab_below hg hb0.drew)
  have TD := Lib.hid (show Two w p q (((w.alloc (.cells p.cells 24)).alloc (.cells q.cells 24)).drew) from (Two.new w p q).call ((Below.refl _ _).drew))
  have n1 : ¬ (300 : Int) < (p.d.size : Int) := by omega
  have n2 : ¬ (300 : Int) < (q.d.size : Int) := by omega
  have ha : ∀ W, Sha.Tab W → Calls Tryd.prog 11 #[.agg p.cells] W fun e w' => e = .returned (.string (Sha.ackS p.d)) ∧ Below W.heap.size W w' := fun W h => Sha.ack_any p (by omega) W h
  have hb : ∀ W, Sha.Tab W → Calls Tryd.prog 11 #[.agg q.cells] W fun e w' => e = .returned (.string (Sha.ackS q.d)) ∧ Below W.heap.size W w' := fun W h => Sha.ack_any q (by omega) W h
  have hr : ∀ W, Calls Tryd.prog 12 #[.agg #[.int .i64 p.c, .int .i64 p.f, .int .u64 p.s, .int .u64 p.t, .string p.d]] W fun e w' => e = .returned (.string (Sha.ackS p.d)) ∧ Below W.heap.size W w' := fun W => Sha.rack_any p (by omega) W
  have hz5 : (Sha.ackS p.d).size = 5 := Sha.ackS_size _
  have hix := ix_first (Sha.ackS p.d) _ (Sha.ackS_one p.d)
  have hab : p.d = q.d → Sha.ackS p.d = Sha.ackS q.d := fun h => by rw [h]
  generalize Sha.ackS p.d = A at *
  generalize Sha.ackS q.d = B at *
  have HA1 := Lib.hid ha
  have HB1 := Lib.hid hb
  have HR := Lib.hid hr
  have HZ := Lib.hid hz5
  have HIx := Lib.hid hix
  have HAB := Lib.hid hab
  clear ha hb hr hz5 hix hab h1 h2 hg hb0
  unfold arg
  go_enter Tryd.func4, Tryd.ntmps4
  go_wp2_with fail
  go_upto_region 3 with fail
  change Code.wp _ _ _ _ ((w.alloc (.cells p.cells 24)).alloc (.cells q.cells 24))
  refine wp_region_held_drew (S := (fun W => Two w p q W ∧ Sha.Tab W)) (by kernel_rfl) ⟨TD.out, HTb.out⟩ (fun hHeld => ?_)
  refine wpAnyH_take (i := 0) (oi := _) (v := ?_) rfl (by kernel_rfl) (by kernel_rfl) (by kernel_rfl) (fun _ _ _ h => h) (Or.inl ⟨by rfl, ?_⟩) (by assumption) ?_
  rotate_left
  · (intro W hSw; (refine Sha.yields_row 24 (.tmp 2) ?_ (w.heap.size) ?_ 24 p.cells (0, 0) _ hSw.1.2.2.1 Tryd.underlying24 rfl ?_); rfl; rfl; kernel_rfl)
  try simp only [Act.put, List.getElem_toArray, List.getElem_cons_zero, List.setIfInBounds_toArray, List.set_cons_zero, List.set_cons_succ]
  refine wpAnyH_take (i := 2) (oi := _) (v := ?_) rfl (by kernel_rfl) (by kernel_rfl) (by kernel_rfl) (fun _ _ _ h => h) (Or.inl ⟨by rfl, ?_⟩) (by assumption) ?_
  rotate_left
  · (intro W hSw; (refine Sha.yields_row 24 (.tmp 3) ?_ (w.heap.size + 1) ?_ 24 q.cells (0, 0) _ hSw.1.2.2.2 Tryd.underlying24 rfl ?_); rfl; rfl; kernel_rfl)
  try simp only [Act.put, List.getElem_toArray, List.getElem_cons_succ, List.getElem_cons_zero, List.setIfInBounds_toArray, List.set_cons_zero, List.set_cons_succ]
  refine wpAnyH_ready (rs := [1]) (by kernel_rfl) (by simp) ?_
  refine AllReadyH.cons rfl (fun K hK => ?_) AllReadyH.nil
  simp only [List.getElem_toArray, List.getElem_cons_succ, List.getElem_cons_zero]
  rw [if_pos (by rfl)]
  go_simp
  (go_at_call 11; refine (HA1.out _ hHeld.2).mono ?_; rintro e w1 ⟨rfl, b1⟩; have h1 := And.intro (hHeld.1.call b1) (Sha.tab_below hHeld.2 b1))
  go_wp2_with fail
  refine hK.out _ _ h1 (fun hHeld => ?_)
  clear hK K
  try simp only [Act.put, List.getElem_toArray, List.getElem_cons_succ, List.getElem_cons_zero, List.setIfInBounds_toArray, List.set_cons_zero, List.set_cons_succ]
  refine wpAnyH_ready (rs := [3]) (by kernel_rfl) (by simp) ?_
  refine AllReadyH.cons rfl (fun K hK => ?_) AllReadyH.nil
  simp only [List.getElem_toArray, List.getElem_cons_succ, List.getElem_cons_zero]
  rw [if_pos (by rfl)]
  go_simp
  (go_at_call 11; refine (HB1.out _ h1.2).mono ?_; rintro e w2 ⟨rfl, b2⟩; have h2 := And.intro (h1.1.call b2) (Sha.tab_below h1.2 b2))
  go_wp2_with fail
  refine hK.out _ _ h2 (fun hHeld => ?_)
  clear hK K
  try simp only [Act.put, List.getElem_toArray, List.getElem_cons_succ, List.getElem_cons_zero, List.setIfInBounds_toArray, List.set_cons_zero, List.set_cons_succ]
  refine wpAnyH_take (i := 4) (oi := _) (v := ?_) rfl (by kernel_rfl) (by kernel_rfl) (by kernel_rfl) (fun _ _ _ h => h) (Or.inl ⟨by rfl, ?_⟩) (by assumption) ?_
  rotate_left
  · (intro W hSw; (try dsimp only at hSw); go_simp; try with_reducible rfl)
  try simp only [Act.put, List.getElem_toArray, List.getElem_cons_succ, List.getElem_cons_zero, List.setIfInBounds_toArray, List.set_cons_zero, List.set_cons_succ]
  refine wpAnyH_take (i := 5) (oi := _) (v := ?_) rfl (by kernel_rfl) (by kernel_rfl) (by kernel_rfl) (fun _ _ _ h => h) (Or.inl ⟨by rfl, ?_⟩) (by assumption) ?_
  rotate_left
  · (intro W hSw; (try dsimp only at hSw); go_simp; try with_reducible rfl)
  try simp only [Act.put, List.getElem_toArray, List.getElem_cons_succ, List.getElem_cons_zero, List.setIfInBounds_toArray, List.set_cons_zero, List.set_cons_succ]
  refine wpAnyH_done (by kernel_rfl) ?_ _
  have T2 := Lib.hid h2.1
  have HTb2 := Lib.hid h2.2
  clear h1 h2 b1 b2
  obtain ⟨x0, x1, x2, x3, x4, y0, y1, y2, y3, y4⟩ := T2.out.facts
  have hz5 := HZ.out
  have hix := HIx.out
  go_wp2_with fail
  refine (HR.out _).mono ?_
  rintro e w3 ⟨rfl, b3⟩
  have T3 := Lib.hid (T2.out.call b3)
  clear x0 x1 x2 x3 x4 y0 y1 y2 y3 y4 b3 hz5 hix
  go_wp2_with fail
  refine (awake_any _).mono ?_
  rintro e w4 ⟨rfl, b4⟩
  have T4 := Lib.hid (T3.out.call b4)
  obtain ⟨x0, x1, x2, x3, x4, y0, y1, y2, y3, y4⟩ := T4.out.facts
  clear b4
  by_cases he : p.d = q.d
  · obtain rfl := HAB.out he
    rw [← he] at y4
    go_wp2
    go_ret
    exact ⟨rfl, T4.out.2.1⟩
  · have hn1 := ne_list he
    have hn2 : (p.d.toList == q.d.toList) = false := by simpa using hn1
    clear he
    go_wp2
    go_ret
    exact ⟨rfl, T4.out.2.1⟩

section
variable {H : Type} {enc : TypeId × Value → H} {spare : Nat → Bool} {held : Bool} {w : World} {base : Nat}
theorem walk {v : Value} {d : DataW H} {p : List MemPlace}
    (ok : Value.okWide Tryd.prog w .any base 24 v) (h : DataW.Trod enc Tryd.prog w 0 spare held 24 v d p) {base2 : Nat} {v2 : Value} {d2 : DataW H} {p2 : List MemPlace} {spare2 : Nat → Bool} {held2 : Bool}
    (ok2 : Value.okWide Tryd.prog w .any base2 24 v2) (h2 : DataW.Trod enc Tryd.prog w 0 spare2 held2 24 v2 d2 p2) (hg : Sha.Tab w) :
    Calls Tryd.prog 4 #[v, v2] w fun e w' => e = .returned (.bool true) ∧ Below w.heap.size w w' := by
  obtain ⟨a, _, rfl⟩ := open_packet_val ok h
  obtain ⟨b, _, rfl⟩ := open_packet_val ok2 h2
  rcases Nat.lt_or_ge 300 a.d.size with h | h
  · exact walk_long a b (.inl h) w
  · rcases Nat.lt_or_ge 300 b.d.size with h' | h'
    · exact walk_long a b (.inr h') w
    · exact walk_both a b h h' w hg
end
end Go.Proofs.YtoghchbkkcgkcaaDoor.packetAcks
