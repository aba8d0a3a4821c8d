/- What acknowledges a packet: packet.Ack, and the page's Ack. -/
import Derived.Test.YtdljphbfbiganaaDoorPacketTwo
import Derived.Test.YtdljphbfbiganaaDoorShaOf
import Derived.Test.YtdljphbfbiganaaDoorShaPage0
import Derived.Test.YtdljphbfbiganaaDoorShaRPad
import Derived.Test.YtdljphbfbiganaaDoorShaCells
namespace Go.Proofs.YtdljphbfbiganaaDoor.Sha
open Go Go.RowKit Num Texts Packet

/-- the first four bytes of a sum -/
def sum4 (d : ByteArray) : List Int := (sumL (ofSt d)).take 4
def ackS (d : ByteArray) : ByteArray := ⟨#[1]⟩ ++ strOfNums (sum4 d)
theorem ackS_one (d : ByteArray) : ackS d = strOfNums (1 :: sum4 d) := by
  unfold ackS
  apply ByteArray.ext
  simp [strOfNums, ByteArray.data_append]
theorem ackS_size (d : ByteArray) : (ackS d).size = 5 := by rw [ackS_one, strOfNums_size]; rfl
theorem ack_cells (d : ByteArray) : ∃ x0 x1 x2 x3 : Int, sum4 d = [x0, x1, x2, x3] ∧ (scells (ofSt d))[0]? = some (.int .u8 x0) ∧ (scells (ofSt d))[1]? = some (.int .u8 x1) ∧ (scells (ofSt d))[2]? = some (.int .u8 x2) ∧ (scells (ofSt d))[3]? = some (.int .u8 x3) :=
  ⟨_, _, _, _, rfl, rfl, rfl, rfl, rfl⟩

theorem four_text (W : World) (G : Nat) (C : Array Value) (t : TypeId) (x0 x1 x2 x3 : Int) (hg : W.heap[G]? = some (.cells C t (0, 0))) (h0 : C[0]? = some (.int .u8 x0)) (h1 : C[1]? = some (.int .u8 x1)) (h2 : C[2]? = some (.int .u8 x2)) (h3 : C[3]? = some (.int .u8 x3)) :
    (convert 69 9 (.slice (some ⟨G, 0, none⟩) 4 32)).run Tryd.prog W = .ok (.string (strOfNums [x0, x1, x2, x3])) W := by
  refine run_convert_bytes_arg _ 69 5 Tryd.underlying69 Tryd.underlying5 G 0 4 32 [x0, x1, x2, x3] rfl (fun i hi => ?_) 9 Tryd.underlying9
  match i, hi with
  | 0, _ => exact (cell_blk hg 0).trans h0
  | 1, _ => exact (cell_blk hg 1).trans h1
  | 2, _ => exact (cell_blk hg 2).trans h2
  | 3, _ => exact (cell_blk hg 3).trans h3
theorem five_text (W : World) (x y z u v : Int) :
    (convert 69 9 (.slice (some ⟨W.heap.size, 0, none⟩) 5 5)).run Tryd.prog (W.alloc (.cells #[.int .u8 x, .int .u8 y, .int .u8 z, .int .u8 u, .int .u8 v] 5)) = .ok (.string (strOfNums [x, y, z, u, v])) (W.alloc (.cells #[.int .u8 x, .int .u8 y, .int .u8 z, .int .u8 u, .int .u8 v] 5)) := by
  refine run_convert_bytes_arg _ 69 5 Tryd.underlying69 Tryd.underlying5 W.heap.size 0 5 5 [x, y, z, u, v] rfl (fun i hi => ?_) 9 Tryd.underlying9
  match i, hi with
  | 0, _ => rw [World.cell?_alloc_mark]; rfl
  | 1, _ => rw [World.cell?_alloc_mark]; rfl
  | 2, _ => rw [World.cell?_alloc_mark]; rfl
  | 3, _ => rw [World.cell?_alloc_mark]; rfl
  | 4, _ => rw [World.cell?_alloc_mark]; rfl

set_option maxRecDepth 100000 in
set_option maxHeartbeats 600000 in
theorem ack_any (p : P5) (hs : p.d.size ≤ 1000000) (w : World) (ht : Tab w) :
    Calls Tryd.prog 19 #[packetApart.arg p] w fun e w' => e = .returned (.string (ackS p.d)) ∧ Below w.heap.size w w' := by
  have HT := Lib.hid ht
  have hof : ∀ (bk : Nat) (W : World), Tab W → W.cell? ⟨bk, 0, none⟩ = some (.string p.d) → bk < W.heap.size → Calls Tryd.prog 20 #[.slice (some ⟨bk, 0, none⟩) 1 1] W fun r w' => r = .returned (.agg (scells (ofSt p.d))) ∧ Below W.heap.size W w' :=
    fun bk W hW hc hbk => of_any bk 0 1 [p.d] p.d hs (join_one p.d) W hW (fun j x h => by
      match j, h with
      | 0, h => injection h with h; subst h; exact hc
      | (m + 1), h => simp at h) hbk (by simp) (by simp)
  obtain ⟨x0, x1, x2, x3, hx, h0, h1, h2, h3⟩ := ack_cells p.d
  have hone : (scells (ofSt p.d)).all (·.oneCell') = true := u8_one (sumL (ofSt p.d))
  have hsz : (scells (ofSt p.d)).size = 32 := rfl
  have hack : ackS p.d = ⟨#[1]⟩ ++ strOfNums [x0, x1, x2, x3] := by unfold ackS; rw [hx]
  have hT4 : (strOfNums [x0, x1, x2, x3]).size ≤ 4 := by rw [strOfNums_size]; exact Nat.le_refl _
  generalize scells (ofSt p.d) = C at *
  have HOf := Lib.hid hof
  have HAck := Lib.hid hack
  have HSz := Lib.hid hsz
  have HOn := Lib.hid hone
  have HV := Lib.hid (fun (W : World) (G : Nat) (hg : W.heap[G]? = some (.cells C 55 (0, 0))) => four_text W G C _ x0 x1 x2 x3 hg h0 h1 h2 h3)
  clear hof hack hsz hone h0 h1 h2 h3 ht hx hs
  generalize strOfNums [x0, x1, x2, x3] = T4 at *
  unfold packetApart.arg
  go_enter Tryd.func19, Tryd.ntmps19
  go_wp2_with fail
  refine (HOf.out _ _ (tab_below HT.out (((Below.refl _ _).alloc (Nat.le_refl _) _).alloc (by simp) _)) (by simp) (by simp)).mono ?_
  rintro e w1 ⟨rfl, hb1⟩
  have HB1 := Lib.hid ((((Below.refl w.heap.size w).alloc (Nat.le_refl _) _).alloc (by simp) _).trans (hb1.mono (by simp; omega)))
  clear hb1
  go_wp2_with fail
  rw [hstx w1 C HSz.out HOn.out]
  simp only [Result.andThen]
  rw [Oper.upon_skip]
  simp only [Act.put]
  obtain ⟨W2, hW2⟩ : ∃ X, X = (w1.alloc (.cells #[.int .u8 0, .int .u8 0, .int .u8 0, .int .u8 0, .int .u8 0, .int .u8 0, .int .u8 0, .int .u8 0, .int .u8 0, .int .u8 0, .int .u8 0, .int .u8 0, .int .u8 0, .int .u8 0, .int .u8 0, .int .u8 0, .int .u8 0, .int .u8 0, .int .u8 0, .int .u8 0, .int .u8 0, .int .u8 0, .int .u8 0, .int .u8 0, .int .u8 0, .int .u8 0, .int .u8 0, .int .u8 0, .int .u8 0, .int .u8 0, .int .u8 0, .int .u8 0] 55)).setRow w1.heap.size C := ⟨_, rfl⟩
  rw [← hW2]
  have hv := HV.out W2 w1.heap.size (by rw [hW2]; exact setRow_heap _ _ _ _ _ _ (heap_alloc_new w1 _))
  have HB2 := Lib.hid (show Below w.heap.size w W2 by rw [hW2]; exact below_setRow (HB1.out.alloc HB1.out.size _) HB1.out.size _)
  clear hW2
  have hadd : 1 + T4.size ≤ 9223372036854775807 := by omega
  go_wp2
  go_ret
  exact ⟨by rw [HAck.out]; rfl, HB2.out⟩

end Go.Proofs.YtdljphbfbiganaaDoor.Sha
