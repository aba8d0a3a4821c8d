import Derived.Test.YtnjcenbmdcogpaaGreatDoorTexts
import Derived.Test.YtnjcenbmdcogpaaGreatDoorNumR
/- The page's Text. -/
namespace Go.Proofs.YtnjcenbmdcogpaaGreatDoor.Texts
open Go.RowKit Num Bld

theorem mk_append (a b : List UInt8) : (⟨a.toArray⟩ : ByteArray) ++ ⟨b.toArray⟩ = ⟨(a ++ b).toArray⟩ := by
  apply ByteArray.ext; simp
theorem mk_self (s : ByteArray) : (⟨s.data.toList.toArray⟩ : ByteArray) = s := rfl

theorem numS_size' (n : Nat) (h : n < 18446744073709551616) : (numS n).size ≤ 9 := by
  have := dig_len (m := n) (k := 8) (by simpa using h)
  unfold numS
  rw [ByteArray.size_append, strOfNums_size, strOfNums_size, List.length_singleton]
  omega

set_option maxRecDepth 20000 in
set_option maxHeartbeats 400000 in
theorem ref_text_any (s : ByteArray) (w : World) (hs : s.size ≤ 140737488355328) :
    Calls Tryz.prog 62 #[.string s] w fun e w' => e = .returned (.string ⟨(textL s).toArray⟩) ∧ Below w.heap.size w w' := by
  have hadd : ∀ W, (Op.stringOp .add (numS s.size) s).run Tryz.prog W = .ok (.string (numS s.size ++ s)) W := fun W => run_string_add_sum W _ _ (by have := numS_size' s.size (by omega); omega)
  have he : numS s.size ++ s = ⟨(textL s).toArray⟩ := by
    unfold textL
    rw [← mk_append]
  have HE := Lib.hid he; clear he
  go_enter Tryz.func62, Tryz.ntmps62
  go_wp2_with fail
  refine (ref_num_any s.size (by omega) _).mono ?_
  rintro e w1 ⟨rfl, b1⟩
  go_wp2
  go_ret
  exact ⟨by rw [← HE.out]; rfl, b1⟩

end Go.Proofs.YtnjcenbmdcogpaaGreatDoor.Texts
