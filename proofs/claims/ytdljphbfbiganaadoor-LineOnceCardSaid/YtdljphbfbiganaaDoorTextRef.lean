import Derived.Test.YtdljphbfbiganaaDoorTexts
import Derived.Test.YtdljphbfbiganaaDoorNumA
import Derived.Test.YtdljphbfbiganaaDoorNumRef
/- The page's Text. -/
namespace Go.Proofs.YtdljphbfbiganaaDoor.Texts
open Go.RowKit Num Bld

theorem mk_append (a b : List UInt8) : (⟨a.toArray⟩ : ByteArray) ++ ⟨b.toArray⟩ = ⟨(a ++ b).toArray⟩ := by
  apply ByteArray.ext; simp
theorem mk_self (s : ByteArray) : (⟨s.data.toList.toArray⟩ : ByteArray) = s := rfl

theorem numS_size' (n : Nat) (h : n < 18446744073709551616) : (numS n).size ≤ 9 := by
  have := dig_len (m := n) (k := 8) (by simpa using h)
  unfold numS
  rw [ByteArray.size_append, strOfNums_size, strOfNums_size, List.length_singleton]
  omega

end Go.Proofs.YtdljphbfbiganaaDoor.Texts
