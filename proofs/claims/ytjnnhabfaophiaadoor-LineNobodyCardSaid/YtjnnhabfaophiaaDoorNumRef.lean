/- The page's Num: the bytes of a number. -/
import Derived.Test.YtjnnhabfaophiaaDoorNum
namespace Go.Proofs.YtjnnhabfaophiaaDoor.Num
open Go.RowKit

theorem u8_one (l : List Int) : ∀ u ∈ vals l, u.oneCell' = true := by
  intro u hu; simp only [vals, List.mem_map] at hu; obtain ⟨x, _, rfl⟩ := hu; rfl

end Go.Proofs.YtjnnhabfaophiaaDoor.Num
