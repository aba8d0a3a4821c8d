import Derived.Test.YtdljphbfbiganaaDoorNumA
/- The page's Num: the bytes of a number. -/
namespace Go.Proofs.YtdljphbfbiganaaDoor.Num
open Go.RowKit

theorem u8_one (l : List Int) : ∀ u ∈ vals l, u.oneCell' = true := by
  intro u hu; simp only [vals, List.mem_map] at hu; obtain ⟨x, _, rfl⟩ := hu; rfl

end Go.Proofs.YtdljphbfbiganaaDoor.Num
