import Derived.Test.YtnjcenbmdcogpaaGreatDoorStpL
import Derived.Test.YtnjcenbmdcogpaaGreatDoorFmtUint
import Derived.OpenShut
import Derived.ProofKit
import Derived.ChangeSame
import Derived.ChangeVars
import Derived.JoinedOf
import Derived.LaidLaws
import Derived.LaidHandle
import Derived.MakeChecks
import Derived.Stop.Joined
import Derived.Lib.LaidTab
import Derived.Lib.LaidIn
import Derived.Deep.Slices
import Derived.ChangeArms
/- What the condition on the laid variables gives a walk that reads strconv's table and its two errors; a world that meets it. -/
namespace Go.Proofs.YtnjcenbmdcogpaaGreatDoor.Sp
open Go Go.ChangeShapes Go.WideShapes Go.RowKit Go.Deep Dec

theorem own : ownKnob Tryz.prog.godebug = none := by kernel_rfl
theorem laidOut : laidOutB Tryz.prog = true := by kernel_rfl
theorem gT : Tryz.prog.globalNamed "internal/strconv.uint64pow10" = some 1 := by kernel_rfl
theorem gTType : (Tryz.prog.globals[1]?).map (·.type) = some 138 := by kernel_rfl
theorem isTab : (Rows.laid_internal_strconv_uint64pow10 : DataW Unit) = Lib.tabData .u64 Lib.pow10Tab := by kernel_rfl
theorem gS : Tryz.prog.globalNamed "strconv.ErrSyntax" = some 2 := by kernel_rfl
theorem gSType : (Tryz.prog.globals[2]?).map (·.type) = some 67 := by kernel_rfl
theorem gR : Tryz.prog.globalNamed "strconv.ErrRange" = some 3 := by kernel_rfl
theorem gRType : (Tryz.prog.globals[3]?).map (·.type) = some 67 := by kernel_rfl

def laidL : List (String × DataW Unit) := [("math/bits.deBruijn32tab", Rows.laid_math_bits_deBruijn32tab), ("math/bits.deBruijn64tab", Rows.laid_math_bits_deBruijn64tab), ("internal/strconv.uint64pow10", Rows.laid_internal_strconv_uint64pow10), ("unicode/utf8.acceptRanges", Rows.laid_unicode_utf8_acceptRanges), ("strconv.ErrRange", Rows.laid_strconv_ErrRange), ("strconv.ErrSyntax", Rows.laid_strconv_ErrSyntax), ("unicode/utf8.first", Rows.laid_unicode_utf8_first)]

theorem tab_of_laid {W : World} (h : laidMetH Tryz.prog laidL W) : Tab W ∧ ErrsLie W := by
  rw [Go.MakeChecks.laidMetH_plain Tryz.prog laidL W (by kernel_rfl)] at h
  obtain ⟨ps, ⟨_, _, _, _, _, _, _, _, _, _, ⟨_, _, _, _, _, _, _, _, _, _, ⟨g', t', cs, fuel, p, q, hg', ht', hvar, hd, ⟨_, _, _, _, _, _, _, _, _, _, ⟨g2, t2, cs2, fuel2, p2, q2, hg2, ht2, hvar2, hd2, ⟨g3, t3, cs3, fuel3, p3, q3, hg3, ht3, hvar3, hd3, _, _⟩, _⟩, _⟩, _⟩, _⟩, _⟩, _⟩ := h
  refine ⟨?_, ?_, ?_⟩
  · obtain rfl := Option.some.inj (gT.symm.trans hg')
    obtain rfl := Option.some.inj (gTType.symm.trans ht')
    rw [isTab] at hd
    unfold Tab Lib.TabIs
    rw [hvar, ← Lib.cells_of_tab Tryz.underlying138 Tryz.underlying22 (by kernel_rfl) (by kernel_rfl) hd]
  · obtain rfl := Option.some.inj (gS.symm.trans hg3)
    obtain rfl := Option.some.inj (gSType.symm.trans ht3)
    obtain ⟨_, u, v, hcs, _⟩ := iface_of_trod Tryz.underlying67 hd3
    have := World.var?_cell gS hvar3 0
    refine ⟨.iface u v, ?_, .inr ⟨u, v, rfl⟩⟩
    rw [this, ← Array.getElem?_toList, hcs]; rfl
  · obtain rfl := Option.some.inj (gR.symm.trans hg2)
    obtain rfl := Option.some.inj (gRType.symm.trans ht2)
    obtain ⟨_, u, v, hcs, _⟩ := iface_of_trod Tryz.underlying67 hd2
    have := World.var?_cell gR hvar2 0
    refine ⟨.iface u v, ?_, .inr ⟨u, v, rfl⟩⟩
    rw [this, ← Array.getElem?_toList, hcs]; rfl

mutual
def tabC : DataW Unit → List Value
  | .lit (.int k n) => [Value.int k n]
  | .agg ps => tabCs ps
  | _ => []
def tabCs : List (DataW Unit) → List Value
  | [] => []
  | d :: r => tabC d ++ tabCs r
end
def putC (d : DataW Unit) (o : Obj) : Obj := match o with
  | .cells _ t frozen => .cells (tabC d).toArray t frozen
  | o => o
def putE (b : Nat) (o : Obj) : Obj := match o with
  | .cells _ t frozen => .cells #[.iface 150 (.pointer (some ⟨b, 0, none⟩))] t frozen
  | o => o
/-- A world that meets the condition: the settled one, the variables laid. -/
noncomputable def laidWorld (os : Os) : World :=
  let w0 := World.holding Tryz.prog os ⟨#[], #[], []⟩
  { w0 with heap := (((((((((w0.heap.modify 1 (putC Rows.laid_internal_strconv_uint64pow10)).modify 4 (putC Rows.laid_math_bits_deBruijn32tab)).modify 5 (putC Rows.laid_math_bits_deBruijn64tab)).modify 7 (putC Rows.laid_unicode_utf8_acceptRanges)).modify 6 (putC Rows.laid_unicode_utf8_first)).modify 3 (putE w0.heap.size)).modify 2 (putE (w0.heap.size + 1))).push (.cells #[.string ⟨#[118, 97, 108, 117, 101, 32, 111, 117, 116, 32, 111, 102, 32, 114, 97, 110, 103, 101]⟩] 152)).push (.cells #[.string ⟨#[105, 110, 118, 97, 108, 105, 100, 32, 115, 121, 110, 116, 97, 120]⟩] 152)) }
theorem laidWorld_met (os : Os) (args : Array Value) : laidMetH Tryz.prog laidL ((laidWorld os).forCall (fun _ _ => 0) ⟨#[], args, []⟩).memory := by
  rw [Go.MakeChecks.laidMetH_plain Tryz.prog laidL _ (by kernel_rfl)]
  exact (LaidIn.of_run [4, 5, 1, 7, 3, 2, 6, 8, 8 + 1, 8 + 2, 8 + 3, 8 + 4, 8 + 5, 8 + 6, 8 + 7, 8 + 8, 8 + 9, 8 + 10, 8 + 11, 8 + 12] 8 (by kernel_rfl) (by kernel_rfl) (by kernel_rfl) (by kernel_rfl)).met
end Go.Proofs.YtnjcenbmdcogpaaGreatDoor.Sp
