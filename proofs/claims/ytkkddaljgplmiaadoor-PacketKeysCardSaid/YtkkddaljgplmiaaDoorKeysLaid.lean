/- What the condition on the laid tables gives a walk that reads internal/strconv.uint64pow10; a world that meets it; keys that came in, opened. -/
import Derived.Test.YtkkddaljgplmiaaDoorPacketKeys
import Derived.OpenShut
import Derived.ProofKit
import Derived.ChangeSame
import Derived.ChangeVars
import Derived.JoinedOf
import Derived.LaidLaws
import Derived.LaidHandle
import Derived.MakeChecks
import Derived.Stop.Joined
import Derived.Lib.LaidTab
import Derived.Lib.LaidIn
import Derived.Deep.Slices
import Derived.ChangeArms
namespace Go.Proofs.YtkkddaljgplmiaaDoor.packetKeys
open Go Go.ChangeShapes Go.WideShapes Go.RowKit Go.Deep Dec

theorem own : ownKnob Tryd.prog.godebug = none := by kernel_rfl
theorem laidOut : laidOutB Tryd.prog = true := by kernel_rfl
theorem gT : Tryd.prog.globalNamed "internal/strconv.uint64pow10" = some 0 := by kernel_rfl
theorem gTType : (Tryd.prog.globals[0]?).map (·.type) = some 58 := by kernel_rfl
theorem isTab : (Rows.laid_internal_strconv_uint64pow10 : DataW Unit) = Lib.tabData .u64 Lib.pow10Tab := by kernel_rfl

def laidL : List (String × DataW Unit) := [("math/bits.deBruijn32tab", Rows.laid_math_bits_deBruijn32tab), ("math/bits.deBruijn64tab", Rows.laid_math_bits_deBruijn64tab), ("internal/strconv.uint64pow10", Rows.laid_internal_strconv_uint64pow10)]

theorem tab_of_laid {W : World} (h : laidMetH Tryd.prog laidL W) : Tab W := by
  rw [Go.MakeChecks.laidMetH_plain Tryd.prog laidL W (by kernel_rfl)] at h
  obtain ⟨ps, ⟨_, _, _, _, _, _, _, _, _, _, ⟨_, _, _, _, _, _, _, _, _, _, ⟨g', t', cs, fuel, p, q, hg', ht', hvar, hd, _, _⟩, _⟩, _⟩, _⟩ := h
  obtain rfl := Option.some.inj (gT.symm.trans hg')
  obtain rfl := Option.some.inj (gTType.symm.trans ht')
  rw [isTab] at hd
  unfold Tab Lib.TabIs
  rw [hvar, ← Lib.cells_of_tab Tryd.underlying58 Tryd.underlying22 (by kernel_rfl) (by kernel_rfl) hd]

def tabCells : DataW Unit → Array Value
  | .agg ps => (ps.map fun | .lit (.int k n) => Value.int k n | _ => undef).toArray
  | _ => #[]
/-- A world that meets the condition: the settled one, the tables laid. -/
noncomputable def laidWorld (os : Os) : World :=
  let w0 := World.holding Tryd.prog os ⟨#[], #[], []⟩
  { w0 with heap := ((w0.heap.modify 0 fun
      | .cells _ t frozen => .cells (tabCells Rows.laid_internal_strconv_uint64pow10) t frozen
      | o => o).modify 1 fun
      | .cells _ t frozen => .cells (tabCells Rows.laid_math_bits_deBruijn32tab) t frozen
      | o => o).modify 2 fun
      | .cells _ t frozen => .cells (tabCells Rows.laid_math_bits_deBruijn64tab) t frozen
      | o => o }
theorem laidWorld_met (os : Os) (args : Array Value) : laidMetH Tryd.prog laidL ((laidWorld os).forCall (fun _ _ => 0) ⟨#[], args, []⟩).memory := by
  rw [Go.MakeChecks.laidMetH_plain Tryd.prog laidL _ (by kernel_rfl)]
  exact (LaidIn.of_run [1, 2, 0] 8 (by kernel_rfl) (by kernel_rfl) (by kernel_rfl) (by kernel_rfl)).met

theorem cells_key : Tryd.prog.cellsOf 24 = 3 := by kernel_rfl
section
variable {H : Type} {enc : TypeId × Value → H} {w : World} {base : Nat} {spare : Nat → Bool} {held : Bool}
theorem field_at {t : TypeId} {fs : Array Field} {n : Nat} {cs : List Value} {xs : List (DataW H × List MemPlace)} (hlen : xs.length = fs.size)
    (h : ∀ (i : Nat) (f : Field), fs[i]? = some f → DataW.trod enc Tryd.prog w base spare held n f.type ((cs.drop f.offset).take (Tryd.prog.cellsOf f.type)) = xs[i]?)
    (i : Nat) (f : Field) (hf : fs[i]? = some f) (_ht : f.type = t) : ∃ y, DataW.trod enc Tryd.prog w base spare held n f.type ((cs.drop f.offset).take (Tryd.prog.cellsOf f.type)) = some y := by
  have hi : i < fs.size := (Array.getElem?_eq_some_iff.1 hf).1
  exact ⟨xs[i]'(by omega), (h i f hf).trans (List.getElem?_eq_getElem (by omega))⟩

set_option maxRecDepth 100000 in
theorem open_key {fuel : Nat} {cs : List Value} {x : DataW H × List MemPlace} (h : DataW.trod enc Tryd.prog w base spare held fuel 24 cs = some x) :
    ∃ q : K3, q.ok ∧ cs = [.int .i64 q.c, .int .i64 q.f, .int .u64 (q.s : Int)] := by
  obtain ⟨xs, n, _, _, hcl, hlen, hf⟩ := DataW.trod_struct Tryd.underlying24 h
  rw [cells_key] at hcl
  obtain ⟨y0, h0⟩ := field_at hlen hf 0 _ rfl rfl
  obtain ⟨y1, h1⟩ := field_at hlen hf 1 _ rfl rfl
  obtain ⟨y2, h2⟩ := field_at hlen hf 2 _ rfl rfl
  obtain ⟨a0, e0, _, w0⟩ := DataW.trod_int Tryd.underlying3 h0
  obtain ⟨a1, e1, _, w1⟩ := DataW.trod_int Tryd.underlying3 h1
  obtain ⟨a2, e2, _, w2⟩ := DataW.trod_int Tryd.underlying22 h2
  simp [Lit.wf, IntKind.min, IntKind.max, IntKind.bits, IntKind.signed] at w0 w2
  refine ⟨⟨a0, a1, a2.toNat⟩, ⟨by simp only; omega, by simp only; omega, by simp only; omega⟩, ?_⟩
  have e0' : (cs.drop 0).take 1 = [.int .i64 a0] := e0
  have e1' : (cs.drop 1).take 1 = [.int .i64 a1] := e1
  have e2' : (cs.drop 2).take 1 = [.int .u64 a2] := e2
  have hc : ((a2.toNat : Nat) : Int) = a2 := by omega
  match cs, hcl with
  | [b0, b1, b2], _ => simp at e0' e1' e2'; subst e0' e1' e2'; simp only [hc]

set_option maxRecDepth 100000 in
theorem open_key_val {r : Reach} {b0 : Nat} {v : Value} {d : DataW H} {p : List MemPlace} (ok : Value.okWide Tryd.prog w r b0 24 v) (h : DataW.Trod enc Tryd.prog w base spare held 24 v d p) : ∃ q : K3, q.ok ∧ v = .agg q.cells := by
  obtain ⟨cs, rfl, _⟩ := okWide_struct Tryd.underlying24 ok
  obtain ⟨fuel, hf⟩ := h
  obtain ⟨q, ho, hm⟩ := open_key (cs := cs.toList) hf
  exact ⟨q, ho, congrArg Value.agg (Array.toList_inj.1 hm)⟩

theorem walk {base' base'' : Nat} {spare' spare'' : Nat → Bool} {held' held'' : Bool} {r r' r'' : Reach} {b0 b1 b2 : Nat} {v v' v'' : Value} {d d' d'' : DataW H} {p p' p'' : List MemPlace}
    (ok : Value.okWide Tryd.prog w r b0 24 v) (h : DataW.Trod enc Tryd.prog w base spare held 24 v d p)
    (ok' : Value.okWide Tryd.prog w r' b1 24 v') (h' : DataW.Trod enc Tryd.prog w base' spare' held' 24 v' d' p')
    (ok'' : Value.okWide Tryd.prog w r'' b2 24 v'') (h'' : DataW.Trod enc Tryd.prog w base'' spare'' held'' 24 v'' d'' p'') (hg : Tab w) :
    Calls Tryd.prog 3 #[v, v', v''] w fun e w' => e = .returned (.bool true) ∧ Below w.heap.size w w' := by
  obtain ⟨a, ha, rfl⟩ := open_key_val ok h
  obtain ⟨b, _, rfl⟩ := open_key_val ok' h'
  obtain ⟨k, _, rfl⟩ := open_key_val ok'' h''
  exact law_any a b k ha w hg
end
end Go.Proofs.YtkkddaljgplmiaaDoor.packetKeys
