/- An error of a number or of a text, wrapped by places: errors.Unwrap, errors.Is at such a one. -/
import Derived.Test.YtlbgniiecbohcaaDoorCommon
import Derived.LaidEql
import Derived.Stop.Asserts
import Derived.RowKitTokens
namespace Go.Proofs.YtlbgniiecbohcaaDoor.Errs
open Go.RowKit Go.Extern.Stop Go.Stop Go.Extern

inductive Base where
  | num (c : Int)
  | text (a : Addr)
def Base.val : Base → Value
  | .num c => .iface 22 (.int .i64 c)
  | .text a => .iface 59 (.pointer (some a))
def fv (p : Nat) : Value := .iface 39 (.pointer (some ⟨p, 0, none⟩))

/-- v is a base that is wrapped by these places, from outside in. -/
def Ch (w : World) : List Int → Base → Value → Prop
  | [], b, v => v = b.val
  | x :: l, b, v => ∃ p u, v = .iface 39 (.pointer (some ⟨p, 0, none⟩)) ∧ p < w.heap.size ∧ w.cell? ⟨p, 0, none⟩ = some (.int .i64 x) ∧ w.cell? ⟨p, 1, none⟩ = some u ∧ Ch w l b u
theorem Ch.below {w w' : World} (hb : Below w.heap.size w w') : ∀ {l : List Int} {b : Base} {v : Value}, Ch w l b v → Ch w' l b v
  | [], _, _, h => h
  | _ :: _, _, _, ⟨p, u, e, hp, h0, h1, h2⟩ => ⟨p, u, e, Nat.lt_of_lt_of_le hp hb.size, (hb.cell (p := ⟨p, 0, none⟩) hp).trans h0, (hb.cell (p := ⟨p, 1, none⟩) hp).trans h1, h2.below hb⟩

/-- How deep a chain goes, as far as is looked. -/
def depth (w : World) : Nat → Value → Nat
  | 0, _ => 0
  | n + 1, .iface t (.pointer (some a)) => if t = 39 then (match w.cell? ⟨a.block, 1, none⟩ with | some u => depth w n u + 1 | none => 0) else 0
  | _ + 1, _ => 0
theorem depth_of {w : World} : ∀ {l : List Int} {b : Base} {v : Value} (n : Nat), Ch w l b v → l.length ≤ n → depth w n v = l.length
  | [], b, v, n, h, _ => by
    subst h
    cases n <;> cases b <;> simp [depth, Base.val]
  | x :: l, b, v, n, ⟨p, u, e, _, _, h1, h2⟩, hn => by
    subst e
    cases n with
    | zero => simp at hn
    | succ n => simp [depth, h1, depth_of n h2 (by simpa using hn)]

/-! ### What the assertions find -/
theorem noIsF (v : Value) (xT : TypeId) (w : World) : (Instr.typeAssert (.iface 39 v) xT 81 true).run Tryd.prog w = .ok (.tuple #[.nilIface, .bool false]) w := run_typeAssert_lacksB Tryd.underlying81 (by kernel_rfl) (by kernel_rfl) v xT w
theorem noIsE (v : Value) (xT : TypeId) (w : World) : (Instr.typeAssert (.iface 22 v) xT 81 true).run Tryd.prog w = .ok (.tuple #[.nilIface, .bool false]) w := run_typeAssert_lacksB Tryd.underlying81 (by kernel_rfl) (by kernel_rfl) v xT w
theorem noIsS (v : Value) (xT : TypeId) (w : World) : (Instr.typeAssert (.iface 59 v) xT 81 true).run Tryd.prog w = .ok (.tuple #[.nilIface, .bool false]) w := run_typeAssert_lacksB Tryd.underlying81 (by kernel_rfl) (by kernel_rfl) v xT w
theorem noAsF (v : Value) (xT : TypeId) (w : World) : (Instr.typeAssert (.iface 39 v) xT 90 true).run Tryd.prog w = .ok (.tuple #[.nilIface, .bool false]) w := run_typeAssert_lacksB Tryd.underlying90 (by kernel_rfl) (by kernel_rfl) v xT w
theorem noAsE (v : Value) (xT : TypeId) (w : World) : (Instr.typeAssert (.iface 22 v) xT 90 true).run Tryd.prog w = .ok (.tuple #[.nilIface, .bool false]) w := run_typeAssert_lacksB Tryd.underlying90 (by kernel_rfl) (by kernel_rfl) v xT w
theorem noAsS (v : Value) (xT : TypeId) (w : World) : (Instr.typeAssert (.iface 59 v) xT 90 true).run Tryd.prog w = .ok (.tuple #[.nilIface, .bool false]) w := run_typeAssert_lacksB Tryd.underlying90 (by kernel_rfl) (by kernel_rfl) v xT w
theorem hasUn (v : Value) (xT : TypeId) (w : World) : (Instr.typeAssert (.iface 39 v) xT 83 true).run Tryd.prog w = .ok (.tuple #[.iface 39 v, .bool true]) w := run_typeAssert_hasB Tryd.underlying83 (by kernel_rfl) v xT w
theorem noUnE (v : Value) (xT : TypeId) (w : World) : (Instr.typeAssert (.iface 22 v) xT 83 true).run Tryd.prog w = .ok (.tuple #[.nilIface, .bool false]) w := run_typeAssert_lacksB Tryd.underlying83 (by kernel_rfl) (by kernel_rfl) v xT w
theorem noUnS (v : Value) (xT : TypeId) (w : World) : (Instr.typeAssert (.iface 59 v) xT 83 true).run Tryd.prog w = .ok (.tuple #[.nilIface, .bool false]) w := run_typeAssert_lacksB Tryd.underlying83 (by kernel_rfl) (by kernel_rfl) v xT w
theorem noUnsE (v : Value) (xT : TypeId) (w : World) : (Instr.typeAssert (.iface 22 v) xT 84 true).run Tryd.prog w = .ok (.tuple #[.nilIface, .bool false]) w := run_typeAssert_lacksB Tryd.underlying84 (by kernel_rfl) (by kernel_rfl) v xT w
theorem noUnsS (v : Value) (xT : TypeId) (w : World) : (Instr.typeAssert (.iface 59 v) xT 84 true).run Tryd.prog w = .ok (.tuple #[.nilIface, .bool false]) w := run_typeAssert_lacksB Tryd.underlying84 (by kernel_rfl) (by kernel_rfl) v xT w
theorem methodUnwrap (v : Value) (w : World) : (Go.method 222 39 v "Unwrap").run Tryd.prog w = .ok (17, v) w := by kernel_rfl

/-- '==' of two errors of a number. -/
theorem eqE (a b : Int) (w : World) : (binOp .eql 26 (.iface 22 (.int .i64 a)) (.iface 22 (.int .i64 b))).run Tryd.prog w = .ok (.bool (a == b)) w := by kernel_rfl
theorem eqF (a : Addr) (b : Int) (w : World) : (binOp .eql 26 (.iface 39 (.pointer (some a))) (.iface 22 (.int .i64 b))).run Tryd.prog w = .ok (.bool false) w := run_eql_iface_types _ _ _ _ Tryd.underlying26 (by decide) w
theorem eqS (a : Addr) (b : Int) (w : World) : (binOp .eql 26 (.iface 59 (.pointer (some a))) (.iface 22 (.int .i64 b))).run Tryd.prog w = .ok (.bool false) w := run_eql_iface_types _ _ _ _ Tryd.underlying26 (by decide) w

theorem unwrap_cons {x : Int} {l : List Int} {b : Base} {v : Value} {w : World} (h : Ch w (x :: l) b v) :
    Calls Tryd.prog 29 #[v] w fun e w' => ∃ u, e = .returned u ∧ w' = w ∧ Ch w l b u := by
  obtain ⟨p, u, rfl, hp, h0, h1, h2⟩ := h
  have a1 := hasUn
  have m1 := methodUnwrap
  go_enter Tryd.func29, Tryd.ntmps29
  go_wp2
  go_ret
  exact ⟨u, rfl, rfl, h2⟩
theorem unwrap_base (b : Base) (w : World) : Calls Tryd.prog 29 #[b.val] w fun e w' => e = .returned .nilIface ∧ w' = w := by
  have a1 := noUnE
  have a2 := noUnS
  cases b
  · unfold Base.val
    go_enter Tryd.func29, Tryd.ntmps29
    go_wp2
    go_ret
    exact ⟨rfl, rfl⟩
  · unfold Base.val
    go_enter Tryd.func29, Tryd.ntmps29
    go_wp2
    go_ret
    exact ⟨rfl, rfl⟩

end Go.Proofs.YtlbgniiecbohcaaDoor.Errs
