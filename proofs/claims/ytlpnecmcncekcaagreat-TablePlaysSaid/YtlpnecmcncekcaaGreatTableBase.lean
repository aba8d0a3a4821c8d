import Derived.Test.YtlpnecmcncekcaaGreatBlocks
import Derived.Test.YtlpnecmcncekcaaGreatFn
/- Tables: small things about blocks, boxes and answers; byOwner. -/
namespace Go.Proofs.YtlpnecmcncekcaaGreat.Mk
open Go Go.RowKit Go.MuLone

/-- an operation's value -/
def opV (kd who : Int) (k : K3) (sd ac ep nn : Int) : Value := .agg #[.int .i64 kd, .int .i64 who, .int .i64 k.c, .int .i64 k.f, .int .u64 k.s, .int .i64 sd, .int .i64 ac, .int .u64 ep, .int .u64 nn]
def retV (e : Int) : Value := .agg #[.int .i64 e, .int .u64 0, .int .u64 0, .int .u64 0]
set_option maxRecDepth 20000 in
theorem byClaim (p : Option Addr) (W : World) : Calls Tryz.prog 34 #[.pointer p, .int .i64 2] W fun e w' => e = .returned (.func (.func 52) #[.pointer p] #[]) ∧ w' = W := by
  go_enter Tryz.func34, Tryz.ntmps34
  go_wp2
  go_ret
  exact ⟨rfl, rfl⟩
set_option maxRecDepth 20000 in
theorem byRelease (p : Option Addr) (W : World) : Calls Tryz.prog 34 #[.pointer p, .int .i64 3] W fun e w' => e = .returned (.func (.func 53) #[.pointer p] #[]) ∧ w' = W := by
  go_enter Tryz.func34, Tryz.ntmps34
  go_wp2
  go_ret
  exact ⟨rfl, rfl⟩
set_option maxRecDepth 20000 in
theorem byComplete (p : Option Addr) (W : World) : Calls Tryz.prog 34 #[.pointer p, .int .i64 4] W fun e w' => e = .returned (.func (.func 54) #[.pointer p] #[]) ∧ w' = W := by
  go_enter Tryz.func34, Tryz.ntmps34
  go_wp2
  go_ret
  exact ⟨rfl, rfl⟩
end Go.Proofs.YtlpnecmcncekcaaGreat.Mk
