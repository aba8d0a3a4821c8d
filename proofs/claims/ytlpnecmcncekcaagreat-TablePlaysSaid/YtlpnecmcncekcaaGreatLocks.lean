/- The lock's functions and types in this translation, and that it holds them. -/
import Derived.Test.YtlpnecmcncekcaaGreatCommon
import Derived.Conc.RwLib
import Derived.Conc.MuData
import Derived.KernelRfl
namespace Go.Proofs.YtlpnecmcncekcaaGreat
open Go

abbrev muLink : Go.Conc.Locks.MuLink := { lock := 46, unlock := 47, ilock := 78, iunlock := 79, lockSlow := 107, unlockSlow := 110, disable := 103, enable := 105, acquire := 106, relMerge := 108, cas32 := 104, add32 := 109, tMutex := 101, tIMutex := 99, tPMutex := 121, tPIMutex := 136, tPI32 := 138, tUP := 106, tNoCopy := 96, tU32 := 97 }
theorem muLib : Go.Conc.Locks.MuLib Tryz.prog muLink :=
  ⟨Tryz.func46, Tryz.func47, Tryz.func78, Tryz.func79, Tryz.func103, Tryz.func105, Tryz.func106, Tryz.func108, Tryz.func104, Tryz.func109,
   Tryz.underlying99, Tryz.runUnderlying99, Tryz.sizeOf99, Tryz.isAgg99, Tryz.zeroValue99,
   Tryz.underlying101, Tryz.runUnderlying101, Tryz.sizeOf101, Tryz.isAgg101, Tryz.zeroValue101,
   Tryz.underlying121, Tryz.runUnderlying121, Tryz.sizeOf121, Tryz.isAgg121, Tryz.zeroValue121,
   Tryz.underlying136, Tryz.runUnderlying136, Tryz.sizeOf136, Tryz.isAgg136, Tryz.zeroValue136,
   Tryz.underlying138, Tryz.runUnderlying138, Tryz.sizeOf138, Tryz.isAgg138, Tryz.zeroValue138,
   Tryz.underlying106, Tryz.runUnderlying106, Tryz.sizeOf106, Tryz.isAgg106, Tryz.zeroValue106,
   Tryz.underlying96, Tryz.runUnderlying96, Tryz.sizeOf96, Tryz.isAgg96, Tryz.zeroValue96,
   Tryz.underlying21, Tryz.runUnderlying21, Tryz.sizeOf21, Tryz.isAgg21, Tryz.zeroValue21, (by kernel_rfl)⟩
end Go.Proofs.YtlpnecmcncekcaaGreat
