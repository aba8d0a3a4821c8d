/- The lock's functions and types in this translation, and that it holds them. -/
import Derived.Test.YtpkkomifenlkaaaGreatCommon
import Derived.Conc.RwLib
import Derived.Conc.MuData
import Derived.KernelRfl
namespace Go.Proofs.YtpkkomifenlkaaaGreat
open Go

abbrev muLink : Go.Conc.Locks.MuLink := { lock := 22, unlock := 23, ilock := 46, iunlock := 47, lockSlow := 62, unlockSlow := 65, disable := 58, enable := 60, acquire := 61, relMerge := 63, cas32 := 59, add32 := 64, tMutex := 67, tIMutex := 65, tPMutex := 106, tPIMutex := 121, tPI32 := 123, tUP := 125, tNoCopy := 62, tU32 := 63 }
theorem muLib : Go.Conc.Locks.MuLib Tryz.prog muLink :=
  ⟨Tryz.func22, Tryz.func23, Tryz.func46, Tryz.func47, Tryz.func58, Tryz.func60, Tryz.func61, Tryz.func63, Tryz.func59, Tryz.func64,
   Tryz.underlying65, Tryz.runUnderlying65, Tryz.sizeOf65, Tryz.isAgg65, Tryz.zeroValue65,
   Tryz.underlying67, Tryz.runUnderlying67, Tryz.sizeOf67, Tryz.isAgg67, Tryz.zeroValue67,
   Tryz.underlying106, Tryz.runUnderlying106, Tryz.sizeOf106, Tryz.isAgg106, Tryz.zeroValue106,
   Tryz.underlying121, Tryz.runUnderlying121, Tryz.sizeOf121, Tryz.isAgg121, Tryz.zeroValue121,
   Tryz.underlying123, Tryz.runUnderlying123, Tryz.sizeOf123, Tryz.isAgg123, Tryz.zeroValue123,
   Tryz.underlying125, Tryz.runUnderlying125, Tryz.sizeOf125, Tryz.isAgg125, Tryz.zeroValue125,
   Tryz.underlying62, Tryz.runUnderlying62, Tryz.sizeOf62, Tryz.isAgg62, Tryz.zeroValue62,
   Tryz.underlying21, Tryz.runUnderlying21, Tryz.sizeOf21, Tryz.isAgg21, Tryz.zeroValue21, (by kernel_rfl)⟩
end Go.Proofs.YtpkkomifenlkaaaGreat
