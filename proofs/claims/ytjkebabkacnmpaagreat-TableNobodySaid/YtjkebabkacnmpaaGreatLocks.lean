/- The lock's functions and types in this translation, and that it holds them. -/
import Derived.Test.YtjkebabkacnmpaaGreatCommon
import Derived.Conc.RwLib
import Derived.Conc.MuData
import Derived.KernelRfl
namespace Go.Proofs.YtjkebabkacnmpaaGreat
open Go

abbrev muLink : Go.Conc.Locks.MuLink := { lock := 25, unlock := 26, ilock := 41, iunlock := 42, lockSlow := 72, unlockSlow := 75, disable := 68, enable := 70, acquire := 71, relMerge := 73, cas32 := 69, add32 := 74, tMutex := 70, tIMutex := 68, tPMutex := 92, tPIMutex := 113, tPI32 := 115, tUP := 79, tNoCopy := 65, tU32 := 66 }
theorem muLib : Go.Conc.Locks.MuLib Tryz.prog muLink :=
  ⟨Tryz.func25, Tryz.func26, Tryz.func41, Tryz.func42, Tryz.func68, Tryz.func70, Tryz.func71, Tryz.func73, Tryz.func69, Tryz.func74,
   Tryz.underlying68, Tryz.runUnderlying68, Tryz.sizeOf68, Tryz.isAgg68, Tryz.zeroValue68,
   Tryz.underlying70, Tryz.runUnderlying70, Tryz.sizeOf70, Tryz.isAgg70, Tryz.zeroValue70,
   Tryz.underlying92, Tryz.runUnderlying92, Tryz.sizeOf92, Tryz.isAgg92, Tryz.zeroValue92,
   Tryz.underlying113, Tryz.runUnderlying113, Tryz.sizeOf113, Tryz.isAgg113, Tryz.zeroValue113,
   Tryz.underlying115, Tryz.runUnderlying115, Tryz.sizeOf115, Tryz.isAgg115, Tryz.zeroValue115,
   Tryz.underlying79, Tryz.runUnderlying79, Tryz.sizeOf79, Tryz.isAgg79, Tryz.zeroValue79,
   Tryz.underlying65, Tryz.runUnderlying65, Tryz.sizeOf65, Tryz.isAgg65, Tryz.zeroValue65,
   Tryz.underlying21, Tryz.runUnderlying21, Tryz.sizeOf21, Tryz.isAgg21, Tryz.zeroValue21, (by kernel_rfl)⟩
end Go.Proofs.YtjkebabkacnmpaaGreat
