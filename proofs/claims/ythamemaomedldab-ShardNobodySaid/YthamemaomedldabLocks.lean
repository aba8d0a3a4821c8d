/- The lock's functions and types in this translation, and that it holds them. -/
import Derived.Test.YthamemaomedldabCommon
import Derived.Conc.RwLib
import Derived.Conc.MuData
import Derived.KernelRfl
namespace Go.Proofs.Ythamemaomedldab
open Go

abbrev muLink : Go.Conc.Locks.MuLink := { lock := 9, unlock := 10, ilock := 20, iunlock := 21, lockSlow := 36, unlockSlow := 39, disable := 32, enable := 34, acquire := 35, relMerge := 37, cas32 := 33, add32 := 38, tMutex := 45, tIMutex := 43, tPMutex := 56, tPIMutex := 70, tPI32 := 72, tUP := 58, tNoCopy := 40, tU32 := 41 }
theorem muLib : Go.Conc.Locks.MuLib Try.prog muLink :=
  ⟨Try.func9, Try.func10, Try.func20, Try.func21, Try.func32, Try.func34, Try.func35, Try.func37, Try.func33, Try.func38,
   Try.underlying43, Try.runUnderlying43, Try.sizeOf43, Try.isAgg43, Try.zeroValue43,
   Try.underlying45, Try.runUnderlying45, Try.sizeOf45, Try.isAgg45, Try.zeroValue45,
   Try.underlying56, Try.runUnderlying56, Try.sizeOf56, Try.isAgg56, Try.zeroValue56,
   Try.underlying70, Try.runUnderlying70, Try.sizeOf70, Try.isAgg70, Try.zeroValue70,
   Try.underlying72, Try.runUnderlying72, Try.sizeOf72, Try.isAgg72, Try.zeroValue72,
   Try.underlying58, Try.runUnderlying58, Try.sizeOf58, Try.isAgg58, Try.zeroValue58,
   Try.underlying40, Try.runUnderlying40, Try.sizeOf40, Try.isAgg40, Try.zeroValue40,
   Try.underlying21, Try.runUnderlying21, Try.sizeOf21, Try.isAgg21, Try.zeroValue21, (by kernel_rfl)⟩
end Go.Proofs.Ythamemaomedldab
