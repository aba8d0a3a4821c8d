/- The lock's functions and types in this translation, and that it holds them. -/
import Derived.Test.YtaeackcdhkjhpaaCommon
import Derived.Conc.RwLib
import Derived.Conc.MuData
import Derived.KernelRfl
namespace Go.Proofs.Ytaeackcdhkjhpaa
open Go

abbrev muLink : Go.Conc.Locks.MuLink := { lock := 22, unlock := 23, ilock := 41, iunlock := 42, lockSlow := 52, unlockSlow := 55, disable := 48, enable := 50, acquire := 51, relMerge := 53, cas32 := 49, add32 := 54, tMutex := 69, tIMutex := 67, tPMutex := 79, tPIMutex := 82, tPI32 := 84, tUP := 86, tNoCopy := 64, tU32 := 65 }
theorem muLib : Go.Conc.Locks.MuLib Try.prog muLink :=
  ⟨Try.func22, Try.func23, Try.func41, Try.func42, Try.func48, Try.func50, Try.func51, Try.func53, Try.func49, Try.func54,
   Try.underlying67, Try.runUnderlying67, Try.sizeOf67, Try.isAgg67, Try.zeroValue67,
   Try.underlying69, Try.runUnderlying69, Try.sizeOf69, Try.isAgg69, Try.zeroValue69,
   Try.underlying79, Try.runUnderlying79, Try.sizeOf79, Try.isAgg79, Try.zeroValue79,
   Try.underlying82, Try.runUnderlying82, Try.sizeOf82, Try.isAgg82, Try.zeroValue82,
   Try.underlying84, Try.runUnderlying84, Try.sizeOf84, Try.isAgg84, Try.zeroValue84,
   Try.underlying86, Try.runUnderlying86, Try.sizeOf86, Try.isAgg86, Try.zeroValue86,
   Try.underlying64, Try.runUnderlying64, Try.sizeOf64, Try.isAgg64, Try.zeroValue64,
   Try.underlying21, Try.runUnderlying21, Try.sizeOf21, Try.isAgg21, Try.zeroValue21, (by kernel_rfl)⟩
end Go.Proofs.Ytaeackcdhkjhpaa
