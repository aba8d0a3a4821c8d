/- The lock's functions and types in this translation, and that it holds them. -/
import Derived.Test.YtmdjhcpafjgigaaCommon
import Derived.Conc.RwLib
import Derived.Conc.MuData
import Derived.KernelRfl
namespace Go.Proofs.Ytmdjhcpafjgigaa
open Go

abbrev muLink : Go.Conc.Locks.MuLink := { lock := 24, unlock := 25, ilock := 35, iunlock := 36, lockSlow := 46, unlockSlow := 49, disable := 42, enable := 44, acquire := 45, relMerge := 47, cas32 := 43, add32 := 48, tMutex := 59, tIMutex := 57, tPMutex := 67, tPIMutex := 80, tPI32 := 82, tUP := 68, tNoCopy := 54, tU32 := 55 }
theorem muLib : Go.Conc.Locks.MuLib Try.prog muLink :=
  ⟨Try.func24, Try.func25, Try.func35, Try.func36, Try.func42, Try.func44, Try.func45, Try.func47, Try.func43, Try.func48,
   Try.underlying57, Try.runUnderlying57, Try.sizeOf57, Try.isAgg57, Try.zeroValue57,
   Try.underlying59, Try.runUnderlying59, Try.sizeOf59, Try.isAgg59, Try.zeroValue59,
   Try.underlying67, Try.runUnderlying67, Try.sizeOf67, Try.isAgg67, Try.zeroValue67,
   Try.underlying80, Try.runUnderlying80, Try.sizeOf80, Try.isAgg80, Try.zeroValue80,
   Try.underlying82, Try.runUnderlying82, Try.sizeOf82, Try.isAgg82, Try.zeroValue82,
   Try.underlying68, Try.runUnderlying68, Try.sizeOf68, Try.isAgg68, Try.zeroValue68,
   Try.underlying54, Try.runUnderlying54, Try.sizeOf54, Try.isAgg54, Try.zeroValue54,
   Try.underlying21, Try.runUnderlying21, Try.sizeOf21, Try.isAgg21, Try.zeroValue21, (by kernel_rfl)⟩
end Go.Proofs.Ytmdjhcpafjgigaa
