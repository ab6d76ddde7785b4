/-
  The lock of package sync in this program, and the words that it stands on.
-/
import Derived.Test.YtepgmdgcappfpaaRows
import Derived.Conc.RwLib
import Derived.Conc.MuData
import Derived.Conc.MuLone
import Derived.Defers
import Derived.Test.YtepgmdgcappfpaaJoinB2
import Derived.KernelRfl
namespace Go.Proofs.Ytepgmdgcappfpaa
open Go.RowKit Go.MuLone

abbrev muL : Go.Conc.Locks.MuLink := { lock := 67, unlock := 68, ilock := 71, iunlock := 72, lockSlow := 79, unlockSlow := 82, disable := 75, enable := 77, acquire := 78, relMerge := 80, cas32 := 76, add32 := 81, tMutex := 86, tIMutex := 84, tPMutex := 117, tPIMutex := 120, tPI32 := 122, tUP := 124, tNoCopy := 78, tU32 := 80 }
theorem muLib : Go.Conc.Locks.MuLib Try.prog muL :=
  ⟨Try.func67, Try.func68, Try.func71, Try.func72, Try.func75, Try.func77, Try.func78, Try.func80, Try.func76, Try.func81, Try.underlying84, Try.runUnderlying84, Try.sizeOf84, Try.isAgg84, Try.zeroValue84, Try.underlying86, Try.runUnderlying86, Try.sizeOf86, Try.isAgg86, Try.zeroValue86, Try.underlying117, Try.runUnderlying117, Try.sizeOf117, Try.isAgg117, Try.zeroValue117, Try.underlying120, Try.runUnderlying120, Try.sizeOf120, Try.isAgg120, Try.zeroValue120, Try.underlying122, Try.runUnderlying122, Try.sizeOf122, Try.isAgg122, Try.zeroValue122, Try.underlying124, Try.runUnderlying124, Try.sizeOf124, Try.isAgg124, Try.zeroValue124, Try.underlying78, Try.runUnderlying78, Try.sizeOf78, Try.isAgg78, Try.zeroValue78, Try.underlying21, Try.runUnderlying21, Try.sizeOf21, Try.isAgg21, Try.zeroValue21, (by kernel_rfl)⟩
end Go.Proofs.Ytepgmdgcappfpaa
