/-
  The lock of package sync in this program, and the words that it stands on.
-/
import Derived.Test.YtbmkknbbikoilaaRows
import Derived.Conc.RwLib
import Derived.Conc.MuData
import Derived.Conc.MuLone
import Derived.Defers
import Derived.Test.YtbmkknbbikoilaaJoinB2
import Derived.KernelRfl
namespace Go.Proofs.Ytbmkknbbikoilaa
open Go.RowKit Go.MuLone

abbrev muL : Go.Conc.Locks.MuLink := { lock := 77, unlock := 78, ilock := 82, iunlock := 83, lockSlow := 91, unlockSlow := 94, disable := 87, enable := 89, acquire := 90, relMerge := 92, cas32 := 88, add32 := 93, tMutex := 109, tIMutex := 107, tPMutex := 133, tPIMutex := 136, tPI32 := 138, tUP := 140, tNoCopy := 101, tU32 := 103 }
theorem muLib : Go.Conc.Locks.MuLib Try.prog muL :=
  ⟨Try.func77, Try.func78, Try.func82, Try.func83, Try.func87, Try.func89, Try.func90, Try.func92, Try.func88, Try.func93, Try.underlying107, Try.runUnderlying107, Try.sizeOf107, Try.isAgg107, Try.zeroValue107, Try.underlying109, Try.runUnderlying109, Try.sizeOf109, Try.isAgg109, Try.zeroValue109, Try.underlying133, Try.runUnderlying133, Try.sizeOf133, Try.isAgg133, Try.zeroValue133, Try.underlying136, Try.runUnderlying136, Try.sizeOf136, Try.isAgg136, Try.zeroValue136, Try.underlying138, Try.runUnderlying138, Try.sizeOf138, Try.isAgg138, Try.zeroValue138, Try.underlying140, Try.runUnderlying140, Try.sizeOf140, Try.isAgg140, Try.zeroValue140, Try.underlying101, Try.runUnderlying101, Try.sizeOf101, Try.isAgg101, Try.zeroValue101, Try.underlying21, Try.runUnderlying21, Try.sizeOf21, Try.isAgg21, Try.zeroValue21, (by kernel_rfl)⟩
end Go.Proofs.Ytbmkknbbikoilaa
