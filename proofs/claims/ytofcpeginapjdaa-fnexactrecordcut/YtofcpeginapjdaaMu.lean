/-
  The lock of package sync in this program, and the words that it stands on.
-/
import Derived.Test.YtofcpeginapjdaaRows
import Derived.Conc.RwLib
import Derived.Conc.MuData
import Derived.Conc.MuLone
import Derived.Defers
import Derived.Test.YtofcpeginapjdaaJoinB2
import Derived.KernelRfl
namespace Go.Proofs.Ytofcpeginapjdaa
open Go.RowKit Go.MuLone

abbrev muL : Go.Conc.Locks.MuLink := { lock := 81, unlock := 82, ilock := 86, iunlock := 87, lockSlow := 94, unlockSlow := 97, disable := 90, enable := 92, acquire := 93, relMerge := 95, cas32 := 91, add32 := 96, tMutex := 109, tIMutex := 107, tPMutex := 145, tPIMutex := 148, tPI32 := 150, tUP := 152, tNoCopy := 101, tU32 := 103 }
theorem muLib : Go.Conc.Locks.MuLib Try.prog muL :=
  ⟨Try.func81, Try.func82, Try.func86, Try.func87, Try.func90, Try.func92, Try.func93, Try.func95, Try.func91, Try.func96, Try.underlying107, Try.runUnderlying107, Try.sizeOf107, Try.isAgg107, Try.zeroValue107, Try.underlying109, Try.runUnderlying109, Try.sizeOf109, Try.isAgg109, Try.zeroValue109, Try.underlying145, Try.runUnderlying145, Try.sizeOf145, Try.isAgg145, Try.zeroValue145, Try.underlying148, Try.runUnderlying148, Try.sizeOf148, Try.isAgg148, Try.zeroValue148, Try.underlying150, Try.runUnderlying150, Try.sizeOf150, Try.isAgg150, Try.zeroValue150, Try.underlying152, Try.runUnderlying152, Try.sizeOf152, Try.isAgg152, Try.zeroValue152, Try.underlying101, Try.runUnderlying101, Try.sizeOf101, Try.isAgg101, Try.zeroValue101, Try.underlying21, Try.runUnderlying21, Try.sizeOf21, Try.isAgg21, Try.zeroValue21, (by kernel_rfl)⟩
end Go.Proofs.Ytofcpeginapjdaa
