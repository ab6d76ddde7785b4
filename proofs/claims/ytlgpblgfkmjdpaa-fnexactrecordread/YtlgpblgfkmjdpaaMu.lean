/-
  The lock of package sync in this program, and the words that it stands on.
-/
import Derived.Test.YtlgpblgfkmjdpaaRows
import Derived.Conc.RwLib
import Derived.Conc.MuData
import Derived.Conc.MuLone
import Derived.Defers
import Derived.Test.YtlgpblgfkmjdpaaKit
import Derived.KernelRfl
namespace Go.Proofs.Ytlgpblgfkmjdpaa
open Go.RowKit Go.MuLone

abbrev muL : Go.Conc.Locks.MuLink := { lock := 43, unlock := 44, ilock := 47, iunlock := 48, lockSlow := 55, unlockSlow := 58, disable := 51, enable := 53, acquire := 54, relMerge := 56, cas32 := 52, add32 := 57, tMutex := 70, tIMutex := 68, tPMutex := 96, tPIMutex := 99, tPI32 := 101, tUP := 103, tNoCopy := 62, tU32 := 64 }
theorem muLib : Go.Conc.Locks.MuLib Try.prog muL :=
  ⟨Try.func43, Try.func44, Try.func47, Try.func48, Try.func51, Try.func53, Try.func54, Try.func56, Try.func52, Try.func57, Try.underlying68, Try.runUnderlying68, Try.sizeOf68, Try.isAgg68, Try.zeroValue68, Try.underlying70, Try.runUnderlying70, Try.sizeOf70, Try.isAgg70, Try.zeroValue70, Try.underlying96, Try.runUnderlying96, Try.sizeOf96, Try.isAgg96, Try.zeroValue96, Try.underlying99, Try.runUnderlying99, Try.sizeOf99, Try.isAgg99, Try.zeroValue99, Try.underlying101, Try.runUnderlying101, Try.sizeOf101, Try.isAgg101, Try.zeroValue101, Try.underlying103, Try.runUnderlying103, Try.sizeOf103, Try.isAgg103, Try.zeroValue103, Try.underlying62, Try.runUnderlying62, Try.sizeOf62, Try.isAgg62, Try.zeroValue62, Try.underlying21, Try.runUnderlying21, Try.sizeOf21, Try.isAgg21, Try.zeroValue21, (by kernel_rfl)⟩
end Go.Proofs.Ytlgpblgfkmjdpaa
