/-
  No cell of these rows narrows 'for every input' (looked for: loops, veiled, ifaces, maps, wideKeys, modest, calm, conditions, laid).
  DERIVED. THE GIVEN ROWS OF THIS SEAT. 6 by the template 'for every input the law returns true; each argument reads behind the call as it read before'; 0 by the template 'total and deterministic' (their statements: YtiipfedjjhpbpaaTotals.lean).
  GIVEN WITH THE SEED: the statements are not yours to turn. If you find one false, say at which input.
  Laid BY PROGRAM, IN A SANDBOX (cutbox-rows.mjs): the forced cells as the released guide's own fill.sh prints them over the translation 250e0fed2a8d418f… (all of the seat's roots in one cut). By AI agents, Wed Nov 11 2026. No macro, syntax, notation, axiom, sorry.
-/
import Derived.Test.YtiipfedjjhpbpaaChecked
import GoSem.Claim
import GoSem.ClaimJoined
import GoSem.ClaimMapViews
import Derived.JoinedTies
import Derived.KernelRfl
namespace Go.Proofs.Ytiipfedjjhpbpaa
/- THE CELL 'sum', in the pinned program and in every row, IS THE sha256 OF THE DUMP (.gsa) THAT YtiipfedjjhpbpaaProg.lean LOADS. Nothing in Lean hashes anything: it is a label: what it is worth is what the hold of that sum in a sandbox is worth. -/
noncomputable def Try.pinned : Pinned := { name := "ytiipfedjjhpbpaa", sum := "250e0fed2a8d418f71224b69d84fb0ee745bc6b0597ded08b96ea934e65b0a77", checked := Try.checked }
namespace Rows
def none {H : Type} : Left H := { results := [], args := [] }

/-- 'laws.FnBagKept': WHATEVER THE INPUT: true; the input reads as it did. -/
def fnBagKeptSpec : ChangeSpec := { name := "fnBagKept", fn := fun _ => fun
  | [d] => { results := [.lit (.bool true)], args := [d] }
  | _ => none }
def fnBagKeptRow : OpenClaim := { program := "ytiipfedjjhpbpaa", sum := "250e0fed2a8d418f71224b69d84fb0ee745bc6b0597ded08b96ea934e65b0a77", func := "loop.example/belfry/laws.FnBagKept", spec := "fnBagKept", inPlace := ["(*internal/sync.Mutex).Lock", "internal/race.Disable", "sync/atomic.CompareAndSwapInt32", "internal/race.Enable", "internal/race.Acquire", "(*internal/sync.Mutex).lockSlow", "internal/sync.runtime_canSpin", "internal/sync.runtime_doSpin", "internal/sync.throw", "internal/sync.runtime_nanotime", "internal/sync.runtime_SemacquireMutex", "sync/atomic.AddInt32", "(*internal/sync.Mutex).Unlock", "internal/race.ReleaseMerge", "(*internal/sync.Mutex).unlockSlow", "internal/sync.fatal", "internal/sync.runtime_Semrelease", "sync/atomic.AddInt64", "sync/atomic.LoadInt64"], apart := false }
def FnBagKeptSaid : Prop := fnBagKeptRow.holds Try.pinned (OpenSpec.ofChange fnBagKeptSpec)

/-- ITS FALSE NEIGHBOUR: 'it returns false'. Refute it at one input. -/
def fnBagKeptWrong : ChangeSpec := { name := "fnBagKept", fn := fun _ => fun
  | [d] => { results := [.lit (.bool false)], args := [d] }
  | _ => none }
def FnBagKeptWrongFalsely : Prop := fnBagKeptRow.holds Try.pinned (OpenSpec.ofChange fnBagKeptWrong)

/-- 'laws.FnBagBack': WHATEVER THE INPUT: true; the input reads as it did. -/
def fnBagBackSpec : ChangeSpec := { name := "fnBagBack", fn := fun _ => fun
  | [d] => { results := [.lit (.bool true)], args := [d] }
  | _ => none }
def fnBagBackRow : OpenClaim := { program := "ytiipfedjjhpbpaa", sum := "250e0fed2a8d418f71224b69d84fb0ee745bc6b0597ded08b96ea934e65b0a77", func := "loop.example/belfry/laws.FnBagBack", spec := "fnBagBack", inPlace := ["(*internal/sync.Mutex).Lock", "internal/race.Disable", "sync/atomic.CompareAndSwapInt32", "internal/race.Enable", "internal/race.Acquire", "(*internal/sync.Mutex).lockSlow", "internal/sync.runtime_canSpin", "internal/sync.runtime_doSpin", "internal/sync.throw", "internal/sync.runtime_nanotime", "internal/sync.runtime_SemacquireMutex", "sync/atomic.AddInt32", "(*internal/sync.Mutex).Unlock", "internal/race.ReleaseMerge", "(*internal/sync.Mutex).unlockSlow", "internal/sync.fatal", "internal/sync.runtime_Semrelease", "sync/atomic.AddInt64", "sync/atomic.LoadInt64"], apart := false }
def FnBagBackSaid : Prop := fnBagBackRow.holds Try.pinned (OpenSpec.ofChange fnBagBackSpec)

/-- ITS FALSE NEIGHBOUR: 'it returns false'. Refute it at one input. -/
def fnBagBackWrong : ChangeSpec := { name := "fnBagBack", fn := fun _ => fun
  | [d] => { results := [.lit (.bool false)], args := [d] }
  | _ => none }
def FnBagBackWrongFalsely : Prop := fnBagBackRow.holds Try.pinned (OpenSpec.ofChange fnBagBackWrong)

/-- 'laws.FnBagPlaces': WHATEVER THE INPUT: true; the input reads as it did. -/
def fnBagPlacesSpec : ChangeSpec := { name := "fnBagPlaces", fn := fun _ => fun
  | [d] => { results := [.lit (.bool true)], args := [d] }
  | _ => none }
def fnBagPlacesRow : OpenClaim := { program := "ytiipfedjjhpbpaa", sum := "250e0fed2a8d418f71224b69d84fb0ee745bc6b0597ded08b96ea934e65b0a77", func := "loop.example/belfry/laws.FnBagPlaces", spec := "fnBagPlaces", inPlace := ["(*internal/sync.Mutex).Lock", "internal/race.Disable", "sync/atomic.CompareAndSwapInt32", "internal/race.Enable", "internal/race.Acquire", "(*internal/sync.Mutex).lockSlow", "internal/sync.runtime_canSpin", "internal/sync.runtime_doSpin", "internal/sync.throw", "internal/sync.runtime_nanotime", "internal/sync.runtime_SemacquireMutex", "sync/atomic.AddInt32", "(*internal/sync.Mutex).Unlock", "internal/race.ReleaseMerge", "(*internal/sync.Mutex).unlockSlow", "internal/sync.fatal", "internal/sync.runtime_Semrelease"], apart := false }
def FnBagPlacesSaid : Prop := fnBagPlacesRow.holds Try.pinned (OpenSpec.ofChange fnBagPlacesSpec)

/-- ITS FALSE NEIGHBOUR: 'it returns false'. Refute it at one input. -/
def fnBagPlacesWrong : ChangeSpec := { name := "fnBagPlaces", fn := fun _ => fun
  | [d] => { results := [.lit (.bool false)], args := [d] }
  | _ => none }
def FnBagPlacesWrongFalsely : Prop := fnBagPlacesRow.holds Try.pinned (OpenSpec.ofChange fnBagPlacesWrong)

/-- 'laws.FnExactBagSend': WHATEVER THE INPUT: true; the input reads as it did. -/
def fnExactBagSendSpec : ChangeSpec := { name := "fnExactBagSend", fn := fun _ => fun
  | [d1, d2] => { results := [.lit (.bool true)], args := [d1, d2] }
  | _ => none }
def fnExactBagSendRow : OpenClaim := { program := "ytiipfedjjhpbpaa", sum := "250e0fed2a8d418f71224b69d84fb0ee745bc6b0597ded08b96ea934e65b0a77", func := "loop.example/belfry/laws.FnExactBagSend", spec := "fnExactBagSend", inPlace := ["(*internal/sync.Mutex).Lock", "internal/race.Disable", "sync/atomic.CompareAndSwapInt32", "internal/race.Enable", "internal/race.Acquire", "(*internal/sync.Mutex).lockSlow", "internal/sync.runtime_canSpin", "internal/sync.runtime_doSpin", "internal/sync.throw", "internal/sync.runtime_nanotime", "internal/sync.runtime_SemacquireMutex", "sync/atomic.AddInt32", "(*internal/sync.Mutex).Unlock", "internal/race.ReleaseMerge", "(*internal/sync.Mutex).unlockSlow", "internal/sync.fatal", "internal/sync.runtime_Semrelease", "sync/atomic.AddInt64", "sync/atomic.LoadInt64"], apart := false }
def FnExactBagSendSaid : Prop := fnExactBagSendRow.holds Try.pinned (OpenSpec.ofChange fnExactBagSendSpec)

/-- ITS FALSE NEIGHBOUR: 'it returns false'. Refute it at one input. -/
def fnExactBagSendWrong : ChangeSpec := { name := "fnExactBagSend", fn := fun _ => fun
  | [d1, d2] => { results := [.lit (.bool false)], args := [d1, d2] }
  | _ => none }
def FnExactBagSendWrongFalsely : Prop := fnExactBagSendRow.holds Try.pinned (OpenSpec.ofChange fnExactBagSendWrong)

/-- 'laws.FnExactBagTake': WHATEVER THE INPUT: true; the input reads as it did. -/
def fnExactBagTakeSpec : ChangeSpec := { name := "fnExactBagTake", fn := fun _ => fun
  | [d1, d2] => { results := [.lit (.bool true)], args := [d1, d2] }
  | _ => none }
def fnExactBagTakeRow : OpenClaim := { program := "ytiipfedjjhpbpaa", sum := "250e0fed2a8d418f71224b69d84fb0ee745bc6b0597ded08b96ea934e65b0a77", func := "loop.example/belfry/laws.FnExactBagTake", spec := "fnExactBagTake", inPlace := ["(*internal/sync.Mutex).Lock", "internal/race.Disable", "sync/atomic.CompareAndSwapInt32", "internal/race.Enable", "internal/race.Acquire", "(*internal/sync.Mutex).lockSlow", "internal/sync.runtime_canSpin", "internal/sync.runtime_doSpin", "internal/sync.throw", "internal/sync.runtime_nanotime", "internal/sync.runtime_SemacquireMutex", "sync/atomic.AddInt32", "(*internal/sync.Mutex).Unlock", "internal/race.ReleaseMerge", "(*internal/sync.Mutex).unlockSlow", "internal/sync.fatal", "internal/sync.runtime_Semrelease"], apart := false }
def FnExactBagTakeSaid : Prop := fnExactBagTakeRow.holds Try.pinned (OpenSpec.ofChange fnExactBagTakeSpec)

/-- ITS FALSE NEIGHBOUR: 'it returns false'. Refute it at one input. -/
def fnExactBagTakeWrong : ChangeSpec := { name := "fnExactBagTake", fn := fun _ => fun
  | [d1, d2] => { results := [.lit (.bool false)], args := [d1, d2] }
  | _ => none }
def FnExactBagTakeWrongFalsely : Prop := fnExactBagTakeRow.holds Try.pinned (OpenSpec.ofChange fnExactBagTakeWrong)

/-- 'laws.FnExactBagDouble': WHATEVER THE INPUT: true; the input reads as it did. -/
def fnExactBagDoubleSpec : ChangeSpec := { name := "fnExactBagDouble", fn := fun _ => fun
  | [d1, d2] => { results := [.lit (.bool true)], args := [d1, d2] }
  | _ => none }
def fnExactBagDoubleRow : OpenClaim := { program := "ytiipfedjjhpbpaa", sum := "250e0fed2a8d418f71224b69d84fb0ee745bc6b0597ded08b96ea934e65b0a77", func := "loop.example/belfry/laws.FnExactBagDouble", spec := "fnExactBagDouble", inPlace := ["(*internal/sync.Mutex).Lock", "internal/race.Disable", "sync/atomic.CompareAndSwapInt32", "internal/race.Enable", "internal/race.Acquire", "(*internal/sync.Mutex).lockSlow", "internal/sync.runtime_canSpin", "internal/sync.runtime_doSpin", "internal/sync.throw", "internal/sync.runtime_nanotime", "internal/sync.runtime_SemacquireMutex", "sync/atomic.AddInt32", "(*internal/sync.Mutex).Unlock", "internal/race.ReleaseMerge", "(*internal/sync.Mutex).unlockSlow", "internal/sync.fatal", "internal/sync.runtime_Semrelease", "sync/atomic.AddInt64", "sync/atomic.LoadInt64"], apart := false }
def FnExactBagDoubleSaid : Prop := fnExactBagDoubleRow.holds Try.pinned (OpenSpec.ofChange fnExactBagDoubleSpec)

/-- ITS FALSE NEIGHBOUR: 'it returns false'. Refute it at one input. -/
def fnExactBagDoubleWrong : ChangeSpec := { name := "fnExactBagDouble", fn := fun _ => fun
  | [d1, d2] => { results := [.lit (.bool false)], args := [d1, d2] }
  | _ => none }
def FnExactBagDoubleWrongFalsely : Prop := fnExactBagDoubleRow.holds Try.pinned (OpenSpec.ofChange fnExactBagDoubleWrong)

/- THE SECOND FORM. 'bulk': how many values and letters a reading holds, each counted each time it is reached (what is shared counts as often as it is met; a slice's spare places count too). A statement '..UptoSaid' is the law's where the arguments, and the package variables that the reading takes, are together of bulk at most 1048576: NARROWER than '..Said'. Prove '..Said' where nothing that the law and all that it calls make is longer than what came in: it says more and counts as full. Else prove '..UptoSaid'. A law counts once. -/
mutual
def uptoBulk {H : Type} : DataW H → Nat
  | .lit (.string bytes) => bytes.length + 1
  | .lit _ => 1
  | .nil => 1
  | .ptr d => uptoBulk d + 1
  | .slice elems spare => uptoBulkAll elems + uptoBulkAll spare + 1
  | .agg parts => uptoBulkAll parts + 1
  | .iface _ d => uptoBulk d + 1
  | .map entries => uptoBulkEntries entries + 1
  | .held _ => 1
def uptoBulkAll {H : Type} : List (DataW H) → Nat
  | [] => 0
  | d :: r => uptoBulk d + uptoBulkAll r
def uptoBulkEntries {H : Type} : List (Lit × DataW H) → Nat
  | [] => 0
  | x :: r => uptoBulkEntry x + uptoBulkEntries r
def uptoBulkEntry {H : Type} : Lit × DataW H → Nat
  | (.string bytes, d) => bytes.length + uptoBulk d + 1
  | (_, d) => uptoBulk d + 1
 end
def uptoSmall : (H : Type) → List (DataW H) → Bool := fun _ ds => decide (uptoBulkAll ds ≤ 1048576)
def OpenSpec.upto (s : _root_.Go.ChangeSpec) : _root_.Go.OpenSpec := { _root_.Go.OpenSpec.ofChange s with cond := some uptoSmall }

/-- 'laws.FnBagKept', WHERE WHAT IT READS IS OF BULK AT MOST 1048576: true; the input reads as it did. -/
def fnBagKeptUptoRow : OpenClaim := { program := "ytiipfedjjhpbpaa", sum := "250e0fed2a8d418f71224b69d84fb0ee745bc6b0597ded08b96ea934e65b0a77", func := "loop.example/belfry/laws.FnBagKept", spec := "fnBagKept", inPlace := ["(*internal/sync.Mutex).Lock", "internal/race.Disable", "sync/atomic.CompareAndSwapInt32", "internal/race.Enable", "internal/race.Acquire", "(*internal/sync.Mutex).lockSlow", "internal/sync.runtime_canSpin", "internal/sync.runtime_doSpin", "internal/sync.throw", "internal/sync.runtime_nanotime", "internal/sync.runtime_SemacquireMutex", "sync/atomic.AddInt32", "(*internal/sync.Mutex).Unlock", "internal/race.ReleaseMerge", "(*internal/sync.Mutex).unlockSlow", "internal/sync.fatal", "internal/sync.runtime_Semrelease", "sync/atomic.AddInt64", "sync/atomic.LoadInt64"], apart := false, narrowed := true }
def FnBagKeptUptoSaid : Prop := fnBagKeptUptoRow.holds Try.pinned (OpenSpec.upto fnBagKeptSpec)

/-- 'laws.FnBagBack', WHERE WHAT IT READS IS OF BULK AT MOST 1048576: true; the input reads as it did. -/
def fnBagBackUptoRow : OpenClaim := { program := "ytiipfedjjhpbpaa", sum := "250e0fed2a8d418f71224b69d84fb0ee745bc6b0597ded08b96ea934e65b0a77", func := "loop.example/belfry/laws.FnBagBack", spec := "fnBagBack", inPlace := ["(*internal/sync.Mutex).Lock", "internal/race.Disable", "sync/atomic.CompareAndSwapInt32", "internal/race.Enable", "internal/race.Acquire", "(*internal/sync.Mutex).lockSlow", "internal/sync.runtime_canSpin", "internal/sync.runtime_doSpin", "internal/sync.throw", "internal/sync.runtime_nanotime", "internal/sync.runtime_SemacquireMutex", "sync/atomic.AddInt32", "(*internal/sync.Mutex).Unlock", "internal/race.ReleaseMerge", "(*internal/sync.Mutex).unlockSlow", "internal/sync.fatal", "internal/sync.runtime_Semrelease", "sync/atomic.AddInt64", "sync/atomic.LoadInt64"], apart := false, narrowed := true }
def FnBagBackUptoSaid : Prop := fnBagBackUptoRow.holds Try.pinned (OpenSpec.upto fnBagBackSpec)

/-- 'laws.FnBagPlaces', WHERE WHAT IT READS IS OF BULK AT MOST 1048576: true; the input reads as it did. -/
def fnBagPlacesUptoRow : OpenClaim := { program := "ytiipfedjjhpbpaa", sum := "250e0fed2a8d418f71224b69d84fb0ee745bc6b0597ded08b96ea934e65b0a77", func := "loop.example/belfry/laws.FnBagPlaces", spec := "fnBagPlaces", inPlace := ["(*internal/sync.Mutex).Lock", "internal/race.Disable", "sync/atomic.CompareAndSwapInt32", "internal/race.Enable", "internal/race.Acquire", "(*internal/sync.Mutex).lockSlow", "internal/sync.runtime_canSpin", "internal/sync.runtime_doSpin", "internal/sync.throw", "internal/sync.runtime_nanotime", "internal/sync.runtime_SemacquireMutex", "sync/atomic.AddInt32", "(*internal/sync.Mutex).Unlock", "internal/race.ReleaseMerge", "(*internal/sync.Mutex).unlockSlow", "internal/sync.fatal", "internal/sync.runtime_Semrelease"], apart := false, narrowed := true }
def FnBagPlacesUptoSaid : Prop := fnBagPlacesUptoRow.holds Try.pinned (OpenSpec.upto fnBagPlacesSpec)

/-- 'laws.FnExactBagSend', WHERE WHAT IT READS IS OF BULK AT MOST 1048576: true; the input reads as it did. -/
def fnExactBagSendUptoRow : OpenClaim := { program := "ytiipfedjjhpbpaa", sum := "250e0fed2a8d418f71224b69d84fb0ee745bc6b0597ded08b96ea934e65b0a77", func := "loop.example/belfry/laws.FnExactBagSend", spec := "fnExactBagSend", inPlace := ["(*internal/sync.Mutex).Lock", "internal/race.Disable", "sync/atomic.CompareAndSwapInt32", "internal/race.Enable", "internal/race.Acquire", "(*internal/sync.Mutex).lockSlow", "internal/sync.runtime_canSpin", "internal/sync.runtime_doSpin", "internal/sync.throw", "internal/sync.runtime_nanotime", "internal/sync.runtime_SemacquireMutex", "sync/atomic.AddInt32", "(*internal/sync.Mutex).Unlock", "internal/race.ReleaseMerge", "(*internal/sync.Mutex).unlockSlow", "internal/sync.fatal", "internal/sync.runtime_Semrelease", "sync/atomic.AddInt64", "sync/atomic.LoadInt64"], apart := false, narrowed := true }
def FnExactBagSendUptoSaid : Prop := fnExactBagSendUptoRow.holds Try.pinned (OpenSpec.upto fnExactBagSendSpec)

/-- 'laws.FnExactBagTake', WHERE WHAT IT READS IS OF BULK AT MOST 1048576: true; the input reads as it did. -/
def fnExactBagTakeUptoRow : OpenClaim := { program := "ytiipfedjjhpbpaa", sum := "250e0fed2a8d418f71224b69d84fb0ee745bc6b0597ded08b96ea934e65b0a77", func := "loop.example/belfry/laws.FnExactBagTake", spec := "fnExactBagTake", inPlace := ["(*internal/sync.Mutex).Lock", "internal/race.Disable", "sync/atomic.CompareAndSwapInt32", "internal/race.Enable", "internal/race.Acquire", "(*internal/sync.Mutex).lockSlow", "internal/sync.runtime_canSpin", "internal/sync.runtime_doSpin", "internal/sync.throw", "internal/sync.runtime_nanotime", "internal/sync.runtime_SemacquireMutex", "sync/atomic.AddInt32", "(*internal/sync.Mutex).Unlock", "internal/race.ReleaseMerge", "(*internal/sync.Mutex).unlockSlow", "internal/sync.fatal", "internal/sync.runtime_Semrelease"], apart := false, narrowed := true }
def FnExactBagTakeUptoSaid : Prop := fnExactBagTakeUptoRow.holds Try.pinned (OpenSpec.upto fnExactBagTakeSpec)

/-- 'laws.FnExactBagDouble', WHERE WHAT IT READS IS OF BULK AT MOST 1048576: true; the input reads as it did. -/
def fnExactBagDoubleUptoRow : OpenClaim := { program := "ytiipfedjjhpbpaa", sum := "250e0fed2a8d418f71224b69d84fb0ee745bc6b0597ded08b96ea934e65b0a77", func := "loop.example/belfry/laws.FnExactBagDouble", spec := "fnExactBagDouble", inPlace := ["(*internal/sync.Mutex).Lock", "internal/race.Disable", "sync/atomic.CompareAndSwapInt32", "internal/race.Enable", "internal/race.Acquire", "(*internal/sync.Mutex).lockSlow", "internal/sync.runtime_canSpin", "internal/sync.runtime_doSpin", "internal/sync.throw", "internal/sync.runtime_nanotime", "internal/sync.runtime_SemacquireMutex", "sync/atomic.AddInt32", "(*internal/sync.Mutex).Unlock", "internal/race.ReleaseMerge", "(*internal/sync.Mutex).unlockSlow", "internal/sync.fatal", "internal/sync.runtime_Semrelease", "sync/atomic.AddInt64", "sync/atomic.LoadInt64"], apart := false, narrowed := true }
def FnExactBagDoubleUptoSaid : Prop := fnExactBagDoubleUptoRow.holds Try.pinned (OpenSpec.upto fnExactBagDoubleSpec)

end Rows
end Go.Proofs.Ytiipfedjjhpbpaa
