/-
  The law of BagSend, its letter's parts apart.
-/
import Derived.Test.YtkfofikljlmchaaLawBS
import Derived.Test.YtkfofikljlmchaaRows
import Derived.WalkKit
import Derived.ProofKit
import Derived.OpenShut
import Derived.ShutString
import Derived.ChangeOld
import Derived.Below
import Derived.Lib.SmallJoins
namespace Go.Proofs.Ytkfofikljlmchaa
open Go.RowKit
theorem lawBagSendP (m : Int) (v : Value) (L : List Lt) (f t : Int) (s : ByteArray) (w : World) (h : Lts w v L ∧ ∀ l ∈ L, l.s.size ≤ maxLen) (hs : s.size ≤ maxLen) :
    Calls Try.prog 6 #[.agg #[.int .i64 m, v], .agg #[.int .i64 f, .int .i64 t, .string s]] w fun e w' => e = .returned (.bool true) ∧ Below w.heap.size w w' :=
  lawBagSend m v L ⟨f, t, s⟩ w ⟨h.1, h.2, hs⟩
end Go.Proofs.Ytkfofikljlmchaa

/-
  Two facts of the program that every row asks for.
-/
namespace Go.Proofs.Ytkfofikljlmchaa
open Go.ChangeShapes Go.WideShapes Go.ChangeAt Go.RowKit Go.Joins
namespace Opens
theorem own : ownKnob Try.prog.godebug = none := by kernel_rfl
theorem laidOut : laidOutB Try.prog = true := by kernel_rfl
end Opens
end Go.Proofs.Ytkfofikljlmchaa
