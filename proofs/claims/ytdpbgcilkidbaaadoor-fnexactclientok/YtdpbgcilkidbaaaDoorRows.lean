/-
  NARROWER THAN 'FOR EVERY INPUT', by the rows' own cells (each row's printed sentence says how): FnExactClientOk: laid · FnExactClientNew: laid.
  DERIVED. THE GIVEN ROWS OF THIS SEAT. 2 by the template 'for every input the law returns true; each argument reads behind the call as it read before'; 0 by the template 'total and deterministic' (their statements: YtdpbgcilkidbaaaDoorTotals.lean).
  GIVEN WITH THE SEED: the statements are not yours to turn. If you find one false, say at which input.
  Laid BY PROGRAM, IN A SANDBOX (cutbox-rows.mjs): the forced cells as the released guide's own fill.sh prints them over the translation b5cd45be9b4c0738… (all of the seat's roots in one cut). By AI agents, Wed Nov 11 2026. No macro, syntax, notation, axiom, sorry.
-/
import Derived.Test.YtdpbgcilkidbaaaDoorChecked
import GoSem.Claim
import GoSem.ClaimJoined
import GoSem.ClaimMapViews
import Derived.JoinedTies
import Derived.KernelRfl
namespace Go.Proofs.YtdpbgcilkidbaaaDoor
/- THE CELL 'sum', in the pinned program and in every row, IS THE sha256 OF THE DUMP (.gsa) THAT YtdpbgcilkidbaaaDoorProg.lean LOADS. Nothing in Lean hashes anything: it is a label: what it is worth is what the hold of that sum in a sandbox is worth. -/
noncomputable def Tryd.pinned : Pinned := { name := "ytdpbgcilkidbaaadoor", sum := "b5cd45be9b4c07382bbb2dcce1b80eaa09e01f38201dd55789b3119249ef402e", checked := Tryd.checked }
namespace Rows
def none {H : Type} : Left H := { results := [], args := [] }

/- WHAT THE LISTED PACKAGE-LEVEL VARIABLES READ AS WHEN THE CALL BEGINS. Each datum BY PROGRAM (the guide's laid-datum.mjs) off the statement by which the dump's own 'gosem.cut.vars' lays the variable. In a bare row this is a premise. The card (YtdpbgcilkidbaaaDoorCards.lean) ties it to the program's text. -/
def laid_loop_example_belfry_impl_wireSession {H : Type} : DataW H := .agg [.lit (.int .i64 3), .lit (.int .i64 1), .lit (.int .i64 1000000), .lit (.int .i64 3)]

/-- 'laws.FnExactClientOk': WHATEVER THE INPUT: true; the input reads as it did. -/
def fnExactClientOkSpec : ChangeSpec := { name := "fnExactClientOk", vars := ["loop.example/belfry/impl.wireSession"], fn := fun _ => fun
  | [d, g1] => { results := [.lit (.bool true)], args := [d], vars := [g1] }
  | _ => none }
def fnExactClientOkRow : OpenClaim := { program := "ytdpbgcilkidbaaadoor", sum := "b5cd45be9b4c07382bbb2dcce1b80eaa09e01f38201dd55789b3119249ef402e", func := "loop.example/belfry/laws.FnExactClientOk", spec := "fnExactClientOk", named := ["loop.example/belfry/impl.wireSession"], apart := false, laid := [("loop.example/belfry/impl.wireSession", laid_loop_example_belfry_impl_wireSession)] }
def FnExactClientOkSaid : Prop := fnExactClientOkRow.holds Tryd.pinned (OpenSpec.ofChange fnExactClientOkSpec)

/-- ITS FALSE NEIGHBOUR: 'it returns false'. Refute it at one input. -/
def fnExactClientOkWrong : ChangeSpec := { name := "fnExactClientOk", vars := ["loop.example/belfry/impl.wireSession"], fn := fun _ => fun
  | [d, g1] => { results := [.lit (.bool false)], args := [d], vars := [g1] }
  | _ => none }
def FnExactClientOkWrongFalsely : Prop := fnExactClientOkRow.holds Tryd.pinned (OpenSpec.ofChange fnExactClientOkWrong)

/-- 'laws.FnExactClientNew': WHATEVER THE INPUT: true; the input reads as it did. -/
def fnExactClientNewSpec : ChangeSpec := { name := "fnExactClientNew", vars := ["loop.example/belfry/impl.wireSession"], fn := fun _ => fun
  | [d1, d2, g1] => { results := [.lit (.bool true)], args := [d1, d2], vars := [g1] }
  | _ => none }
def fnExactClientNewRow : OpenClaim := { program := "ytdpbgcilkidbaaadoor", sum := "b5cd45be9b4c07382bbb2dcce1b80eaa09e01f38201dd55789b3119249ef402e", func := "loop.example/belfry/laws.FnExactClientNew", spec := "fnExactClientNew", named := ["loop.example/belfry/impl.wireSession"], apart := false, laid := [("loop.example/belfry/impl.wireSession", laid_loop_example_belfry_impl_wireSession)] }
def FnExactClientNewSaid : Prop := fnExactClientNewRow.holds Tryd.pinned (OpenSpec.ofChange fnExactClientNewSpec)

/-- ITS FALSE NEIGHBOUR: 'it returns false'. Refute it at one input. -/
def fnExactClientNewWrong : ChangeSpec := { name := "fnExactClientNew", vars := ["loop.example/belfry/impl.wireSession"], fn := fun _ => fun
  | [d1, d2, g1] => { results := [.lit (.bool false)], args := [d1, d2], vars := [g1] }
  | _ => none }
def FnExactClientNewWrongFalsely : Prop := fnExactClientNewRow.holds Tryd.pinned (OpenSpec.ofChange fnExactClientNewWrong)

/- THE SECOND FORM. 'bulk': how many values and letters a reading holds, each counted each time it is reached (what is shared counts as often as it is met; a slice's spare places count too). A statement '..UptoSaid' is the law's where the arguments, and the package variables that the reading takes, are together of bulk at most 1048576: NARROWER than '..Said'. Prove '..Said' where nothing that the law and all that it calls make is longer than what came in: it says more and counts as full. Else prove '..UptoSaid'. A law counts once. -/
mutual
def uptoBulk {H : Type} : DataW H → Nat
  | .lit (.string bytes) => bytes.length + 1
  | .lit _ => 1
  | .nil => 1
  | .ptr d => uptoBulk d + 1
  | .slice elems spare => uptoBulkAll elems + uptoBulkAll spare + 1
  | .agg parts => uptoBulkAll parts + 1
  | .iface _ d => uptoBulk d + 1
  | .map entries => uptoBulkEntries entries + 1
  | .held _ => 1
def uptoBulkAll {H : Type} : List (DataW H) → Nat
  | [] => 0
  | d :: r => uptoBulk d + uptoBulkAll r
def uptoBulkEntries {H : Type} : List (Lit × DataW H) → Nat
  | [] => 0
  | x :: r => uptoBulkEntry x + uptoBulkEntries r
def uptoBulkEntry {H : Type} : Lit × DataW H → Nat
  | (.string bytes, d) => bytes.length + uptoBulk d + 1
  | (_, d) => uptoBulk d + 1
 end
def uptoSmall : (H : Type) → List (DataW H) → Bool := fun _ ds => decide (uptoBulkAll ds ≤ 1048576)
def OpenSpec.upto (s : _root_.Go.ChangeSpec) : _root_.Go.OpenSpec := { _root_.Go.OpenSpec.ofChange s with cond := some uptoSmall }

/-- 'laws.FnExactClientOk', WHERE WHAT IT READS IS OF BULK AT MOST 1048576: true; the input reads as it did. -/
def fnExactClientOkUptoRow : OpenClaim := { program := "ytdpbgcilkidbaaadoor", sum := "b5cd45be9b4c07382bbb2dcce1b80eaa09e01f38201dd55789b3119249ef402e", func := "loop.example/belfry/laws.FnExactClientOk", spec := "fnExactClientOk", named := ["loop.example/belfry/impl.wireSession"], apart := false, laid := [("loop.example/belfry/impl.wireSession", laid_loop_example_belfry_impl_wireSession)], narrowed := true }
def FnExactClientOkUptoSaid : Prop := fnExactClientOkUptoRow.holds Tryd.pinned (OpenSpec.upto fnExactClientOkSpec)

/-- 'laws.FnExactClientNew', WHERE WHAT IT READS IS OF BULK AT MOST 1048576: true; the input reads as it did. -/
def fnExactClientNewUptoRow : OpenClaim := { program := "ytdpbgcilkidbaaadoor", sum := "b5cd45be9b4c07382bbb2dcce1b80eaa09e01f38201dd55789b3119249ef402e", func := "loop.example/belfry/laws.FnExactClientNew", spec := "fnExactClientNew", named := ["loop.example/belfry/impl.wireSession"], apart := false, laid := [("loop.example/belfry/impl.wireSession", laid_loop_example_belfry_impl_wireSession)], narrowed := true }
def FnExactClientNewUptoSaid : Prop := fnExactClientNewUptoRow.holds Tryd.pinned (OpenSpec.upto fnExactClientNewSpec)

end Rows
end Go.Proofs.YtdpbgcilkidbaaaDoor
