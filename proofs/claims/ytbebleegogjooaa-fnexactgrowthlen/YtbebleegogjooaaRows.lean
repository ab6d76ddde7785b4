/-
  No cell of these rows narrows 'for every input' (looked for: loops, veiled, ifaces, maps, wideKeys, modest, calm, conditions, laid).
  DERIVED. THE GIVEN ROWS OF THIS SEAT. 2 by the template 'for every input the law returns true; each argument reads behind the call as it read before'; 0 by the template 'total and deterministic' (their statements: YtbebleegogjooaaTotals.lean).
  GIVEN WITH THE SEED: the statements are not yours to turn. If you find one false, say at which input.
  Laid BY PROGRAM, IN A SANDBOX (cutbox-rows.mjs): the forced cells as the released guide's own fill.sh prints them over the translation cab715536fd37d02… (all of the seat's roots in one cut). By AI agents, Wed Nov 11 2026. No macro, syntax, notation, axiom, sorry.
-/
import Derived.Test.YtbebleegogjooaaChecked
import GoSem.Claim
import GoSem.ClaimJoined
import GoSem.ClaimMapViews
import Derived.JoinedTies
import Derived.KernelRfl
namespace Go.Proofs.Ytbebleegogjooaa
/- THE CELL 'sum', in the pinned program and in every row, IS THE sha256 OF THE DUMP (.gsa) THAT YtbebleegogjooaaProg.lean LOADS. Nothing in Lean hashes anything: it is a label: what it is worth is what the hold of that sum in a sandbox is worth. -/
noncomputable def Try.pinned : Pinned := { name := "ytbebleegogjooaa", sum := "cab715536fd37d027957957191ec1279ba4df9f789b2d7f44f916ba657869920", checked := Try.checked }
namespace Rows
def none {H : Type} : Left H := { results := [], args := [] }

/-- 'laws.FnExactPathLen': WHATEVER THE INPUT: true; the input reads as it did. -/
def fnExactPathLenSpec : ChangeSpec := { name := "fnExactPathLen", fn := fun _ => fun
  | [d1, d2] => { results := [.lit (.bool true)], args := [d1, d2] }
  | _ => none }
def fnExactPathLenRow : OpenClaim := { program := "ytbebleegogjooaa", sum := "cab715536fd37d027957957191ec1279ba4df9f789b2d7f44f916ba657869920", func := "loop.example/belfry/laws.FnExactPathLen", spec := "fnExactPathLen", unfollowed := true, recurses := true, apart := false }
def FnExactPathLenSaid : Prop := fnExactPathLenRow.holds Try.pinned (OpenSpec.ofChange fnExactPathLenSpec)

/-- ITS FALSE NEIGHBOUR: 'it returns false'. Refute it at one input. -/
def fnExactPathLenWrong : ChangeSpec := { name := "fnExactPathLen", fn := fun _ => fun
  | [d1, d2] => { results := [.lit (.bool false)], args := [d1, d2] }
  | _ => none }
def FnExactPathLenWrongFalsely : Prop := fnExactPathLenRow.holds Try.pinned (OpenSpec.ofChange fnExactPathLenWrong)

/-- 'laws.FnExactGrowthLen': WHATEVER THE INPUT: true; the input reads as it did. -/
def fnExactGrowthLenSpec : ChangeSpec := { name := "fnExactGrowthLen", fn := fun _ => fun
  | [d1, d2] => { results := [.lit (.bool true)], args := [d1, d2] }
  | _ => none }
def fnExactGrowthLenRow : OpenClaim := { program := "ytbebleegogjooaa", sum := "cab715536fd37d027957957191ec1279ba4df9f789b2d7f44f916ba657869920", func := "loop.example/belfry/laws.FnExactGrowthLen", spec := "fnExactGrowthLen", unfollowed := true, recurses := true, apart := false }
def FnExactGrowthLenSaid : Prop := fnExactGrowthLenRow.holds Try.pinned (OpenSpec.ofChange fnExactGrowthLenSpec)

/-- ITS FALSE NEIGHBOUR: 'it returns false'. Refute it at one input. -/
def fnExactGrowthLenWrong : ChangeSpec := { name := "fnExactGrowthLen", fn := fun _ => fun
  | [d1, d2] => { results := [.lit (.bool false)], args := [d1, d2] }
  | _ => none }
def FnExactGrowthLenWrongFalsely : Prop := fnExactGrowthLenRow.holds Try.pinned (OpenSpec.ofChange fnExactGrowthLenWrong)

/- THE SECOND FORM. 'bulk': how many values and letters a reading holds, each counted each time it is reached (what is shared counts as often as it is met; a slice's spare places count too). A statement '..UptoSaid' is the law's where the arguments, and the package variables that the reading takes, are together of bulk at most 1048576: NARROWER than '..Said'. Prove '..Said' where nothing that the law and all that it calls make is longer than what came in: it says more and counts as full. Else prove '..UptoSaid'. A law counts once. -/
mutual
def uptoBulk {H : Type} : DataW H → Nat
  | .lit (.string bytes) => bytes.length + 1
  | .lit _ => 1
  | .nil => 1
  | .ptr d => uptoBulk d + 1
  | .slice elems spare => uptoBulkAll elems + uptoBulkAll spare + 1
  | .agg parts => uptoBulkAll parts + 1
  | .iface _ d => uptoBulk d + 1
  | .map entries => uptoBulkEntries entries + 1
  | .held _ => 1
def uptoBulkAll {H : Type} : List (DataW H) → Nat
  | [] => 0
  | d :: r => uptoBulk d + uptoBulkAll r
def uptoBulkEntries {H : Type} : List (Lit × DataW H) → Nat
  | [] => 0
  | x :: r => uptoBulkEntry x + uptoBulkEntries r
def uptoBulkEntry {H : Type} : Lit × DataW H → Nat
  | (.string bytes, d) => bytes.length + uptoBulk d + 1
  | (_, d) => uptoBulk d + 1
 end
def uptoSmall : (H : Type) → List (DataW H) → Bool := fun _ ds => decide (uptoBulkAll ds ≤ 1048576)
def OpenSpec.upto (s : _root_.Go.ChangeSpec) : _root_.Go.OpenSpec := { _root_.Go.OpenSpec.ofChange s with cond := some uptoSmall }

/-- 'laws.FnExactPathLen', WHERE WHAT IT READS IS OF BULK AT MOST 1048576: true; the input reads as it did. -/
def fnExactPathLenUptoRow : OpenClaim := { program := "ytbebleegogjooaa", sum := "cab715536fd37d027957957191ec1279ba4df9f789b2d7f44f916ba657869920", func := "loop.example/belfry/laws.FnExactPathLen", spec := "fnExactPathLen", unfollowed := true, recurses := true, apart := false, narrowed := true }
def FnExactPathLenUptoSaid : Prop := fnExactPathLenUptoRow.holds Try.pinned (OpenSpec.upto fnExactPathLenSpec)

/-- 'laws.FnExactGrowthLen', WHERE WHAT IT READS IS OF BULK AT MOST 1048576: true; the input reads as it did. -/
def fnExactGrowthLenUptoRow : OpenClaim := { program := "ytbebleegogjooaa", sum := "cab715536fd37d027957957191ec1279ba4df9f789b2d7f44f916ba657869920", func := "loop.example/belfry/laws.FnExactGrowthLen", spec := "fnExactGrowthLen", unfollowed := true, recurses := true, apart := false, narrowed := true }
def FnExactGrowthLenUptoSaid : Prop := fnExactGrowthLenUptoRow.holds Try.pinned (OpenSpec.upto fnExactGrowthLenSpec)

end Rows
end Go.Proofs.Ytbebleegogjooaa
