/-
  No cell of these rows narrows 'for every input' (looked for: loops, veiled, ifaces, maps, wideKeys, modest, calm, conditions, laid).
  DERIVED. THE GIVEN ROWS OF THIS SEAT. 5 by the template 'for every input the law returns true; each argument reads behind the call as it read before'; 0 by the template 'total and deterministic' (their statements: YtfhghoknalfeiaaTotals.lean).
  GIVEN WITH THE SEED: the statements are not yours to turn. If you find one false, say at which input.
  Laid BY PROGRAM, IN A SANDBOX (cutbox-rows.mjs): the forced cells as the released guide's own fill.sh prints them over the translation 122c170b13faf9f8… (all of the seat's roots in one cut). By AI agents, Wed Nov 11 2026. No macro, syntax, notation, axiom, sorry.
-/
import Derived.Test.YtfhghoknalfeiaaChecked
import GoSem.Claim
import GoSem.ClaimJoined
import GoSem.ClaimMapViews
import Derived.JoinedTies
import Derived.KernelRfl
namespace Go.Proofs.Ytfhghoknalfeiaa
/- THE CELL 'sum', in the pinned program and in every row, IS THE sha256 OF THE DUMP (.gsa) THAT YtfhghoknalfeiaaProg.lean LOADS. Nothing in Lean hashes anything: it is a label: what it is worth is what the hold of that sum in a sandbox is worth. -/
noncomputable def Try.pinned : Pinned := { name := "ytfhghoknalfeiaa", sum := "122c170b13faf9f879e6f3cd5f231ebf3a61625dc79d913c1c8bb4e4d0e1d4ab", checked := Try.checked }
namespace Rows
def none {H : Type} : Left H := { results := [], args := [] }

/-- 'laws.FnExactLeavesOk': WHATEVER THE INPUT: true; the input reads as it did. -/
def fnExactLeavesOkSpec : ChangeSpec := { name := "fnExactLeavesOk", fn := fun _ => fun
  | [d] => { results := [.lit (.bool true)], args := [d] }
  | _ => none }
def fnExactLeavesOkRow : OpenClaim := { program := "ytfhghoknalfeiaa", sum := "122c170b13faf9f879e6f3cd5f231ebf3a61625dc79d913c1c8bb4e4d0e1d4ab", func := "loop.example/belfry/laws.FnExactLeavesOk", spec := "fnExactLeavesOk", apart := false }
def FnExactLeavesOkSaid : Prop := fnExactLeavesOkRow.holds Try.pinned (OpenSpec.ofChange fnExactLeavesOkSpec)

/-- ITS FALSE NEIGHBOUR: 'it returns false'. Refute it at one input. -/
def fnExactLeavesOkWrong : ChangeSpec := { name := "fnExactLeavesOk", fn := fun _ => fun
  | [d] => { results := [.lit (.bool false)], args := [d] }
  | _ => none }
def FnExactLeavesOkWrongFalsely : Prop := fnExactLeavesOkRow.holds Try.pinned (OpenSpec.ofChange fnExactLeavesOkWrong)

/-- 'laws.FnExactTreeSplit': WHATEVER THE INPUT: true; the input reads as it did. -/
def fnExactTreeSplitSpec : ChangeSpec := { name := "fnExactTreeSplit", fn := fun _ => fun
  | [d] => { results := [.lit (.bool true)], args := [d] }
  | _ => none }
def fnExactTreeSplitRow : OpenClaim := { program := "ytfhghoknalfeiaa", sum := "122c170b13faf9f879e6f3cd5f231ebf3a61625dc79d913c1c8bb4e4d0e1d4ab", func := "loop.example/belfry/laws.FnExactTreeSplit", spec := "fnExactTreeSplit", apart := false }
def FnExactTreeSplitSaid : Prop := fnExactTreeSplitRow.holds Try.pinned (OpenSpec.ofChange fnExactTreeSplitSpec)

/-- ITS FALSE NEIGHBOUR: 'it returns false'. Refute it at one input. -/
def fnExactTreeSplitWrong : ChangeSpec := { name := "fnExactTreeSplit", fn := fun _ => fun
  | [d] => { results := [.lit (.bool false)], args := [d] }
  | _ => none }
def FnExactTreeSplitWrongFalsely : Prop := fnExactTreeSplitRow.holds Try.pinned (OpenSpec.ofChange fnExactTreeSplitWrong)

/-- 'laws.FnExactPeaksCount': WHATEVER THE INPUT: true; the input reads as it did. -/
def fnExactPeaksCountSpec : ChangeSpec := { name := "fnExactPeaksCount", fn := fun _ => fun
  | [d] => { results := [.lit (.bool true)], args := [d] }
  | _ => none }
def fnExactPeaksCountRow : OpenClaim := { program := "ytfhghoknalfeiaa", sum := "122c170b13faf9f879e6f3cd5f231ebf3a61625dc79d913c1c8bb4e4d0e1d4ab", func := "loop.example/belfry/laws.FnExactPeaksCount", spec := "fnExactPeaksCount", apart := false }
def FnExactPeaksCountSaid : Prop := fnExactPeaksCountRow.holds Try.pinned (OpenSpec.ofChange fnExactPeaksCountSpec)

/-- ITS FALSE NEIGHBOUR: 'it returns false'. Refute it at one input. -/
def fnExactPeaksCountWrong : ChangeSpec := { name := "fnExactPeaksCount", fn := fun _ => fun
  | [d] => { results := [.lit (.bool false)], args := [d] }
  | _ => none }
def FnExactPeaksCountWrongFalsely : Prop := fnExactPeaksCountRow.holds Try.pinned (OpenSpec.ofChange fnExactPeaksCountWrong)

/-- 'laws.FnExactTreeRoot': WHATEVER THE INPUT: true; the input reads as it did. -/
def fnExactTreeRootSpec : ChangeSpec := { name := "fnExactTreeRoot", fn := fun _ => fun
  | [d] => { results := [.lit (.bool true)], args := [d] }
  | _ => none }
def fnExactTreeRootRow : OpenClaim := { program := "ytfhghoknalfeiaa", sum := "122c170b13faf9f879e6f3cd5f231ebf3a61625dc79d913c1c8bb4e4d0e1d4ab", func := "loop.example/belfry/laws.FnExactTreeRoot", spec := "fnExactTreeRoot", unfollowed := true, recurses := true, apart := false }
def FnExactTreeRootSaid : Prop := fnExactTreeRootRow.holds Try.pinned (OpenSpec.ofChange fnExactTreeRootSpec)

/-- ITS FALSE NEIGHBOUR: 'it returns false'. Refute it at one input. -/
def fnExactTreeRootWrong : ChangeSpec := { name := "fnExactTreeRoot", fn := fun _ => fun
  | [d] => { results := [.lit (.bool false)], args := [d] }
  | _ => none }
def FnExactTreeRootWrongFalsely : Prop := fnExactTreeRootRow.holds Try.pinned (OpenSpec.ofChange fnExactTreeRootWrong)

/-- 'laws.FnExactTreePoint': WHATEVER THE INPUT: true; the input reads as it did. -/
def fnExactTreePointSpec : ChangeSpec := { name := "fnExactTreePoint", fn := fun _ => fun
  | [d] => { results := [.lit (.bool true)], args := [d] }
  | _ => none }
def fnExactTreePointRow : OpenClaim := { program := "ytfhghoknalfeiaa", sum := "122c170b13faf9f879e6f3cd5f231ebf3a61625dc79d913c1c8bb4e4d0e1d4ab", func := "loop.example/belfry/laws.FnExactTreePoint", spec := "fnExactTreePoint", unfollowed := true, recurses := true, apart := false }
def FnExactTreePointSaid : Prop := fnExactTreePointRow.holds Try.pinned (OpenSpec.ofChange fnExactTreePointSpec)

/-- ITS FALSE NEIGHBOUR: 'it returns false'. Refute it at one input. -/
def fnExactTreePointWrong : ChangeSpec := { name := "fnExactTreePoint", fn := fun _ => fun
  | [d] => { results := [.lit (.bool false)], args := [d] }
  | _ => none }
def FnExactTreePointWrongFalsely : Prop := fnExactTreePointRow.holds Try.pinned (OpenSpec.ofChange fnExactTreePointWrong)

/- THE SECOND FORM. 'bulk': how many values and letters a reading holds, each counted each time it is reached (what is shared counts as often as it is met; a slice's spare places count too). A statement '..UptoSaid' is the law's where the arguments, and the package variables that the reading takes, are together of bulk at most 1048576: NARROWER than '..Said'. Prove '..Said' where nothing that the law and all that it calls make is longer than what came in: it says more and counts as full. Else prove '..UptoSaid'. A law counts once. -/
mutual
def uptoBulk {H : Type} : DataW H → Nat
  | .lit (.string bytes) => bytes.length + 1
  | .lit _ => 1
  | .nil => 1
  | .ptr d => uptoBulk d + 1
  | .slice elems spare => uptoBulkAll elems + uptoBulkAll spare + 1
  | .agg parts => uptoBulkAll parts + 1
  | .iface _ d => uptoBulk d + 1
  | .map entries => uptoBulkEntries entries + 1
  | .held _ => 1
def uptoBulkAll {H : Type} : List (DataW H) → Nat
  | [] => 0
  | d :: r => uptoBulk d + uptoBulkAll r
def uptoBulkEntries {H : Type} : List (Lit × DataW H) → Nat
  | [] => 0
  | x :: r => uptoBulkEntry x + uptoBulkEntries r
def uptoBulkEntry {H : Type} : Lit × DataW H → Nat
  | (.string bytes, d) => bytes.length + uptoBulk d + 1
  | (_, d) => uptoBulk d + 1
 end
def uptoSmall : (H : Type) → List (DataW H) → Bool := fun _ ds => decide (uptoBulkAll ds ≤ 1048576)
def OpenSpec.upto (s : _root_.Go.ChangeSpec) : _root_.Go.OpenSpec := { _root_.Go.OpenSpec.ofChange s with cond := some uptoSmall }

/-- 'laws.FnExactLeavesOk', WHERE WHAT IT READS IS OF BULK AT MOST 1048576: true; the input reads as it did. -/
def fnExactLeavesOkUptoRow : OpenClaim := { program := "ytfhghoknalfeiaa", sum := "122c170b13faf9f879e6f3cd5f231ebf3a61625dc79d913c1c8bb4e4d0e1d4ab", func := "loop.example/belfry/laws.FnExactLeavesOk", spec := "fnExactLeavesOk", apart := false, narrowed := true }
def FnExactLeavesOkUptoSaid : Prop := fnExactLeavesOkUptoRow.holds Try.pinned (OpenSpec.upto fnExactLeavesOkSpec)

/-- 'laws.FnExactTreeSplit', WHERE WHAT IT READS IS OF BULK AT MOST 1048576: true; the input reads as it did. -/
def fnExactTreeSplitUptoRow : OpenClaim := { program := "ytfhghoknalfeiaa", sum := "122c170b13faf9f879e6f3cd5f231ebf3a61625dc79d913c1c8bb4e4d0e1d4ab", func := "loop.example/belfry/laws.FnExactTreeSplit", spec := "fnExactTreeSplit", apart := false, narrowed := true }
def FnExactTreeSplitUptoSaid : Prop := fnExactTreeSplitUptoRow.holds Try.pinned (OpenSpec.upto fnExactTreeSplitSpec)

/-- 'laws.FnExactPeaksCount', WHERE WHAT IT READS IS OF BULK AT MOST 1048576: true; the input reads as it did. -/
def fnExactPeaksCountUptoRow : OpenClaim := { program := "ytfhghoknalfeiaa", sum := "122c170b13faf9f879e6f3cd5f231ebf3a61625dc79d913c1c8bb4e4d0e1d4ab", func := "loop.example/belfry/laws.FnExactPeaksCount", spec := "fnExactPeaksCount", apart := false, narrowed := true }
def FnExactPeaksCountUptoSaid : Prop := fnExactPeaksCountUptoRow.holds Try.pinned (OpenSpec.upto fnExactPeaksCountSpec)

/-- 'laws.FnExactTreeRoot', WHERE WHAT IT READS IS OF BULK AT MOST 1048576: true; the input reads as it did. -/
def fnExactTreeRootUptoRow : OpenClaim := { program := "ytfhghoknalfeiaa", sum := "122c170b13faf9f879e6f3cd5f231ebf3a61625dc79d913c1c8bb4e4d0e1d4ab", func := "loop.example/belfry/laws.FnExactTreeRoot", spec := "fnExactTreeRoot", unfollowed := true, recurses := true, apart := false, narrowed := true }
def FnExactTreeRootUptoSaid : Prop := fnExactTreeRootUptoRow.holds Try.pinned (OpenSpec.upto fnExactTreeRootSpec)

/-- 'laws.FnExactTreePoint', WHERE WHAT IT READS IS OF BULK AT MOST 1048576: true; the input reads as it did. -/
def fnExactTreePointUptoRow : OpenClaim := { program := "ytfhghoknalfeiaa", sum := "122c170b13faf9f879e6f3cd5f231ebf3a61625dc79d913c1c8bb4e4d0e1d4ab", func := "loop.example/belfry/laws.FnExactTreePoint", spec := "fnExactTreePoint", unfollowed := true, recurses := true, apart := false, narrowed := true }
def FnExactTreePointUptoSaid : Prop := fnExactTreePointUptoRow.holds Try.pinned (OpenSpec.upto fnExactTreePointSpec)

end Rows
end Go.Proofs.Ytfhghoknalfeiaa
