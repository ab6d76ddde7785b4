/-
  No cell of these rows narrows 'for every input' (looked for: loops, veiled, ifaces, maps, wideKeys, modest, calm, conditions, laid).
  DERIVED. THE GIVEN ROWS OF THIS SEAT. 6 by the template 'for every input the law returns true; each argument reads behind the call as it read before'; 0 by the template 'total and deterministic' (their statements: YtkdgdmicnfgdjaaTotals.lean).
  GIVEN WITH THE SEED: the statements are not yours to turn. If you find one false, say at which input.
  Laid BY PROGRAM, IN A SANDBOX (cutbox-rows.mjs): the forced cells as the released guide's own fill.sh prints them over the translation 97a5cf48684346f7… (all of the seat's roots in one cut). By AI agents, Wed Nov 11 2026. No macro, syntax, notation, axiom, sorry.
-/
import Derived.Test.YtkdgdmicnfgdjaaChecked
import GoSem.Claim
import GoSem.ClaimJoined
import GoSem.ClaimMapViews
import Derived.JoinedTies
import Derived.KernelRfl
namespace Go.Proofs.Ytkdgdmicnfgdjaa
/- THE CELL 'sum', in the pinned program and in every row, IS THE sha256 OF THE DUMP (.gsa) THAT YtkdgdmicnfgdjaaProg.lean LOADS. Nothing in Lean hashes anything: it is a label: what it is worth is what the hold of that sum in a sandbox is worth. -/
noncomputable def Try.pinned : Pinned := { name := "ytkdgdmicnfgdjaa", sum := "97a5cf48684346f7b551170904e165b3fbb5aeea9611a9d8b64f3427274d4a30", checked := Try.checked }
namespace Rows
def none {H : Type} : Left H := { results := [], args := [] }

/-- 'laws.FnExactPathOf': WHATEVER THE INPUT: true; the input reads as it did. -/
def fnExactPathOfSpec : ChangeSpec := { name := "fnExactPathOf", fn := fun _ => fun
  | [d1, d2] => { results := [.lit (.bool true)], args := [d1, d2] }
  | _ => none }
def fnExactPathOfRow : OpenClaim := { program := "ytkdgdmicnfgdjaa", sum := "97a5cf48684346f7b551170904e165b3fbb5aeea9611a9d8b64f3427274d4a30", func := "loop.example/belfry/laws.FnExactPathOf", spec := "fnExactPathOf", unfollowed := true, recurses := true, apart := false }
def FnExactPathOfSaid : Prop := fnExactPathOfRow.holds Try.pinned (OpenSpec.ofChange fnExactPathOfSpec)

/-- ITS FALSE NEIGHBOUR: 'it returns false'. Refute it at one input. -/
def fnExactPathOfWrong : ChangeSpec := { name := "fnExactPathOf", fn := fun _ => fun
  | [d1, d2] => { results := [.lit (.bool false)], args := [d1, d2] }
  | _ => none }
def FnExactPathOfWrongFalsely : Prop := fnExactPathOfRow.holds Try.pinned (OpenSpec.ofChange fnExactPathOfWrong)

/-- 'laws.FnExactPathRoot': WHATEVER THE INPUT: true; the input reads as it did. -/
def fnExactPathRootSpec : ChangeSpec := { name := "fnExactPathRoot", fn := fun _ => fun
  | [d1, d2, d3, d4] => { results := [.lit (.bool true)], args := [d1, d2, d3, d4] }
  | _ => none }
def fnExactPathRootRow : OpenClaim := { program := "ytkdgdmicnfgdjaa", sum := "97a5cf48684346f7b551170904e165b3fbb5aeea9611a9d8b64f3427274d4a30", func := "loop.example/belfry/laws.FnExactPathRoot", spec := "fnExactPathRoot", unfollowed := true, recurses := true, apart := false }
def FnExactPathRootSaid : Prop := fnExactPathRootRow.holds Try.pinned (OpenSpec.ofChange fnExactPathRootSpec)

/-- ITS FALSE NEIGHBOUR: 'it returns false'. Refute it at one input. -/
def fnExactPathRootWrong : ChangeSpec := { name := "fnExactPathRoot", fn := fun _ => fun
  | [d1, d2, d3, d4] => { results := [.lit (.bool false)], args := [d1, d2, d3, d4] }
  | _ => none }
def FnExactPathRootWrongFalsely : Prop := fnExactPathRootRow.holds Try.pinned (OpenSpec.ofChange fnExactPathRootWrong)

/-- 'laws.FnExactPathCheck': WHATEVER THE INPUT: true; the input reads as it did. -/
def fnExactPathCheckSpec : ChangeSpec := { name := "fnExactPathCheck", fn := fun _ => fun
  | [d1, d2, d3, d4] => { results := [.lit (.bool true)], args := [d1, d2, d3, d4] }
  | _ => none }
def fnExactPathCheckRow : OpenClaim := { program := "ytkdgdmicnfgdjaa", sum := "97a5cf48684346f7b551170904e165b3fbb5aeea9611a9d8b64f3427274d4a30", func := "loop.example/belfry/laws.FnExactPathCheck", spec := "fnExactPathCheck", unfollowed := true, recurses := true, apart := false }
def FnExactPathCheckSaid : Prop := fnExactPathCheckRow.holds Try.pinned (OpenSpec.ofChange fnExactPathCheckSpec)

/-- ITS FALSE NEIGHBOUR: 'it returns false'. Refute it at one input. -/
def fnExactPathCheckWrong : ChangeSpec := { name := "fnExactPathCheck", fn := fun _ => fun
  | [d1, d2, d3, d4] => { results := [.lit (.bool false)], args := [d1, d2, d3, d4] }
  | _ => none }
def FnExactPathCheckWrongFalsely : Prop := fnExactPathCheckRow.holds Try.pinned (OpenSpec.ofChange fnExactPathCheckWrong)

/-- 'laws.FnExactGrowthOf': WHATEVER THE INPUT: true; the input reads as it did. -/
def fnExactGrowthOfSpec : ChangeSpec := { name := "fnExactGrowthOf", fn := fun _ => fun
  | [d1, d2] => { results := [.lit (.bool true)], args := [d1, d2] }
  | _ => none }
def fnExactGrowthOfRow : OpenClaim := { program := "ytkdgdmicnfgdjaa", sum := "97a5cf48684346f7b551170904e165b3fbb5aeea9611a9d8b64f3427274d4a30", func := "loop.example/belfry/laws.FnExactGrowthOf", spec := "fnExactGrowthOf", unfollowed := true, recurses := true, apart := false }
def FnExactGrowthOfSaid : Prop := fnExactGrowthOfRow.holds Try.pinned (OpenSpec.ofChange fnExactGrowthOfSpec)

/-- ITS FALSE NEIGHBOUR: 'it returns false'. Refute it at one input. -/
def fnExactGrowthOfWrong : ChangeSpec := { name := "fnExactGrowthOf", fn := fun _ => fun
  | [d1, d2] => { results := [.lit (.bool false)], args := [d1, d2] }
  | _ => none }
def FnExactGrowthOfWrongFalsely : Prop := fnExactGrowthOfRow.holds Try.pinned (OpenSpec.ofChange fnExactGrowthOfWrong)

/-- 'laws.FnExactGrowthCheck': WHATEVER THE INPUT: true; the input reads as it did. -/
def fnExactGrowthCheckSpec : ChangeSpec := { name := "fnExactGrowthCheck", fn := fun _ => fun
  | [d1, d2, d3] => { results := [.lit (.bool true)], args := [d1, d2, d3] }
  | _ => none }
def fnExactGrowthCheckRow : OpenClaim := { program := "ytkdgdmicnfgdjaa", sum := "97a5cf48684346f7b551170904e165b3fbb5aeea9611a9d8b64f3427274d4a30", func := "loop.example/belfry/laws.FnExactGrowthCheck", spec := "fnExactGrowthCheck", unfollowed := true, recurses := true, apart := false }
def FnExactGrowthCheckSaid : Prop := fnExactGrowthCheckRow.holds Try.pinned (OpenSpec.ofChange fnExactGrowthCheckSpec)

/-- ITS FALSE NEIGHBOUR: 'it returns false'. Refute it at one input. -/
def fnExactGrowthCheckWrong : ChangeSpec := { name := "fnExactGrowthCheck", fn := fun _ => fun
  | [d1, d2, d3] => { results := [.lit (.bool false)], args := [d1, d2, d3] }
  | _ => none }
def FnExactGrowthCheckWrongFalsely : Prop := fnExactGrowthCheckRow.holds Try.pinned (OpenSpec.ofChange fnExactGrowthCheckWrong)

/-- 'laws.FnExactGrowthLift': WHATEVER THE INPUT: true; the input reads as it did. -/
def fnExactGrowthLiftSpec : ChangeSpec := { name := "fnExactGrowthLift", fn := fun _ => fun
  | [d1, d2, d3, d4, d5] => { results := [.lit (.bool true)], args := [d1, d2, d3, d4, d5] }
  | _ => none }
def fnExactGrowthLiftRow : OpenClaim := { program := "ytkdgdmicnfgdjaa", sum := "97a5cf48684346f7b551170904e165b3fbb5aeea9611a9d8b64f3427274d4a30", func := "loop.example/belfry/laws.FnExactGrowthLift", spec := "fnExactGrowthLift", unfollowed := true, recurses := true, apart := false }
def FnExactGrowthLiftSaid : Prop := fnExactGrowthLiftRow.holds Try.pinned (OpenSpec.ofChange fnExactGrowthLiftSpec)

/-- ITS FALSE NEIGHBOUR: 'it returns false'. Refute it at one input. -/
def fnExactGrowthLiftWrong : ChangeSpec := { name := "fnExactGrowthLift", fn := fun _ => fun
  | [d1, d2, d3, d4, d5] => { results := [.lit (.bool false)], args := [d1, d2, d3, d4, d5] }
  | _ => none }
def FnExactGrowthLiftWrongFalsely : Prop := fnExactGrowthLiftRow.holds Try.pinned (OpenSpec.ofChange fnExactGrowthLiftWrong)

/- THE SECOND FORM. 'bulk': how many values and letters a reading holds, each counted each time it is reached (what is shared counts as often as it is met; a slice's spare places count too). A statement '..UptoSaid' is the law's where the arguments, and the package variables that the reading takes, are together of bulk at most 1048576: NARROWER than '..Said'. Prove '..Said' where nothing that the law and all that it calls make is longer than what came in: it says more and counts as full. Else prove '..UptoSaid'. A law counts once. -/
mutual
def uptoBulk {H : Type} : DataW H → Nat
  | .lit (.string bytes) => bytes.length + 1
  | .lit _ => 1
  | .nil => 1
  | .ptr d => uptoBulk d + 1
  | .slice elems spare => uptoBulkAll elems + uptoBulkAll spare + 1
  | .agg parts => uptoBulkAll parts + 1
  | .iface _ d => uptoBulk d + 1
  | .map entries => uptoBulkEntries entries + 1
  | .held _ => 1
def uptoBulkAll {H : Type} : List (DataW H) → Nat
  | [] => 0
  | d :: r => uptoBulk d + uptoBulkAll r
def uptoBulkEntries {H : Type} : List (Lit × DataW H) → Nat
  | [] => 0
  | x :: r => uptoBulkEntry x + uptoBulkEntries r
def uptoBulkEntry {H : Type} : Lit × DataW H → Nat
  | (.string bytes, d) => bytes.length + uptoBulk d + 1
  | (_, d) => uptoBulk d + 1
 end
def uptoSmall : (H : Type) → List (DataW H) → Bool := fun _ ds => decide (uptoBulkAll ds ≤ 1048576)
def OpenSpec.upto (s : _root_.Go.ChangeSpec) : _root_.Go.OpenSpec := { _root_.Go.OpenSpec.ofChange s with cond := some uptoSmall }

/-- 'laws.FnExactPathOf', WHERE WHAT IT READS IS OF BULK AT MOST 1048576: true; the input reads as it did. -/
def fnExactPathOfUptoRow : OpenClaim := { program := "ytkdgdmicnfgdjaa", sum := "97a5cf48684346f7b551170904e165b3fbb5aeea9611a9d8b64f3427274d4a30", func := "loop.example/belfry/laws.FnExactPathOf", spec := "fnExactPathOf", unfollowed := true, recurses := true, apart := false, narrowed := true }
def FnExactPathOfUptoSaid : Prop := fnExactPathOfUptoRow.holds Try.pinned (OpenSpec.upto fnExactPathOfSpec)

/-- 'laws.FnExactPathRoot', WHERE WHAT IT READS IS OF BULK AT MOST 1048576: true; the input reads as it did. -/
def fnExactPathRootUptoRow : OpenClaim := { program := "ytkdgdmicnfgdjaa", sum := "97a5cf48684346f7b551170904e165b3fbb5aeea9611a9d8b64f3427274d4a30", func := "loop.example/belfry/laws.FnExactPathRoot", spec := "fnExactPathRoot", unfollowed := true, recurses := true, apart := false, narrowed := true }
def FnExactPathRootUptoSaid : Prop := fnExactPathRootUptoRow.holds Try.pinned (OpenSpec.upto fnExactPathRootSpec)

/-- 'laws.FnExactPathCheck', WHERE WHAT IT READS IS OF BULK AT MOST 1048576: true; the input reads as it did. -/
def fnExactPathCheckUptoRow : OpenClaim := { program := "ytkdgdmicnfgdjaa", sum := "97a5cf48684346f7b551170904e165b3fbb5aeea9611a9d8b64f3427274d4a30", func := "loop.example/belfry/laws.FnExactPathCheck", spec := "fnExactPathCheck", unfollowed := true, recurses := true, apart := false, narrowed := true }
def FnExactPathCheckUptoSaid : Prop := fnExactPathCheckUptoRow.holds Try.pinned (OpenSpec.upto fnExactPathCheckSpec)

/-- 'laws.FnExactGrowthOf', WHERE WHAT IT READS IS OF BULK AT MOST 1048576: true; the input reads as it did. -/
def fnExactGrowthOfUptoRow : OpenClaim := { program := "ytkdgdmicnfgdjaa", sum := "97a5cf48684346f7b551170904e165b3fbb5aeea9611a9d8b64f3427274d4a30", func := "loop.example/belfry/laws.FnExactGrowthOf", spec := "fnExactGrowthOf", unfollowed := true, recurses := true, apart := false, narrowed := true }
def FnExactGrowthOfUptoSaid : Prop := fnExactGrowthOfUptoRow.holds Try.pinned (OpenSpec.upto fnExactGrowthOfSpec)

/-- 'laws.FnExactGrowthCheck', WHERE WHAT IT READS IS OF BULK AT MOST 1048576: true; the input reads as it did. -/
def fnExactGrowthCheckUptoRow : OpenClaim := { program := "ytkdgdmicnfgdjaa", sum := "97a5cf48684346f7b551170904e165b3fbb5aeea9611a9d8b64f3427274d4a30", func := "loop.example/belfry/laws.FnExactGrowthCheck", spec := "fnExactGrowthCheck", unfollowed := true, recurses := true, apart := false, narrowed := true }
def FnExactGrowthCheckUptoSaid : Prop := fnExactGrowthCheckUptoRow.holds Try.pinned (OpenSpec.upto fnExactGrowthCheckSpec)

/-- 'laws.FnExactGrowthLift', WHERE WHAT IT READS IS OF BULK AT MOST 1048576: true; the input reads as it did. -/
def fnExactGrowthLiftUptoRow : OpenClaim := { program := "ytkdgdmicnfgdjaa", sum := "97a5cf48684346f7b551170904e165b3fbb5aeea9611a9d8b64f3427274d4a30", func := "loop.example/belfry/laws.FnExactGrowthLift", spec := "fnExactGrowthLift", unfollowed := true, recurses := true, apart := false, narrowed := true }
def FnExactGrowthLiftUptoSaid : Prop := fnExactGrowthLiftUptoRow.holds Try.pinned (OpenSpec.upto fnExactGrowthLiftSpec)

end Rows
end Go.Proofs.Ytkdgdmicnfgdjaa
