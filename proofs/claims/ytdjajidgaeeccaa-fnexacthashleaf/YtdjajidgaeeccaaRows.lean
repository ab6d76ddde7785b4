/-
  No cell of these rows narrows 'for every input' (looked for: loops, veiled, ifaces, maps, wideKeys, modest, calm, conditions, laid).
  DERIVED. THE GIVEN ROWS OF THIS SEAT. 11 by the template 'for every input the law returns true; each argument reads behind the call as it read before'; 0 by the template 'total and deterministic' (their statements: YtdjajidgaeeccaaTotals.lean).
  GIVEN WITH THE SEED: the statements are not yours to turn. If you find one false, say at which input.
  Laid BY PROGRAM, IN A SANDBOX (cutbox-rows.mjs): the forced cells as the released guide's own fill.sh prints them over the translation d2813222d81e6a18… (all of the seat's roots in one cut). By AI agents, Wed Nov 11 2026. No macro, syntax, notation, axiom, sorry.
-/
import Derived.Test.YtdjajidgaeeccaaChecked
import GoSem.Claim
import GoSem.ClaimJoined
import GoSem.ClaimMapViews
import Derived.JoinedTies
import Derived.KernelRfl
namespace Go.Proofs.Ytdjajidgaeeccaa
/- THE CELL 'sum', in the pinned program and in every row, IS THE sha256 OF THE DUMP (.gsa) THAT YtdjajidgaeeccaaProg.lean LOADS. Nothing in Lean hashes anything: it is a label: what it is worth is what the hold of that sum in a sandbox is worth. -/
noncomputable def Try.pinned : Pinned := { name := "ytdjajidgaeeccaa", sum := "d2813222d81e6a18578623e7ce8a3254e4cf888d19c6b37ba70f4bbdf85f2d59", checked := Try.checked }
namespace Rows
def none {H : Type} : Left H := { results := [], args := [] }

/-- 'laws.FnHashForms': WHATEVER THE INPUT: true; the input reads as it did. -/
def fnHashFormsSpec : ChangeSpec := { name := "fnHashForms", fn := fun _ => fun
  | [d] => { results := [.lit (.bool true)], args := [d] }
  | _ => none }
def fnHashFormsRow : OpenClaim := { program := "ytdjajidgaeeccaa", sum := "d2813222d81e6a18578623e7ce8a3254e4cf888d19c6b37ba70f4bbdf85f2d59", func := "loop.example/belfry/laws.FnHashForms", spec := "fnHashForms", apart := false }
def FnHashFormsSaid : Prop := fnHashFormsRow.holds Try.pinned (OpenSpec.ofChange fnHashFormsSpec)

/-- ITS FALSE NEIGHBOUR: 'it returns false'. Refute it at one input. -/
def fnHashFormsWrong : ChangeSpec := { name := "fnHashForms", fn := fun _ => fun
  | [d] => { results := [.lit (.bool false)], args := [d] }
  | _ => none }
def FnHashFormsWrongFalsely : Prop := fnHashFormsRow.holds Try.pinned (OpenSpec.ofChange fnHashFormsWrong)

/-- 'laws.FnClashTurned': WHATEVER THE INPUT: true; the input reads as it did. -/
def fnClashTurnedSpec : ChangeSpec := { name := "fnClashTurned", fn := fun _ => fun
  | [d] => { results := [.lit (.bool true)], args := [d] }
  | _ => none }
def fnClashTurnedRow : OpenClaim := { program := "ytdjajidgaeeccaa", sum := "d2813222d81e6a18578623e7ce8a3254e4cf888d19c6b37ba70f4bbdf85f2d59", func := "loop.example/belfry/laws.FnClashTurned", spec := "fnClashTurned", unfollowed := true, recurses := true, apart := false }
def FnClashTurnedSaid : Prop := fnClashTurnedRow.holds Try.pinned (OpenSpec.ofChange fnClashTurnedSpec)

/-- ITS FALSE NEIGHBOUR: 'it returns false'. Refute it at one input. -/
def fnClashTurnedWrong : ChangeSpec := { name := "fnClashTurned", fn := fun _ => fun
  | [d] => { results := [.lit (.bool false)], args := [d] }
  | _ => none }
def FnClashTurnedWrongFalsely : Prop := fnClashTurnedRow.holds Try.pinned (OpenSpec.ofChange fnClashTurnedWrong)

/-- 'laws.FnExactHashBlock': WHATEVER THE INPUT: true; the input reads as it did. -/
def fnExactHashBlockSpec : ChangeSpec := { name := "fnExactHashBlock", fn := fun _ => fun
  | [d1, d2] => { results := [.lit (.bool true)], args := [d1, d2] }
  | _ => none }
def fnExactHashBlockRow : OpenClaim := { program := "ytdjajidgaeeccaa", sum := "d2813222d81e6a18578623e7ce8a3254e4cf888d19c6b37ba70f4bbdf85f2d59", func := "loop.example/belfry/laws.FnExactHashBlock", spec := "fnExactHashBlock", unfollowed := true, recurses := true, apart := false }
def FnExactHashBlockSaid : Prop := fnExactHashBlockRow.holds Try.pinned (OpenSpec.ofChange fnExactHashBlockSpec)

/-- ITS FALSE NEIGHBOUR: 'it returns false'. Refute it at one input. -/
def fnExactHashBlockWrong : ChangeSpec := { name := "fnExactHashBlock", fn := fun _ => fun
  | [d1, d2] => { results := [.lit (.bool false)], args := [d1, d2] }
  | _ => none }
def FnExactHashBlockWrongFalsely : Prop := fnExactHashBlockRow.holds Try.pinned (OpenSpec.ofChange fnExactHashBlockWrong)

/-- 'laws.FnExactHashOf': WHATEVER THE INPUT: true; the input reads as it did. -/
def fnExactHashOfSpec : ChangeSpec := { name := "fnExactHashOf", fn := fun _ => fun
  | [d] => { results := [.lit (.bool true)], args := [d] }
  | _ => none }
def fnExactHashOfRow : OpenClaim := { program := "ytdjajidgaeeccaa", sum := "d2813222d81e6a18578623e7ce8a3254e4cf888d19c6b37ba70f4bbdf85f2d59", func := "loop.example/belfry/laws.FnExactHashOf", spec := "fnExactHashOf", unfollowed := true, recurses := true, apart := false }
def FnExactHashOfSaid : Prop := fnExactHashOfRow.holds Try.pinned (OpenSpec.ofChange fnExactHashOfSpec)

/-- ITS FALSE NEIGHBOUR: 'it returns false'. Refute it at one input. -/
def fnExactHashOfWrong : ChangeSpec := { name := "fnExactHashOf", fn := fun _ => fun
  | [d] => { results := [.lit (.bool false)], args := [d] }
  | _ => none }
def FnExactHashOfWrongFalsely : Prop := fnExactHashOfRow.holds Try.pinned (OpenSpec.ofChange fnExactHashOfWrong)

/-- 'laws.FnExactHashLeaf': WHATEVER THE INPUT: true; the input reads as it did. -/
def fnExactHashLeafSpec : ChangeSpec := { name := "fnExactHashLeaf", fn := fun _ => fun
  | [d] => { results := [.lit (.bool true)], args := [d] }
  | _ => none }
def fnExactHashLeafRow : OpenClaim := { program := "ytdjajidgaeeccaa", sum := "d2813222d81e6a18578623e7ce8a3254e4cf888d19c6b37ba70f4bbdf85f2d59", func := "loop.example/belfry/laws.FnExactHashLeaf", spec := "fnExactHashLeaf", unfollowed := true, recurses := true, apart := false }
def FnExactHashLeafSaid : Prop := fnExactHashLeafRow.holds Try.pinned (OpenSpec.ofChange fnExactHashLeafSpec)

/-- ITS FALSE NEIGHBOUR: 'it returns false'. Refute it at one input. -/
def fnExactHashLeafWrong : ChangeSpec := { name := "fnExactHashLeaf", fn := fun _ => fun
  | [d] => { results := [.lit (.bool false)], args := [d] }
  | _ => none }
def FnExactHashLeafWrongFalsely : Prop := fnExactHashLeafRow.holds Try.pinned (OpenSpec.ofChange fnExactHashLeafWrong)

/-- 'laws.FnExactHashPair': WHATEVER THE INPUT: true; the input reads as it did. -/
def fnExactHashPairSpec : ChangeSpec := { name := "fnExactHashPair", fn := fun _ => fun
  | [d1, d2] => { results := [.lit (.bool true)], args := [d1, d2] }
  | _ => none }
def fnExactHashPairRow : OpenClaim := { program := "ytdjajidgaeeccaa", sum := "d2813222d81e6a18578623e7ce8a3254e4cf888d19c6b37ba70f4bbdf85f2d59", func := "loop.example/belfry/laws.FnExactHashPair", spec := "fnExactHashPair", unfollowed := true, recurses := true, apart := false }
def FnExactHashPairSaid : Prop := fnExactHashPairRow.holds Try.pinned (OpenSpec.ofChange fnExactHashPairSpec)

/-- ITS FALSE NEIGHBOUR: 'it returns false'. Refute it at one input. -/
def fnExactHashPairWrong : ChangeSpec := { name := "fnExactHashPair", fn := fun _ => fun
  | [d1, d2] => { results := [.lit (.bool false)], args := [d1, d2] }
  | _ => none }
def FnExactHashPairWrongFalsely : Prop := fnExactHashPairRow.holds Try.pinned (OpenSpec.ofChange fnExactHashPairWrong)

/-- 'laws.FnExactHashBytes': WHATEVER THE INPUT: true; the input reads as it did. -/
def fnExactHashBytesSpec : ChangeSpec := { name := "fnExactHashBytes", fn := fun _ => fun
  | [d] => { results := [.lit (.bool true)], args := [d] }
  | _ => none }
def fnExactHashBytesRow : OpenClaim := { program := "ytdjajidgaeeccaa", sum := "d2813222d81e6a18578623e7ce8a3254e4cf888d19c6b37ba70f4bbdf85f2d59", func := "loop.example/belfry/laws.FnExactHashBytes", spec := "fnExactHashBytes", apart := false }
def FnExactHashBytesSaid : Prop := fnExactHashBytesRow.holds Try.pinned (OpenSpec.ofChange fnExactHashBytesSpec)

/-- ITS FALSE NEIGHBOUR: 'it returns false'. Refute it at one input. -/
def fnExactHashBytesWrong : ChangeSpec := { name := "fnExactHashBytes", fn := fun _ => fun
  | [d] => { results := [.lit (.bool false)], args := [d] }
  | _ => none }
def FnExactHashBytesWrongFalsely : Prop := fnExactHashBytesRow.holds Try.pinned (OpenSpec.ofChange fnExactHashBytesWrong)

/-- 'laws.FnExactHashBack': WHATEVER THE INPUT: true; the input reads as it did. -/
def fnExactHashBackSpec : ChangeSpec := { name := "fnExactHashBack", fn := fun _ => fun
  | [d] => { results := [.lit (.bool true)], args := [d] }
  | _ => none }
def fnExactHashBackRow : OpenClaim := { program := "ytdjajidgaeeccaa", sum := "d2813222d81e6a18578623e7ce8a3254e4cf888d19c6b37ba70f4bbdf85f2d59", func := "loop.example/belfry/laws.FnExactHashBack", spec := "fnExactHashBack", apart := false }
def FnExactHashBackSaid : Prop := fnExactHashBackRow.holds Try.pinned (OpenSpec.ofChange fnExactHashBackSpec)

/-- ITS FALSE NEIGHBOUR: 'it returns false'. Refute it at one input. -/
def fnExactHashBackWrong : ChangeSpec := { name := "fnExactHashBack", fn := fun _ => fun
  | [d] => { results := [.lit (.bool false)], args := [d] }
  | _ => none }
def FnExactHashBackWrongFalsely : Prop := fnExactHashBackRow.holds Try.pinned (OpenSpec.ofChange fnExactHashBackWrong)

/-- 'laws.FnExactHashText': WHATEVER THE INPUT: true; the input reads as it did. -/
def fnExactHashTextSpec : ChangeSpec := { name := "fnExactHashText", fn := fun _ => fun
  | [d] => { results := [.lit (.bool true)], args := [d] }
  | _ => none }
def fnExactHashTextRow : OpenClaim := { program := "ytdjajidgaeeccaa", sum := "d2813222d81e6a18578623e7ce8a3254e4cf888d19c6b37ba70f4bbdf85f2d59", func := "loop.example/belfry/laws.FnExactHashText", spec := "fnExactHashText", apart := false }
def FnExactHashTextSaid : Prop := fnExactHashTextRow.holds Try.pinned (OpenSpec.ofChange fnExactHashTextSpec)

/-- ITS FALSE NEIGHBOUR: 'it returns false'. Refute it at one input. -/
def fnExactHashTextWrong : ChangeSpec := { name := "fnExactHashText", fn := fun _ => fun
  | [d] => { results := [.lit (.bool false)], args := [d] }
  | _ => none }
def FnExactHashTextWrongFalsely : Prop := fnExactHashTextRow.holds Try.pinned (OpenSpec.ofChange fnExactHashTextWrong)

/-- 'laws.FnExactHashRead': WHATEVER THE INPUT: true; the input reads as it did. -/
def fnExactHashReadSpec : ChangeSpec := { name := "fnExactHashRead", fn := fun _ => fun
  | [d] => { results := [.lit (.bool true)], args := [d] }
  | _ => none }
def fnExactHashReadRow : OpenClaim := { program := "ytdjajidgaeeccaa", sum := "d2813222d81e6a18578623e7ce8a3254e4cf888d19c6b37ba70f4bbdf85f2d59", func := "loop.example/belfry/laws.FnExactHashRead", spec := "fnExactHashRead", apart := false }
def FnExactHashReadSaid : Prop := fnExactHashReadRow.holds Try.pinned (OpenSpec.ofChange fnExactHashReadSpec)

/-- ITS FALSE NEIGHBOUR: 'it returns false'. Refute it at one input. -/
def fnExactHashReadWrong : ChangeSpec := { name := "fnExactHashRead", fn := fun _ => fun
  | [d] => { results := [.lit (.bool false)], args := [d] }
  | _ => none }
def FnExactHashReadWrongFalsely : Prop := fnExactHashReadRow.holds Try.pinned (OpenSpec.ofChange fnExactHashReadWrong)

/-- 'laws.FnExactClashOk': WHATEVER THE INPUT: true; the input reads as it did. -/
def fnExactClashOkSpec : ChangeSpec := { name := "fnExactClashOk", fn := fun _ => fun
  | [d] => { results := [.lit (.bool true)], args := [d] }
  | _ => none }
def fnExactClashOkRow : OpenClaim := { program := "ytdjajidgaeeccaa", sum := "d2813222d81e6a18578623e7ce8a3254e4cf888d19c6b37ba70f4bbdf85f2d59", func := "loop.example/belfry/laws.FnExactClashOk", spec := "fnExactClashOk", unfollowed := true, recurses := true, apart := false }
def FnExactClashOkSaid : Prop := fnExactClashOkRow.holds Try.pinned (OpenSpec.ofChange fnExactClashOkSpec)

/-- ITS FALSE NEIGHBOUR: 'it returns false'. Refute it at one input. -/
def fnExactClashOkWrong : ChangeSpec := { name := "fnExactClashOk", fn := fun _ => fun
  | [d] => { results := [.lit (.bool false)], args := [d] }
  | _ => none }
def FnExactClashOkWrongFalsely : Prop := fnExactClashOkRow.holds Try.pinned (OpenSpec.ofChange fnExactClashOkWrong)

/- THE SECOND FORM. 'bulk': how many values and letters a reading holds, each counted each time it is reached (what is shared counts as often as it is met; a slice's spare places count too). A statement '..UptoSaid' is the law's where the arguments, and the package variables that the reading takes, are together of bulk at most 1048576: NARROWER than '..Said'. Prove '..Said' where nothing that the law and all that it calls make is longer than what came in: it says more and counts as full. Else prove '..UptoSaid'. A law counts once. -/
mutual
def uptoBulk {H : Type} : DataW H → Nat
  | .lit (.string bytes) => bytes.length + 1
  | .lit _ => 1
  | .nil => 1
  | .ptr d => uptoBulk d + 1
  | .slice elems spare => uptoBulkAll elems + uptoBulkAll spare + 1
  | .agg parts => uptoBulkAll parts + 1
  | .iface _ d => uptoBulk d + 1
  | .map entries => uptoBulkEntries entries + 1
  | .held _ => 1
def uptoBulkAll {H : Type} : List (DataW H) → Nat
  | [] => 0
  | d :: r => uptoBulk d + uptoBulkAll r
def uptoBulkEntries {H : Type} : List (Lit × DataW H) → Nat
  | [] => 0
  | x :: r => uptoBulkEntry x + uptoBulkEntries r
def uptoBulkEntry {H : Type} : Lit × DataW H → Nat
  | (.string bytes, d) => bytes.length + uptoBulk d + 1
  | (_, d) => uptoBulk d + 1
 end
def uptoSmall : (H : Type) → List (DataW H) → Bool := fun _ ds => decide (uptoBulkAll ds ≤ 1048576)
def OpenSpec.upto (s : _root_.Go.ChangeSpec) : _root_.Go.OpenSpec := { _root_.Go.OpenSpec.ofChange s with cond := some uptoSmall }

/-- 'laws.FnHashForms', WHERE WHAT IT READS IS OF BULK AT MOST 1048576: true; the input reads as it did. -/
def fnHashFormsUptoRow : OpenClaim := { program := "ytdjajidgaeeccaa", sum := "d2813222d81e6a18578623e7ce8a3254e4cf888d19c6b37ba70f4bbdf85f2d59", func := "loop.example/belfry/laws.FnHashForms", spec := "fnHashForms", apart := false, narrowed := true }
def FnHashFormsUptoSaid : Prop := fnHashFormsUptoRow.holds Try.pinned (OpenSpec.upto fnHashFormsSpec)

/-- 'laws.FnClashTurned', WHERE WHAT IT READS IS OF BULK AT MOST 1048576: true; the input reads as it did. -/
def fnClashTurnedUptoRow : OpenClaim := { program := "ytdjajidgaeeccaa", sum := "d2813222d81e6a18578623e7ce8a3254e4cf888d19c6b37ba70f4bbdf85f2d59", func := "loop.example/belfry/laws.FnClashTurned", spec := "fnClashTurned", unfollowed := true, recurses := true, apart := false, narrowed := true }
def FnClashTurnedUptoSaid : Prop := fnClashTurnedUptoRow.holds Try.pinned (OpenSpec.upto fnClashTurnedSpec)

/-- 'laws.FnExactHashBlock', WHERE WHAT IT READS IS OF BULK AT MOST 1048576: true; the input reads as it did. -/
def fnExactHashBlockUptoRow : OpenClaim := { program := "ytdjajidgaeeccaa", sum := "d2813222d81e6a18578623e7ce8a3254e4cf888d19c6b37ba70f4bbdf85f2d59", func := "loop.example/belfry/laws.FnExactHashBlock", spec := "fnExactHashBlock", unfollowed := true, recurses := true, apart := false, narrowed := true }
def FnExactHashBlockUptoSaid : Prop := fnExactHashBlockUptoRow.holds Try.pinned (OpenSpec.upto fnExactHashBlockSpec)

/-- 'laws.FnExactHashOf', WHERE WHAT IT READS IS OF BULK AT MOST 1048576: true; the input reads as it did. -/
def fnExactHashOfUptoRow : OpenClaim := { program := "ytdjajidgaeeccaa", sum := "d2813222d81e6a18578623e7ce8a3254e4cf888d19c6b37ba70f4bbdf85f2d59", func := "loop.example/belfry/laws.FnExactHashOf", spec := "fnExactHashOf", unfollowed := true, recurses := true, apart := false, narrowed := true }
def FnExactHashOfUptoSaid : Prop := fnExactHashOfUptoRow.holds Try.pinned (OpenSpec.upto fnExactHashOfSpec)

/-- 'laws.FnExactHashLeaf', WHERE WHAT IT READS IS OF BULK AT MOST 1048576: true; the input reads as it did. -/
def fnExactHashLeafUptoRow : OpenClaim := { program := "ytdjajidgaeeccaa", sum := "d2813222d81e6a18578623e7ce8a3254e4cf888d19c6b37ba70f4bbdf85f2d59", func := "loop.example/belfry/laws.FnExactHashLeaf", spec := "fnExactHashLeaf", unfollowed := true, recurses := true, apart := false, narrowed := true }
def FnExactHashLeafUptoSaid : Prop := fnExactHashLeafUptoRow.holds Try.pinned (OpenSpec.upto fnExactHashLeafSpec)

/-- 'laws.FnExactHashPair', WHERE WHAT IT READS IS OF BULK AT MOST 1048576: true; the input reads as it did. -/
def fnExactHashPairUptoRow : OpenClaim := { program := "ytdjajidgaeeccaa", sum := "d2813222d81e6a18578623e7ce8a3254e4cf888d19c6b37ba70f4bbdf85f2d59", func := "loop.example/belfry/laws.FnExactHashPair", spec := "fnExactHashPair", unfollowed := true, recurses := true, apart := false, narrowed := true }
def FnExactHashPairUptoSaid : Prop := fnExactHashPairUptoRow.holds Try.pinned (OpenSpec.upto fnExactHashPairSpec)

/-- 'laws.FnExactHashBytes', WHERE WHAT IT READS IS OF BULK AT MOST 1048576: true; the input reads as it did. -/
def fnExactHashBytesUptoRow : OpenClaim := { program := "ytdjajidgaeeccaa", sum := "d2813222d81e6a18578623e7ce8a3254e4cf888d19c6b37ba70f4bbdf85f2d59", func := "loop.example/belfry/laws.FnExactHashBytes", spec := "fnExactHashBytes", apart := false, narrowed := true }
def FnExactHashBytesUptoSaid : Prop := fnExactHashBytesUptoRow.holds Try.pinned (OpenSpec.upto fnExactHashBytesSpec)

/-- 'laws.FnExactHashBack', WHERE WHAT IT READS IS OF BULK AT MOST 1048576: true; the input reads as it did. -/
def fnExactHashBackUptoRow : OpenClaim := { program := "ytdjajidgaeeccaa", sum := "d2813222d81e6a18578623e7ce8a3254e4cf888d19c6b37ba70f4bbdf85f2d59", func := "loop.example/belfry/laws.FnExactHashBack", spec := "fnExactHashBack", apart := false, narrowed := true }
def FnExactHashBackUptoSaid : Prop := fnExactHashBackUptoRow.holds Try.pinned (OpenSpec.upto fnExactHashBackSpec)

/-- 'laws.FnExactHashText', WHERE WHAT IT READS IS OF BULK AT MOST 1048576: true; the input reads as it did. -/
def fnExactHashTextUptoRow : OpenClaim := { program := "ytdjajidgaeeccaa", sum := "d2813222d81e6a18578623e7ce8a3254e4cf888d19c6b37ba70f4bbdf85f2d59", func := "loop.example/belfry/laws.FnExactHashText", spec := "fnExactHashText", apart := false, narrowed := true }
def FnExactHashTextUptoSaid : Prop := fnExactHashTextUptoRow.holds Try.pinned (OpenSpec.upto fnExactHashTextSpec)

/-- 'laws.FnExactHashRead', WHERE WHAT IT READS IS OF BULK AT MOST 1048576: true; the input reads as it did. -/
def fnExactHashReadUptoRow : OpenClaim := { program := "ytdjajidgaeeccaa", sum := "d2813222d81e6a18578623e7ce8a3254e4cf888d19c6b37ba70f4bbdf85f2d59", func := "loop.example/belfry/laws.FnExactHashRead", spec := "fnExactHashRead", apart := false, narrowed := true }
def FnExactHashReadUptoSaid : Prop := fnExactHashReadUptoRow.holds Try.pinned (OpenSpec.upto fnExactHashReadSpec)

/-- 'laws.FnExactClashOk', WHERE WHAT IT READS IS OF BULK AT MOST 1048576: true; the input reads as it did. -/
def fnExactClashOkUptoRow : OpenClaim := { program := "ytdjajidgaeeccaa", sum := "d2813222d81e6a18578623e7ce8a3254e4cf888d19c6b37ba70f4bbdf85f2d59", func := "loop.example/belfry/laws.FnExactClashOk", spec := "fnExactClashOk", unfollowed := true, recurses := true, apart := false, narrowed := true }
def FnExactClashOkUptoSaid : Prop := fnExactClashOkUptoRow.holds Try.pinned (OpenSpec.upto fnExactClashOkSpec)

end Rows
end Go.Proofs.Ytdjajidgaeeccaa
