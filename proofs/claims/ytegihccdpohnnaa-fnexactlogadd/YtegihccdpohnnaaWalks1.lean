/-
  The walks of HashBlock, on both sides: each comes to the plain function HB.
-/
import Derived.Test.YtegihccdpohnnaaRows
import Derived.Test.YtegihccdpohnnaaPlain
import Derived.Handy
import Derived.Deep.QuietTactic
import Derived.BigQuiet
import Derived.WalkLawsBesides
namespace Go.Proofs.Ytegihccdpohnnaa
open Go.RowKit

end Go.Proofs.Ytegihccdpohnnaa
