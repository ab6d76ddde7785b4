/-
  The walks of HashBlock, on both sides: each comes to the plain function HB.
-/
import Derived.Test.YtnnjecghkkcmkaaRows
import Derived.Test.YtnnjecghkkcmkaaPlain
import Derived.Handy
import Derived.Deep.QuietTactic
import Derived.BigQuiet
import Derived.WalkLawsBesides
namespace Go.Proofs.Ytnnjecghkkcmkaa
open Go.RowKit

end Go.Proofs.Ytnnjecghkkcmkaa
