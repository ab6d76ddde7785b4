/-
  The law of TreeRoot, walked.
-/
import Derived.Test.YtofcpeginapjdaaTree2
import Derived.Test.YtofcpeginapjdaaWalks2
namespace Go.Proofs.Ytofcpeginapjdaa
open Go.RowKit

end Go.Proofs.Ytofcpeginapjdaa
