/-
  The law of TreeRoot, walked.
-/
import Derived.Test.YtgpbodanaeelaaaTree2
import Derived.Test.YtgpbodanaeelaaaWalks2
namespace Go.Proofs.Ytgpbodanaeelaaa
open Go.RowKit

end Go.Proofs.Ytgpbodanaeelaaa
