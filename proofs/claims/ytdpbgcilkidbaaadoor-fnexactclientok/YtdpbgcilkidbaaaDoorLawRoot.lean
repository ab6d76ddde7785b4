/-
  The law of TreeRoot, walked.
-/
import Derived.Test.YtdpbgcilkidbaaaDoorTree2
import Derived.Test.YtdpbgcilkidbaaaDoorWalks2
namespace Go.Proofs.YtdpbgcilkidbaaaDoor
open Go.RowKit

end Go.Proofs.YtdpbgcilkidbaaaDoor
