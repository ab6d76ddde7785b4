/-
  l1Bytes: a word in eight bytes.
-/
import Derived.Test.YtdpbgcilkidbaaaDoorRows
import Derived.Test.YtdpbgcilkidbaaaDoorPlain2
import Derived.Test.YtdpbgcilkidbaaaDoorKit5
namespace Go.Proofs.YtdpbgcilkidbaaaDoor
open Go.RowKit

end Go.Proofs.YtdpbgcilkidbaaaDoor
