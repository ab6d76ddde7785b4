/-
  copy of a text into a row of bytes made last; digestOfBytes at any 32 bytes.
-/
import Derived.Test.YtdpbgcilkidbaaaDoorRows
import Derived.Test.YtdpbgcilkidbaaaDoorPlain2
import Derived.Test.YtdpbgcilkidbaaaDoorKit5
import Derived.Test.YtdpbgcilkidbaaaDoorWalks4
namespace Go.Proofs.YtdpbgcilkidbaaaDoor
open Go.RowKit

end Go.Proofs.YtdpbgcilkidbaaaDoor
