/-
  Words and bytes.
-/
import Derived.Test.YtdpbgcilkidbaaaDoorRows
import Derived.Test.YtdpbgcilkidbaaaDoorPlain2
import Derived.Test.YtdpbgcilkidbaaaDoorKit
import Derived.Deep.QuietTactic
import Derived.BigQuiet
import Derived.Test.YtdpbgcilkidbaaaDoorKit2
import Derived.Test.YtdpbgcilkidbaaaDoorKit5
namespace Go.Proofs.YtdpbgcilkidbaaaDoor
open Go.RowKit

end Go.Proofs.YtdpbgcilkidbaaaDoor

/-
  digestOfBytes.
-/
namespace Go.Proofs.YtdpbgcilkidbaaaDoor
open Go.RowKit

end Go.Proofs.YtdpbgcilkidbaaaDoor

/-
  copy of a text into a row of bytes made last; digestOfBytes at any 32 bytes.
-/
namespace Go.Proofs.YtdpbgcilkidbaaaDoor
open Go.RowKit

end Go.Proofs.YtdpbgcilkidbaaaDoor
