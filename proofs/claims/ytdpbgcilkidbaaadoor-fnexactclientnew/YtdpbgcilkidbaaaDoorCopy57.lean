/-
  What copy does in bytesOfDigest.
-/
import Derived.Test.YtdpbgcilkidbaaaDoorRows
import Derived.Test.YtdpbgcilkidbaaaDoorPlain2
import Derived.Test.YtdpbgcilkidbaaaDoorKit3
import Derived.Deep.QuietTactic
import Derived.BigQuiet
import Derived.Deep.CutRange
import Derived.Deep.DeepCutAuto
import Derived.Laws.Tables
namespace Go.Proofs.YtdpbgcilkidbaaaDoor
open Go.RowKit

end Go.Proofs.YtdpbgcilkidbaaaDoor
