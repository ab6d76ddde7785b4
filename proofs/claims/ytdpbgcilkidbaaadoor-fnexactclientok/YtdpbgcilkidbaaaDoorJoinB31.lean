/-
  What copy does in bytesOfDigest.
-/
import Derived.Test.YtdpbgcilkidbaaaDoorRows
import Derived.Test.YtdpbgcilkidbaaaDoorPlain2
import Derived.Test.YtdpbgcilkidbaaaDoorKit3
import Derived.Deep.QuietTactic
import Derived.BigQuiet
import Derived.Deep.CutRange
import Derived.Deep.DeepCutAuto
import Derived.Laws.Tables
import Derived.Test.YtdpbgcilkidbaaaDoorJoinB23
import Derived.Deep.CutBlock
import Derived.Test.YtdpbgcilkidbaaaDoorKit5
import Derived.Deep.RegionWith
import Derived.Deep.RegionHeld3
import Derived.Test.YtdpbgcilkidbaaaDoorJoinB18
import Derived.Test.YtdpbgcilkidbaaaDoorWalks1
namespace Go.Proofs.YtdpbgcilkidbaaaDoor
open Go.RowKit

end Go.Proofs.YtdpbgcilkidbaaaDoor

/-
  bytesOfDigest.
-/
namespace Go.Proofs.YtdpbgcilkidbaaaDoor
open Go.RowKit

end Go.Proofs.YtdpbgcilkidbaaaDoor

/-
  HashBytes, on both sides.
-/
namespace Go.Proofs.YtdpbgcilkidbaaaDoor
open Go.RowKit

theorem str_append (a b : List UInt8) : str a ++ str b = str (a ++ b) := ByteArray.mk_append_mk a b

end Go.Proofs.YtdpbgcilkidbaaaDoor
