/-
  HashPair of the program.
-/
import Derived.Test.YtdpbgcilkidbaaaDoorRows
import Derived.Test.YtdpbgcilkidbaaaDoorPlain2
import Derived.Test.YtdpbgcilkidbaaaDoorKit5
import Derived.Deep.QuietTactic
import Derived.BigQuiet
import Derived.Deep.RegionWith
import Derived.Deep.RegionHeld3
import Derived.Deep.CutRange
import Derived.Deep.DeepCutAuto
import Derived.Deep.CutBlock
import Derived.Laws.Tables
import Derived.Test.YtdpbgcilkidbaaaDoorLawLeaf
import Derived.Test.YtdpbgcilkidbaaaDoorJoinB31
import Derived.Deep.RegionHeld
import Derived.Test.YtdpbgcilkidbaaaDoorWalks11
namespace Go.Proofs.YtdpbgcilkidbaaaDoor
open Go.RowKit

end Go.Proofs.YtdpbgcilkidbaaaDoor

/-
  l1PairText.
-/
namespace Go.Proofs.YtdpbgcilkidbaaaDoor
open Go.RowKit

set_option maxRecDepth 100000 in
theorem db_len (q : Qd) : (db q).length = 32 := rfl

end Go.Proofs.YtdpbgcilkidbaaaDoor
