/-
  HashOf of the program: its relation, and hashStart.
-/
import Derived.Test.YtdpbgcilkidbaaaDoorRows
import Derived.Test.YtdpbgcilkidbaaaDoorPlain2
import Derived.Test.YtdpbgcilkidbaaaDoorKit5
import Derived.Deep.QuietTactic
import Derived.BigQuiet
import Derived.Deep.RegionWith
import Derived.Deep.RegionHeld3
import Derived.Deep.CutRange
import Derived.Deep.DeepCutAuto
import Derived.Deep.CutBlock
import Derived.Laws.Tables
import Derived.Test.YtdpbgcilkidbaaaDoorWalks13
import Derived.Test.YtdpbgcilkidbaaaDoorPlain4
namespace Go.Proofs.YtdpbgcilkidbaaaDoor
open Go.RowKit

end Go.Proofs.YtdpbgcilkidbaaaDoor

/-
  HashOf of the program, walked.
-/
namespace Go.Proofs.YtdpbgcilkidbaaaDoor
open Go.RowKit

end Go.Proofs.YtdpbgcilkidbaaaDoor
