/-
  HashPair of the specification.
-/
import Derived.Test.YtnaaeooieljkmaaRows
import Derived.Test.YtnaaeooieljkmaaPlain2
import Derived.Test.YtnaaeooieljkmaaKit5
import Derived.Deep.QuietTactic
import Derived.BigQuiet
import Derived.Deep.RegionWith
import Derived.Deep.RegionHeld3
import Derived.Deep.CutRange
import Derived.Deep.DeepCutAuto
import Derived.Deep.CutBlock
import Derived.Laws.Tables
import Derived.Test.YtnaaeooieljkmaaLawLeaf
import Derived.Test.YtnaaeooieljkmaaWalks18
namespace Go.Proofs.Ytnaaeooieljkmaa
open Go.RowKit

end Go.Proofs.Ytnaaeooieljkmaa
