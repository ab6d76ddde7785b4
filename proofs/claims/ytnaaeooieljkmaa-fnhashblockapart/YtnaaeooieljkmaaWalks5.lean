/-
  bytesOfDigest.
-/
import Derived.Test.YtnaaeooieljkmaaRows
import Derived.Test.YtnaaeooieljkmaaPlain2
import Derived.Test.YtnaaeooieljkmaaKit3
import Derived.Test.YtnaaeooieljkmaaWalks3
import Derived.Test.YtnaaeooieljkmaaCopy57
import Derived.Deep.CutBlock
import Derived.Deep.QuietTactic
import Derived.BigQuiet
import Derived.Deep.CutRange
import Derived.Deep.DeepCutAuto
import Derived.Laws.Tables
namespace Go.Proofs.Ytnaaeooieljkmaa
open Go.RowKit

end Go.Proofs.Ytnaaeooieljkmaa
