/-
  l1Bytes: a word in eight bytes.
-/
import Derived.Test.YtnaaeooieljkmaaRows
import Derived.Test.YtnaaeooieljkmaaPlain2
import Derived.Test.YtnaaeooieljkmaaKit5
namespace Go.Proofs.Ytnaaeooieljkmaa
open Go.RowKit

end Go.Proofs.Ytnaaeooieljkmaa
