/-
  l1Bytes: a word in eight bytes.
-/
import Derived.Test.YtnnjecghkkcmkaaRows
import Derived.Test.YtnnjecghkkcmkaaPlain2
import Derived.Test.YtnnjecghkkcmkaaKit5
namespace Go.Proofs.Ytnnjecghkkcmkaa
open Go.RowKit

end Go.Proofs.Ytnnjecghkkcmkaa
