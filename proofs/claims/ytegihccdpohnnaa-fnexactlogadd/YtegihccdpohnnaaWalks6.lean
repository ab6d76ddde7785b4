/-
  l1Bytes: a word in eight bytes.
-/
import Derived.Test.YtegihccdpohnnaaRows
import Derived.Test.YtegihccdpohnnaaPlain2
import Derived.Test.YtegihccdpohnnaaKit5
namespace Go.Proofs.Ytegihccdpohnnaa
open Go.RowKit

end Go.Proofs.Ytegihccdpohnnaa
