/-
  Words and bytes.
-/
import Derived.Test.YtegihccdpohnnaaRows
import Derived.Test.YtegihccdpohnnaaPlain2
import Derived.Test.YtegihccdpohnnaaKit
import Derived.Deep.QuietTactic
import Derived.BigQuiet
namespace Go.Proofs.Ytegihccdpohnnaa
open Go.RowKit

end Go.Proofs.Ytegihccdpohnnaa
