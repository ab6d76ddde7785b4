/-
  bytesOfDigest.
-/
import Derived.Test.YtlgpblgfkmjdpaaRows
import Derived.Test.YtlgpblgfkmjdpaaPlain2
import Derived.Test.YtlgpblgfkmjdpaaKit3
import Derived.Test.YtlgpblgfkmjdpaaWalks3
import Derived.Test.YtlgpblgfkmjdpaaCopy57
import Derived.Deep.CutBlock
import Derived.Deep.QuietTactic
import Derived.BigQuiet
import Derived.Deep.CutRange
import Derived.Deep.DeepCutAuto
import Derived.Laws.Tables
namespace Go.Proofs.Ytlgpblgfkmjdpaa
open Go.RowKit

end Go.Proofs.Ytlgpblgfkmjdpaa
