/-
  HashBack, on both sides, and its law, walked.
-/
import Derived.Test.YtnaaeooieljkmaaRows
import Derived.Test.YtnaaeooieljkmaaPlain2
import Derived.Test.YtnaaeooieljkmaaKit5
import Derived.Deep.QuietTactic
import Derived.BigQuiet
import Derived.Deep.RegionWith
import Derived.Deep.RegionHeld3
import Derived.Deep.CutRange
import Derived.Deep.DeepCutAuto
import Derived.Deep.CutBlock
import Derived.Laws.Tables
import Derived.Test.YtnaaeooieljkmaaKit6
import Derived.Test.YtnaaeooieljkmaaWalks2
import Derived.Test.YtnaaeooieljkmaaWalks8
namespace Go.Proofs.Ytnaaeooieljkmaa
open Go.RowKit

theorem info62 : (Try.prog.info? 44).map (·.size) = some 32 := by kernel_rfl

theorem seg_all (s : ByteArray) (n : Nat) (hn : s.size = n) : seg s 0 n = s.data.toList := by
  unfold seg
  have : s.data.size = n := hn
  rw [List.drop_zero, List.take_of_length_le (by simp [this])]

end Go.Proofs.Ytnaaeooieljkmaa
