/-
  HashBack, on both sides, and its law, walked.
-/
import Derived.Test.YtdpbgcilkidbaaaDoorRows
import Derived.Test.YtdpbgcilkidbaaaDoorPlain2
import Derived.Test.YtdpbgcilkidbaaaDoorKit5
import Derived.Deep.QuietTactic
import Derived.BigQuiet
import Derived.Deep.RegionWith
import Derived.Deep.RegionHeld3
import Derived.Deep.CutRange
import Derived.Deep.DeepCutAuto
import Derived.Deep.CutBlock
import Derived.Laws.Tables
import Derived.Test.YtdpbgcilkidbaaaDoorJoinB23
import Derived.Test.YtdpbgcilkidbaaaDoorWalks2
import Derived.Test.YtdpbgcilkidbaaaDoorJoinB18
namespace Go.Proofs.YtdpbgcilkidbaaaDoor
open Go.RowKit

theorem eqd_zero (w : World) : Calls Tryd.prog 30 #[.agg #[.int .u64 0, .int .u64 0, .int .u64 0, .int .u64 0], .agg #[.int .u64 0, .int .u64 0, .int .u64 0, .int .u64 0]] w fun e w' => e = .returned (.bool true) ∧ Below w.heap.size w w' := eqd_same ⟨0, 0, 0, 0⟩ w

theorem seg_all (s : ByteArray) (n : Nat) (hn : s.size = n) : seg s 0 n = s.data.toList := by
  unfold seg
  have : s.data.size = n := hn
  rw [List.drop_zero, List.take_of_length_le (by simp [this])]

end Go.Proofs.YtdpbgcilkidbaaaDoor
