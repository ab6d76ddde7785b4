/-
  HashLeaf, on both sides, and its law, walked.
-/
import Derived.Test.YtepgmdgcappfpaaRows
import Derived.Test.YtepgmdgcappfpaaJoinB1
import Derived.Test.YtepgmdgcappfpaaJoinB3
import Derived.Deep.QuietTactic
import Derived.BigQuiet
import Derived.Deep.RegionWith
import Derived.Deep.RegionHeld3
import Derived.Deep.CutRange
import Derived.Deep.DeepCutAuto
import Derived.Deep.CutBlock
import Derived.Laws.Tables
import Derived.Test.YtepgmdgcappfpaaJoinB5
import Derived.Test.YtepgmdgcappfpaaWalks11
import Derived.Test.YtepgmdgcappfpaaWalks15
namespace Go.Proofs.Ytepgmdgcappfpaa
open Go.RowKit

/-- The digest of a text, whatever its size. -/
def dg (s : ByteArray) : Qd := if s.size ≤ 20000 then hashOf (bare s.data.toList) else { a := 0, b := 0, c := 0, d := 0 }
set_option maxRecDepth 100000 in
theorem ho_spec_all (s : ByteArray) (w : World) : Calls Try.prog 27 #[.string s] w fun e w' => e = .returned (.agg #[.int .u64 ((dg s).a.toNat : Int), .int .u64 ((dg s).b.toNat : Int), .int .u64 ((dg s).c.toNat : Int), .int .u64 ((dg s).d.toNat : Int)]) ∧ Below w.heap.size w w' := by
  unfold dg
  split
  · exact ho_spec_t s w ‹_›
  · exact ho_spec_big s w (by omega)
set_option maxRecDepth 100000 in
theorem ho_impl_all (s : ByteArray) (w : World) : Calls Try.prog 40 #[.string s] w fun e w' => e = .returned (.agg #[.int .u64 ((dg s).a.toNat : Int), .int .u64 ((dg s).b.toNat : Int), .int .u64 ((dg s).c.toNat : Int), .int .u64 ((dg s).d.toNat : Int)]) ∧ Below w.heap.size w w' := by
  unfold dg
  split
  · exact ho_impl s w ‹_›
  · exact ho_impl_big s w (by omega)

end Go.Proofs.Ytepgmdgcappfpaa
