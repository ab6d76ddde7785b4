/-
  The walks of HashBlock, on both sides: each comes to the plain function HB.
-/
import Derived.Test.YtdpbgcilkidbaaaDoorRows
import Derived.Test.YtdpbgcilkidbaaaDoorPlain
import Derived.Handy
import Derived.Deep.QuietTactic
import Derived.BigQuiet
import Derived.WalkLawsBesides
namespace Go.Proofs.YtdpbgcilkidbaaaDoor
open Go.RowKit

set_option maxHeartbeats 400000 in
/-- toDigest: the world is told to the block. -/
theorem toD_is (q : Qd) (w : World) :
    Calls Tryd.prog 24 #[.agg #[.int .u64 ((q).a.toNat : Int), .int .u64 ((q).b.toNat : Int), .int .u64 ((q).c.toNat : Int), .int .u64 ((q).d.toNat : Int)]] w fun e w' => e = .returned (.agg #[.int .u64 ((q).a.toNat : Int), .int .u64 ((q).b.toNat : Int), .int .u64 ((q).c.toNat : Int), .int .u64 ((q).d.toNat : Int)]) ∧ w' = ((w.alloc (.cells #[Value.int IntKind.u64 ((q).a.toNat : Int), Value.int IntKind.u64 ((q).b.toNat : Int), Value.int IntKind.u64 ((q).c.toNat : Int), Value.int IntKind.u64 ((q).d.toNat : Int)] 24)).alloc (.cells #[Value.int IntKind.u64 ((q).a.toNat : Int), Value.int IntKind.u64 ((q).b.toNat : Int), Value.int IntKind.u64 ((q).c.toNat : Int), Value.int IntKind.u64 ((q).d.toNat : Int)] 32)).alloc (.cells #[Value.int IntKind.u64 ((q).a.toNat : Int), Value.int IntKind.u64 ((q).b.toNat : Int), Value.int IntKind.u64 ((q).c.toNat : Int), Value.int IntKind.u64 ((q).d.toNat : Int)] 32) := by
  go_enter Tryd.func24, Tryd.ntmps24
  go_wp2
  exact bodyPost_ret (v := .agg #[.int .u64 ((q).a.toNat : Int), .int .u64 ((q).b.toNat : Int), .int .u64 ((q).c.toNat : Int), .int .u64 ((q).d.toNat : Int)]) (by simp [results, Tryd.results24, go_sem]) rfl ⟨rfl, rfl⟩

end Go.Proofs.YtdpbgcilkidbaaaDoor
