/-
  The walks of HashBlock, on both sides: each comes to the plain function HB.
-/
import Derived.Test.YtdpbgcilkidbaaaDoorRows
import Derived.Test.YtdpbgcilkidbaaaDoorPlain
import Derived.Handy
import Derived.Deep.QuietTactic
import Derived.BigQuiet
import Derived.WalkLawsBesides
namespace Go.Proofs.YtdpbgcilkidbaaaDoor
open Go.RowKit

set_option maxHeartbeats 400000 in
theorem eqd_same (q : Qd) (w : World) :
    Calls Tryd.prog 30 #[.agg #[.int .u64 ((q).a.toNat : Int), .int .u64 ((q).b.toNat : Int), .int .u64 ((q).c.toNat : Int), .int .u64 ((q).d.toNat : Int)], .agg #[.int .u64 ((q).a.toNat : Int), .int .u64 ((q).b.toNat : Int), .int .u64 ((q).c.toNat : Int), .int .u64 ((q).d.toNat : Int)]] w fun e w' => e = .returned (.bool true) ∧ Below w.heap.size w w' := by
  go_enter Tryd.func30, Tryd.ntmps30
  go_wp2
  go_ret
  exact ⟨rfl, (by repeat' (first | (with_reducible exact Below.refl _ _) | (with_reducible assumption) | (with_reducible refine below_drewN ?_ _) | (with_reducible refine Below.setCell ?_ ?_ _) | (with_reducible refine Below.alloc ?_ ?_ _) | (with_reducible refine Below.drew ?_) | go_size))⟩
end Go.Proofs.YtdpbgcilkidbaaaDoor
