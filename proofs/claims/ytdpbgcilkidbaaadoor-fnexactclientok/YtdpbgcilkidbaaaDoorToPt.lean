/-
  toPoint, walked; the box of a point.
-/
import Derived.Test.YtdpbgcilkidbaaaDoorWalks1
import Derived.Test.YtdpbgcilkidbaaaDoorBox
import Derived.Test.YtdpbgcilkidbaaaDoorKit
namespace Go.Proofs.YtdpbgcilkidbaaaDoor
open Go.RowKit
/-- The block B has a point. -/
def Pt (B : Nat) (n : Int) (q : Qd) (W : World) : Prop :=
  B < W.heap.size ∧ W.cell? ⟨B, 0, none⟩ = some (.int .i64 n) ∧ W.cell? ⟨B, 1, none⟩ = some (.int .u64 ((q.a).toNat : Int)) ∧ W.cell? ⟨B, 2, none⟩ = some (.int .u64 ((q.b).toNat : Int)) ∧ W.cell? ⟨B, 3, none⟩ = some (.int .u64 ((q.c).toNat : Int)) ∧ W.cell? ⟨B, 4, none⟩ = some (.int .u64 ((q.d).toNat : Int))
theorem Pt.call {B : Nat} {n : Int} {q : Qd} {W W' : World} (h : Pt B n q W) (hb : Below W.heap.size W W') : Pt B n q W' :=
  ⟨Nat.lt_of_lt_of_le h.1 hb.size, (hb.cell h.1).trans h.2.1, (hb.cell h.1).trans h.2.2.1, (hb.cell h.1).trans h.2.2.2.1, (hb.cell h.1).trans h.2.2.2.2.1, (hb.cell h.1).trans h.2.2.2.2.2⟩
theorem Pt.new (W : World) (n : Int) (q : Qd) (t : TypeId) : Pt W.heap.size n q (W.alloc (.cells #[.int .i64 n, .int .u64 ((q.a).toNat : Int), .int .u64 ((q.b).toNat : Int), .int .u64 ((q.c).toNat : Int), .int .u64 ((q.d).toNat : Int)] t)) := by
  refine ⟨by simp, ?_, ?_, ?_, ?_, ?_⟩ <;> simp [go_sem]

set_option maxRecDepth 20000 in
set_option maxHeartbeats 1000000 in
theorem topt_is (n : Int) (q : Qd) (w : World) :
    Calls Tryd.prog 17 #[.agg #[.int .i64 n, .int .u64 ((q.a).toNat : Int), .int .u64 ((q.b).toNat : Int), .int .u64 ((q.c).toNat : Int), .int .u64 ((q.d).toNat : Int)]] w fun e w' => e = .returned (.agg #[.int .i64 n, .int .u64 ((q.a).toNat : Int), .int .u64 ((q.b).toNat : Int), .int .u64 ((q.c).toNat : Int), .int .u64 ((q.d).toNat : Int)]) ∧ Below w.heap.size w w' := by
  go_enter Tryd.func17, Tryd.ntmps17
  go_wp2_with (go_at_call 24; refine (toD_is _ _).mono ?_; rintro e w1 ⟨rfl, rfl⟩)
  exact bodyPost_ret (v := .agg #[.int .i64 n, .int .u64 ((q.a).toNat : Int), .int .u64 ((q.b).toNat : Int), .int .u64 ((q.c).toNat : Int), .int .u64 ((q.d).toNat : Int)]) (by simp [results, Tryd.results17, go_sem]) rfl ⟨rfl, (by repeat' (first | (with_reducible exact Below.refl _ _) | (with_reducible assumption) | (with_reducible refine below_drewN ?_ _) | (with_reducible refine Below.setCell ?_ ?_ _) | (with_reducible refine Below.alloc ?_ ?_ _) | (with_reducible refine Below.drew ?_) | go_size))⟩
end Go.Proofs.YtdpbgcilkidbaaaDoor
