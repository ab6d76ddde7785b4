/-
  The box of a digest that a function answers with: four cells of nought, kept through calls.
-/
import Derived.Test.YteaaaojafipllaaDoorKit
import Derived.Test.YteaaaojafipllaaDoorJoinB6
import Derived.Test.YteaaaojafipllaaDoorWalks13
import Derived.Test.YteaaaojafipllaaDoorJoinB5
namespace Go.Proofs.YteaaaojafipllaaDoor
open Go.RowKit

/-- The block B holds four noughts that may be written. -/
def Box (B : Nat) (W : World) : Prop := B < W.heap.size ∧ ∀ j, j < 4 → W.cell? ⟨B, j, none⟩ = some (.int .u64 0) ∧ W.frozen? ⟨B, j, none⟩ = false
theorem Box.start (w : World) : Box w.heap.size (w.alloc (.cells #[Value.int IntKind.u64 0, Value.int IntKind.u64 0, Value.int IntKind.u64 0, Value.int IntKind.u64 0] 34)) := by
  refine ⟨by simp, fun j hj => ?_⟩
  have hj' : j = 0 ∨ j = 1 ∨ j = 2 ∨ j = 3 := by omega
  rcases hj' with rfl | rfl | rfl | rfl <;> simp [go_sem]
theorem Box.call {B : Nat} {W W' : World} (h : Box B W) (hb : Below W.heap.size W W') : Box B W' :=
  ⟨Nat.lt_of_lt_of_le h.1 hb.size, fun j hj => ⟨(hb.cell h.1).trans (h.2 j hj).1, (hb.frozen h.1).trans (h.2 j hj).2⟩⟩
theorem Box.drew {B : Nat} {W : World} (h : Box B W) : Box B W.drew := h
theorem Box.alloc {B : Nat} {W : World} (h : Box B W) (o : Obj) : Box B (W.alloc o) := h.call ((Below.refl _ _).alloc (Nat.le_refl _) o)
theorem Box.facts {B : Nat} {W : World} (h : Box B W) : W.cell? ⟨B, 0, none⟩ = some (.int .u64 0) ∧ W.cell? ⟨B, 1, none⟩ = some (.int .u64 0) ∧ W.cell? ⟨B, 2, none⟩ = some (.int .u64 0) ∧ W.cell? ⟨B, 3, none⟩ = some (.int .u64 0) ∧
    W.frozen? ⟨B, 0, none⟩ = false ∧ W.frozen? ⟨B, 1, none⟩ = false ∧ W.frozen? ⟨B, 2, none⟩ = false ∧ W.frozen? ⟨B, 3, none⟩ = false :=
  ⟨(h.2 0 (by omega)).1, (h.2 1 (by omega)).1, (h.2 2 (by omega)).1, (h.2 3 (by omega)).1, (h.2 0 (by omega)).2, (h.2 1 (by omega)).2, (h.2 2 (by omega)).2, (h.2 3 (by omega)).2⟩
/-- The block B holds the digest q. -/
def Dig (B : Nat) (q : Qd) (W : World) : Prop := B < W.heap.size ∧ W.cell? ⟨B, 0, none⟩ = some (Value.int IntKind.u64 ((q.a).toNat : Int)) ∧ W.cell? ⟨B, 1, none⟩ = some (Value.int IntKind.u64 ((q.b).toNat : Int)) ∧ W.cell? ⟨B, 2, none⟩ = some (Value.int IntKind.u64 ((q.c).toNat : Int)) ∧ W.cell? ⟨B, 3, none⟩ = some (Value.int IntKind.u64 ((q.d).toNat : Int))
theorem Dig.new (w : World) (q : Qd) : Dig w.heap.size q (w.alloc (.cells #[Value.int IntKind.u64 ((q).a.toNat : Int), Value.int IntKind.u64 ((q).b.toNat : Int), Value.int IntKind.u64 ((q).c.toNat : Int), Value.int IntKind.u64 ((q).d.toNat : Int)] 34)) := by
  refine ⟨by simp, ?_, ?_, ?_, ?_⟩ <;> simp [go_sem]
theorem Dig.call {B : Nat} {q : Qd} {W W' : World} (h : Dig B q W) (hb : Below W.heap.size W W') : Dig B q W' := by
  obtain ⟨h0, h1, h2, h3, h4⟩ := h
  exact ⟨Nat.lt_of_lt_of_le h0 hb.size, (hb.cell h0).trans h1, (hb.cell h0).trans h2, (hb.cell h0).trans h3, (hb.cell h0).trans h4⟩
theorem Dig.alloc {B : Nat} {q : Qd} {W : World} (h : Dig B q W) (o : Obj) : Dig B q (W.alloc o) := h.call ((Below.refl _ _).alloc (Nat.le_refl _) o)
theorem Dig.drew {B : Nat} {q : Qd} {W : World} (h : Dig B q W) : Dig B q W.drew := h
end Go.Proofs.YteaaaojafipllaaDoor

/-
  toPoint, walked; the box of a point.
-/
namespace Go.Proofs.YteaaaojafipllaaDoor
open Go.RowKit
/-- The block B has a point. -/
def Pt (B : Nat) (n : Int) (q : Qd) (W : World) : Prop :=
  B < W.heap.size ∧ W.cell? ⟨B, 0, none⟩ = some (.int .i64 n) ∧ W.cell? ⟨B, 1, none⟩ = some (.int .u64 ((q.a).toNat : Int)) ∧ W.cell? ⟨B, 2, none⟩ = some (.int .u64 ((q.b).toNat : Int)) ∧ W.cell? ⟨B, 3, none⟩ = some (.int .u64 ((q.c).toNat : Int)) ∧ W.cell? ⟨B, 4, none⟩ = some (.int .u64 ((q.d).toNat : Int))
theorem Pt.call {B : Nat} {n : Int} {q : Qd} {W W' : World} (h : Pt B n q W) (hb : Below W.heap.size W W') : Pt B n q W' :=
  ⟨Nat.lt_of_lt_of_le h.1 hb.size, (hb.cell h.1).trans h.2.1, (hb.cell h.1).trans h.2.2.1, (hb.cell h.1).trans h.2.2.2.1, (hb.cell h.1).trans h.2.2.2.2.1, (hb.cell h.1).trans h.2.2.2.2.2⟩
theorem Pt.new (W : World) (n : Int) (q : Qd) (t : TypeId) : Pt W.heap.size n q (W.alloc (.cells #[.int .i64 n, .int .u64 ((q.a).toNat : Int), .int .u64 ((q.b).toNat : Int), .int .u64 ((q.c).toNat : Int), .int .u64 ((q.d).toNat : Int)] t)) := by
  refine ⟨by simp, ?_, ?_, ?_, ?_, ?_⟩ <;> simp [go_sem]

set_option maxRecDepth 20000 in
set_option maxHeartbeats 1000000 in
theorem topt_is (n : Int) (q : Qd) (w : World) :
    Calls Tryd.prog 35 #[.agg #[.int .i64 n, .int .u64 ((q.a).toNat : Int), .int .u64 ((q.b).toNat : Int), .int .u64 ((q.c).toNat : Int), .int .u64 ((q.d).toNat : Int)]] w fun e w' => e = .returned (.agg #[.int .i64 n, .int .u64 ((q.a).toNat : Int), .int .u64 ((q.b).toNat : Int), .int .u64 ((q.c).toNat : Int), .int .u64 ((q.d).toNat : Int)]) ∧ Below w.heap.size w w' := by
  go_enter Tryd.func35, Tryd.ntmps35
  go_wp2_with (go_at_call 34; refine (toD_is _ _).mono ?_; rintro e w1 ⟨rfl, rfl⟩)
  exact bodyPost_ret (v := .agg #[.int .i64 n, .int .u64 ((q.a).toNat : Int), .int .u64 ((q.b).toNat : Int), .int .u64 ((q.c).toNat : Int), .int .u64 ((q.d).toNat : Int)]) (by simp [results, Tryd.results35, go_sem]) rfl ⟨rfl, (by repeat' (first | (with_reducible exact Below.refl _ _) | (with_reducible assumption) | (with_reducible refine below_drewN ?_ _) | (with_reducible refine Below.setCell ?_ ?_ _) | (with_reducible refine Below.alloc ?_ ?_ _) | (with_reducible refine Below.drew ?_) | go_size))⟩
end Go.Proofs.YteaaaojafipllaaDoor
