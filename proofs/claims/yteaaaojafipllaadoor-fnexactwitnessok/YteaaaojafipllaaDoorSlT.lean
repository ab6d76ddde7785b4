/-
  A slot in plain words, and its box.
-/
import Derived.Test.YteaaaojafipllaaDoorRows
import Derived.Test.YteaaaojafipllaaDoorPlain
import Derived.Test.YteaaaojafipllaaDoorKit
import Derived.Handy
namespace Go.Proofs.YteaaaojafipllaaDoor
open Go.RowKit

structure Sl where
  m : UInt64
  q : UInt64
  z : UInt64
  r : Qd

/-- The block B begins with a slot. -/
def SB (B : Nat) (s : Sl) (W : World) : Prop :=
  B < W.heap.size ∧ W.cell? ⟨B, 0, none⟩ = some (.int .u64 ((s.m).toNat : Int)) ∧ W.cell? ⟨B, 1, none⟩ = some (.int .u64 ((s.q).toNat : Int)) ∧ W.cell? ⟨B, 2, none⟩ = some (.int .u64 ((s.z).toNat : Int)) ∧ W.cell? ⟨B, 3, none⟩ = some (.int .u64 ((s.r.a).toNat : Int)) ∧ W.cell? ⟨B, 4, none⟩ = some (.int .u64 ((s.r.b).toNat : Int)) ∧ W.cell? ⟨B, 5, none⟩ = some (.int .u64 ((s.r.c).toNat : Int)) ∧ W.cell? ⟨B, 6, none⟩ = some (.int .u64 ((s.r.d).toNat : Int))
theorem SB.call {B : Nat} {s : Sl} {W W' : World} (h : SB B s W) (hb : Below W.heap.size W W') : SB B s W' :=
  ⟨Nat.lt_of_lt_of_le h.1 hb.size, (hb.cell h.1).trans h.2.1, (hb.cell h.1).trans h.2.2.1, (hb.cell h.1).trans h.2.2.2.1, (hb.cell h.1).trans h.2.2.2.2.1, (hb.cell h.1).trans h.2.2.2.2.2.1, (hb.cell h.1).trans h.2.2.2.2.2.2.1, (hb.cell h.1).trans h.2.2.2.2.2.2.2⟩
theorem SB.new (W : World) (s : Sl) (t : TypeId) : SB W.heap.size s (W.alloc (.cells #[Value.int IntKind.u64 ((s).m.toNat : Int), Value.int IntKind.u64 ((s).q.toNat : Int), Value.int IntKind.u64 ((s).z.toNat : Int), Value.int IntKind.u64 ((s).r.a.toNat : Int), Value.int IntKind.u64 ((s).r.b.toNat : Int), Value.int IntKind.u64 ((s).r.c.toNat : Int), Value.int IntKind.u64 ((s).r.d.toNat : Int)] t)) := by
  refine ⟨by simp, ?_, ?_, ?_, ?_, ?_, ?_, ?_⟩ <;> simp [go_sem]

end Go.Proofs.YteaaaojafipllaaDoor
