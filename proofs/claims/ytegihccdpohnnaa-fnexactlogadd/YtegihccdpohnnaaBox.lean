/-
  The box of a digest that a function answers with: four cells of nought, kept through calls.
-/
import Derived.Test.YtegihccdpohnnaaKit
import Derived.Test.YtegihccdpohnnaaPlain2
import Derived.Test.YtegihccdpohnnaaWalks13
namespace Go.Proofs.Ytegihccdpohnnaa
open Go.RowKit

/-- The block B holds four noughts that may be written. -/
def Box (B : Nat) (W : World) : Prop := B < W.heap.size ∧ ∀ j, j < 4 → W.cell? ⟨B, j, none⟩ = some (.int .u64 0) ∧ W.frozen? ⟨B, j, none⟩ = false
theorem Box.call {B : Nat} {W W' : World} (h : Box B W) (hb : Below W.heap.size W W') : Box B W' :=
  ⟨Nat.lt_of_lt_of_le h.1 hb.size, fun j hj => ⟨(hb.cell h.1).trans (h.2 j hj).1, (hb.frozen h.1).trans (h.2 j hj).2⟩⟩
theorem Box.drew {B : Nat} {W : World} (h : Box B W) : Box B W.drew := h
theorem Box.alloc {B : Nat} {W : World} (h : Box B W) (o : Obj) : Box B (W.alloc o) := h.call ((Below.refl _ _).alloc (Nat.le_refl _) o)
theorem Box.facts {B : Nat} {W : World} (h : Box B W) : W.cell? ⟨B, 0, none⟩ = some (.int .u64 0) ∧ W.cell? ⟨B, 1, none⟩ = some (.int .u64 0) ∧ W.cell? ⟨B, 2, none⟩ = some (.int .u64 0) ∧ W.cell? ⟨B, 3, none⟩ = some (.int .u64 0) ∧
    W.frozen? ⟨B, 0, none⟩ = false ∧ W.frozen? ⟨B, 1, none⟩ = false ∧ W.frozen? ⟨B, 2, none⟩ = false ∧ W.frozen? ⟨B, 3, none⟩ = false :=
  ⟨(h.2 0 (by omega)).1, (h.2 1 (by omega)).1, (h.2 2 (by omega)).1, (h.2 3 (by omega)).1, (h.2 0 (by omega)).2, (h.2 1 (by omega)).2, (h.2 2 (by omega)).2, (h.2 3 (by omega)).2⟩
/-- The block B holds the digest q. -/
def Dig (B : Nat) (q : Qd) (W : World) : Prop := B < W.heap.size ∧ W.cell? ⟨B, 0, none⟩ = some (Value.int IntKind.u64 ((q.a).toNat : Int)) ∧ W.cell? ⟨B, 1, none⟩ = some (Value.int IntKind.u64 ((q.b).toNat : Int)) ∧ W.cell? ⟨B, 2, none⟩ = some (Value.int IntKind.u64 ((q.c).toNat : Int)) ∧ W.cell? ⟨B, 3, none⟩ = some (Value.int IntKind.u64 ((q.d).toNat : Int))
theorem Dig.call {B : Nat} {q : Qd} {W W' : World} (h : Dig B q W) (hb : Below W.heap.size W W') : Dig B q W' := by
  obtain ⟨h0, h1, h2, h3, h4⟩ := h
  exact ⟨Nat.lt_of_lt_of_le h0 hb.size, (hb.cell h0).trans h1, (hb.cell h0).trans h2, (hb.cell h0).trans h3, (hb.cell h0).trans h4⟩
theorem Dig.alloc {B : Nat} {q : Qd} {W : World} (h : Dig B q W) (o : Obj) : Dig B q (W.alloc o) := h.call ((Below.refl _ _).alloc (Nat.le_refl _) o)
theorem Dig.drew {B : Nat} {q : Qd} {W : World} (h : Dig B q W) : Dig B q W.drew := h
end Go.Proofs.Ytegihccdpohnnaa
