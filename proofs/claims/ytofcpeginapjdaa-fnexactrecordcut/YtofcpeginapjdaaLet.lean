/-
  Letters: whether one is ok, by both; a letter measured and copied.
-/
import Derived.Test.YtofcpeginapjdaaInts
namespace Go.Proofs.Ytofcpeginapjdaa
open Go.RowKit

/-- A letter that is ok: between the nodes f and t, of n bytes. -/
def letOk (f t : Int) (n : Nat) : Bool := decide (0 ≤ f ∧ f ≤ 20) && decide (0 ≤ t ∧ t ≤ 20) && decide (n ≤ 600)

/-- A letter in the block B. -/
def Le (B : Nat) (f t : Int) (s : ByteArray) (W : World) : Prop := B < W.heap.size ∧ W.cell? ⟨B, 0, none⟩ = some (.int .i64 f) ∧ W.cell? ⟨B, 1, none⟩ = some (.int .i64 t) ∧ W.cell? ⟨B, 2, none⟩ = some (.string s)
theorem Le.new (W : World) (f t : Int) (s : ByteArray) (y : TypeId) : Le W.heap.size f t s (W.alloc (.cells #[.int .i64 f, .int .i64 t, .string s] y)) := by
  refine ⟨by simp, ?_, ?_, ?_⟩ <;> simp [go_sem]
theorem Le.call {B : Nat} {f t : Int} {s : ByteArray} {W W' : World} (h : Le B f t s W) (hb : Below W.heap.size W W') : Le B f t s W' :=
  ⟨Nat.lt_of_lt_of_le h.1 hb.size, (hb.cell h.1).trans h.2.1, (hb.cell h.1).trans h.2.2.1, (hb.cell h.1).trans h.2.2.2⟩
end Go.Proofs.Ytofcpeginapjdaa
