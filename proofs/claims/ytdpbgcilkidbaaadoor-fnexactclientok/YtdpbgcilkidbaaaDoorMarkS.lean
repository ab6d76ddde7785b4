/-
  A list of texts is marked.
-/
import Derived.Test.YtdpbgcilkidbaaaDoorTxt
import Derived.Test.YtdpbgcilkidbaaaDoorMark
import Derived.Test.YtdpbgcilkidbaaaDoorWalks11
namespace Go.Proofs.YtdpbgcilkidbaaaDoor
open Go.RowKit

/-- The block B has n places that may be written. -/
def SR (B n : Nat) (W : World) : Prop := B < W.heap.size ∧ ∀ i, i < n → (W.cell? ⟨B, i, none⟩).isSome = true ∧ W.frozen? ⟨B, i, none⟩ = false
theorem SR.call {B n : Nat} {W W' : World} (h : SR B n W) (hb : Below W.heap.size W W') : SR B n W' :=
  ⟨Nat.lt_of_lt_of_le h.1 hb.size, fun i hi => ⟨by rw [hb.cell (p := ⟨B, i, none⟩) h.1]; exact (h.2 i hi).1, (hb.frozen (p := ⟨B, i, none⟩) h.1).trans (h.2 i hi).2⟩⟩
theorem SR.set {B n : Nat} {W : World} (h : SR B n W) (j : Nat) (x : Value) : SR B n (W.setCell ⟨B, j, none⟩ x) := by
  refine ⟨by simp only [World.size_setCell]; exact h.1, fun i hi => ⟨?_, by rw [World.frozen?_setCell]; exact (h.2 i hi).2⟩⟩
  by_cases e : j = i
  · subst e; rw [set_same (h.2 j hi).1]; rfl
  · rw [set_off e]; exact (h.2 i hi).1
end Go.Proofs.YtdpbgcilkidbaaaDoor
