/-
  The law of BagFor, walked.
-/
import Derived.Test.YtoeealomnifddaaBMark
import Derived.Test.YtoeealomnifddaaAns
namespace Go.Proofs.Ytoeealomnifddaa
open Go.RowKit

/-- Letters that lie ahead of the block B. -/
def LtsB (B : Nat) (W : World) (v : Value) (L : List Lt) : Prop := Lts W v L ∧ (0 < L.length → ∀ a n c, v = .slice (some a) n c → a.block < B)
theorem LtsB.of {W : World} {v : Value} {L : List Lt} (h : Lts W v L) : LtsB W.heap.size W v L := by
  refine ⟨h, fun hl a n c e => ?_⟩
  rcases h with ⟨rfl, rfl⟩ | ⟨a', cap, rfl, _, _, hb, _⟩
  · simp at hl
  · injection e with e _ _
    injection e with e
    subst e
    exact hb hl
theorem LtsB.below {B B' : Nat} {W W' : World} {v : Value} {L : List Lt} (h : LtsB B W v L) (hb : Below B' W W') (hB : B ≤ B') : LtsB B W' v L := by
  refine ⟨?_, h.2⟩
  have h2 := h.2
  rcases h.1 with h0 | ⟨a, cap, e, h3, h4, h5, h6⟩
  · exact .inl h0
  · refine .inr ⟨a, cap, e, h3, h4, fun hl => Nat.lt_of_lt_of_le (h5 hl) hb.size, fun i hi => ?_⟩
    have hlt := h2 (by omega) a L.length cap e
    exact (h6 i hi).below hb (by rw [add_block]; omega)
/-- Numbers that lie ahead of the block B. -/
def ItsB (B : Nat) (W : World) (v : Value) (X : List Int) : Prop := Its W v X ∧ (0 < X.length → ∀ a n c, v = .slice (some a) n c → a.block < B)
theorem ItsB.of {W : World} {v : Value} {X : List Int} (h : Its W v X) : ItsB W.heap.size W v X := by
  refine ⟨h, fun hl a n c e => ?_⟩
  rcases h with ⟨rfl, rfl⟩ | ⟨a', cap, rfl, _, _, hb, _⟩
  · simp at hl
  · injection e with e _ _
    injection e with e
    subst e
    exact hb hl
theorem ItsB.below {B B' : Nat} {W W' : World} {v : Value} {X : List Int} (h : ItsB B W v X) (hb : Below B' W W') (hB : B ≤ B') : ItsB B W' v X := by
  refine ⟨?_, h.2⟩
  have h2 := h.2
  rcases h.1 with h0 | ⟨a, cap, e, h3, h4, h5, h6⟩
  · exact .inl h0
  · refine .inr ⟨a, cap, e, h3, h4, fun hl => Nat.lt_of_lt_of_le (h5 hl) hb.size, fun i hi => ?_⟩
    have hlt := h2 (by omega) a X.length cap e
    exact (hb.cell (by rw [add_block]; omega)).trans (h6 i hi)
theorem C2.below {B B' : Nat} {x y : Value} {W W' : World} (h : C2 B x y W) (hb : Below B' W W') (hB : B < B') : C2 B x y W' := by
  obtain ⟨h0, h1, h2, h3, h4⟩ := h
  exact ⟨Nat.lt_of_lt_of_le h0 hb.size, (hb.cell (p := ⟨B, 0, none⟩) hB).trans h1, (hb.cell (p := ⟨B, 1, none⟩) hB).trans h2, (hb.frozen (p := ⟨B, 0, none⟩) hB).trans h3, (hb.frozen (p := ⟨B, 1, none⟩) hB).trans h4⟩
/-- What stands while a law of a bag goes on: the bag's letters v and its box, the model's answer u, all ahead of the block b. -/
def PB (w : World) (b : Nat) (m : Int) (v u : Value) (L : List Lt) (X : List Int) (W : World) : Prop :=
  w.heap.size < b ∧ b ≤ W.heap.size ∧ LtsB w.heap.size W v L ∧ ItsB b W u X ∧ C2 w.heap.size (.int .i64 m) v W ∧ Below w.heap.size w W
theorem PB.step {w W W' : World} {b B : Nat} {m : Int} {v u : Value} {L : List Lt} {X : List Int} (h : PB w b m v u L X W) (hb : Below B W W') (hB : b ≤ B) : PB w b m v u L X W' :=
  ⟨h.1, Nat.le_trans h.2.1 hb.size, h.2.2.1.below hb (Nat.le_trans (Nat.le_of_lt h.1) hB), h.2.2.2.1.below hb hB, h.2.2.2.2.1.below hb (Nat.lt_of_lt_of_le h.1 hB), h.2.2.2.2.2.trans (hb.mono (Nat.le_trans (Nat.le_of_lt h.1) hB))⟩
theorem PB.call {w W W' : World} {b : Nat} {m : Int} {v u : Value} {L : List Lt} {X : List Int} (h : PB w b m v u L X W) (hb : Below W.heap.size W W') : PB w b m v u L X W' := h.step hb h.2.1

end Go.Proofs.Ytoeealomnifddaa
