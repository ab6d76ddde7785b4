/-
  What a law of an answer that is a list of digests asks: the lists stand, whatever is written elsewhere.
-/
import Derived.Test.YtegihccdpohnnaaMark
import Derived.Laws.OwnMore
namespace Go.Proofs.Ytegihccdpohnnaa
open Go.RowKit

/-- A list of digests that lies ahead of the block B. -/
def DgsB (B : Nat) (W : World) (v : Value) (L : List Qd) : Prop := Dgs W v L ∧ (0 < L.length → ∀ a n c, v = .slice (some a) n c → a.block < B)
theorem DgsB.of {W : World} {v : Value} {L : List Qd} (h : Dgs W v L) : DgsB W.heap.size W v L := by
  refine ⟨h, fun hl a n c e => ?_⟩
  rcases h with ⟨rfl, rfl⟩ | ⟨a', cap, rfl, _, _, hb, _⟩
  · simp at hl
  · injection e with e _ _
    injection e with e
    subst e
    exact hb hl
theorem DgsB.mono {B B' : Nat} {W : World} {v : Value} {L : List Qd} (h : DgsB B W v L) (hB : B ≤ B') : DgsB B' W v L :=
  ⟨h.1, fun hl a n c e => Nat.lt_of_lt_of_le (h.2 hl a n c e) hB⟩
theorem DgsB.below {B B' : Nat} {W W' : World} {v : Value} {L : List Qd} (h : DgsB B W v L) (hb : Below B' W W') (hB : B ≤ B') : DgsB B W' v L := by
  refine ⟨?_, h.2⟩
  have h2 := h.2
  rcases h.1 with h0 | ⟨a, cap, e, h3, h4, h5, h6⟩
  · exact .inl h0
  · refine .inr ⟨a, cap, e, h3, h4, fun hl => Nat.lt_of_lt_of_le (h5 hl) hb.size, fun i hi => ?_⟩
    have hlt := h2 (by omega) a L.length cap e
    exact (h6 i hi).below hb (by rw [add_block]; omega)
/-- What stands while a law goes on: its argument v, the model's answer u, both ahead of the block b. -/
def PS (w : World) (b : Nat) (v u : Value) (L R : List Qd) (W : World) : Prop :=
  w.heap.size ≤ b ∧ b ≤ W.heap.size ∧ DgsB w.heap.size W v L ∧ DgsB b W u R ∧ Below w.heap.size w W
theorem PS.step {w W W' : World} {b B : Nat} {v u : Value} {L R : List Qd} (h : PS w b v u L R W) (hb : Below B W W') (hB : b ≤ B) : PS w b v u L R W' :=
  ⟨h.1, Nat.le_trans h.2.1 hb.size, h.2.2.1.below hb (Nat.le_trans h.1 hB), h.2.2.2.1.below hb hB, h.2.2.2.2.trans (hb.mono (Nat.le_trans h.1 hB))⟩
theorem PS.call {w W W' : World} {b : Nat} {v u : Value} {L R : List Qd} (h : PS w b v u L R W) (hb : Below W.heap.size W W') : PS w b v u L R W' := h.step hb h.2.1
theorem grown_below_at {W W' : World} {g : Nat} (h : W.grownBy W' (some g)) (hg : g ≤ W.heap.size) : Below g W W' :=
  (Below.refl g W).grown h hg (fun k e => by injection e with e; omega)
/-- The marks from k on lie in the list u of n digests, and end at r. -/
def HeldG (W : World) (u : Value) (n k r : Nat) : Prop := r = k + 4 * n ∧ ((n = 0 ∧ ∃ oa cap, u = .slice oa 0 cap) ∨ ∃ g cap, u = .slice (some ⟨g, 0, none⟩) n cap ∧ DR g n (mks k n) n W)
theorem HeldG.call {W W' : World} {u : Value} {n k r : Nat} (h : HeldG W u n k r) (hb : Below W.heap.size W W') : HeldG W' u n k r := by
  obtain ⟨hr, h0 | ⟨g, cap, e, hd⟩⟩ := h
  · exact ⟨hr, .inl h0⟩
  · exact ⟨hr, .inr ⟨g, cap, e, hd.call hb⟩⟩
end Go.Proofs.Ytegihccdpohnnaa
