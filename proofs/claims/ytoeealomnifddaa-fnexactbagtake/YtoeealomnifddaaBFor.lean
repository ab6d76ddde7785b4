/-
  The places of the letters to a node, by both.
-/
import Derived.Test.YtoeealomnifddaaBag4
import Derived.Test.YtoeealomnifddaaIntR
namespace Go.Proofs.Ytoeealomnifddaa
open Go.RowKit

theorem own_down {W : World} {b base e size n : Nat} {v : Value} {xs : List Value} (h : W.ownsRow base e size v n xs) (hb : b ≤ base) : W.ownsRow b e size v n xs := by
  obtain ⟨h1, h2 | ⟨g, cap, cur, h3, h4, h5⟩⟩ := h
  · exact ⟨h1, .inl h2⟩
  · exact ⟨h1, .inr ⟨g, cap, cur, h3, Nat.le_trans hb h4, h5⟩⟩
theorem C2.grown {B : Nat} {x y : Value} {W W' : World} {row : Option Nat} (h : C2 B x y W) (hg : W.grownBy W' row) (hr : row ≠ some B) : C2 B x y W' := by
  obtain ⟨h0, h1, h2, h3, h4⟩ := h
  have hb : W'.heap[B]? = W.heap[B]? := hg.block B h0 (fun e => hr e.symm)
  exact ⟨Nat.lt_of_lt_of_le h0 hg.size, (World.cell?_of_block (w := W) (a := ⟨B, 0, none⟩) hb).trans h1, (World.cell?_of_block (w := W) (a := ⟨B, 1, none⟩) hb).trans h2, (World.frozen?_of_block (w := W) (a := ⟨B, 0, none⟩) hb).trans h3, (World.frozen?_of_block (w := W) (a := ⟨B, 1, none⟩) hb).trans h4⟩
/-- The places of the letters to a node among the first k. -/
def posn (node : Int) (L : List Lt) : Nat → List Int
  | 0 => []
  | k + 1 => if (L.getD k ⟨0, 0, ByteArray.empty⟩).t = node then posn node L k ++ [(k : Int)] else posn node L k
theorem posn_len (node : Int) (L : List Lt) : ∀ k, (posn node L k).length ≤ k
  | 0 => Nat.le_refl _
  | k + 1 => by
    have := posn_len node L k
    unfold posn
    split
    · simp; omega
    · omega
/-- What BagFor tells. -/
def bagFor (m : Int) (L : List Lt) (node : Int) : List Int := if bagOk m L = true then posn node L L.length else []
theorem bagOk_len {m : Int} {L : List Lt} (h : bagOk m L = true) : L.length ≤ 64 := by
  unfold bagOk at h
  rw [Bool.and_eq_true, decide_eq_true_iff] at h
  omega
theorem bagFor_len (m : Int) (L : List Lt) (node : Int) : (bagFor m L node).length ≤ 64 := by
  unfold bagFor
  split
  · rename_i h
    exact Nat.le_trans (posn_len node L _) (bagOk_len h)
  · simp

end Go.Proofs.Ytoeealomnifddaa
