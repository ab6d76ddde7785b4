/-
  BagTake of the document: the letters without one, made anew.
-/
import Derived.Test.YtnfnhgloblfgnaaTk5
import Derived.Test.YtnfnhgloblfgnaaJoinB28
namespace Go.Proofs.Ytnfnhgloblfgnaa
open Go.RowKit

theorem less_nil (p : Nat) : less [] p = [] := by unfold less; simp
theorem less_skip (L : List Lt) (p : Nat) (h : p < L.length) : less (L.take (p + 1)) p = less (L.take p) p := by
  unfold less
  rw [List.take_take, List.take_take, List.drop_of_length_le (by rw [List.length_take]; omega), List.drop_of_length_le (by rw [List.length_take]; omega), Nat.min_eq_left (by omega), Nat.min_self]
theorem less_more (L : List Lt) (p j : Nat) (h : j < L.length) (hj : j ≠ p) : less (L.take (j + 1)) p = less (L.take j) p ++ [L[j]] := by
  have hl : (L.take j).length = j := by rw [List.length_take]; omega
  rw [List.take_succ_eq_append_getElem h]
  generalize L[j] = x
  generalize L.take j = A at hl
  unfold less
  rcases Nat.lt_or_gt_of_ne hj with h' | h'
  · rw [List.take_of_length_le (by simp; omega), List.take_of_length_le (by omega), List.drop_of_length_le (by simp; omega), List.drop_of_length_le (by omega), List.append_nil, List.append_nil]
  · rw [List.take_append_of_le_length (by omega), List.drop_append_of_le_length (by omega), List.append_assoc]
theorem less_all (L : List Lt) (p j : Nat) (h : L.length ≤ j) : less (L.take j) p = less L p := by rw [List.take_of_length_le h]
/-- What stands while the letters are made anew: the boxes, the box X of the new bag, its row. -/
def CT (W : World) (m : Int) (v : Value) (X : Nat) (Y : List Lt) (ob : Option Addr) (cq : Nat) (wr : World) : Prop :=
  B3 W m v wr ∧ C2 X (.int .i64 m) (.slice ob Y.length cq) wr ∧ wr.ownsRow (X + 1) 32 3 (.slice ob Y.length cq) Y.length (lcs Y) ∧ W.heap.size + 1 + 1 < X
theorem CT.call {W : World} {m : Int} {v : Value} {X : Nat} {Y : List Lt} {ob : Option Addr} {cq : Nat} {w1 w2 : World} (h : CT W m v X Y ob cq w1) (hb : Below w1.heap.size w1 w2) : CT W m v X Y ob cq w2 :=
  ⟨h.1.call hb, h.2.1.call hb, own_callL h.2.2.1 hb, h.2.2.2⟩
theorem B3.grown' {W : World} {m : Int} {v : Value} {w1 w2 : World} {r : Option Nat} (h : B3 W m v w1) (hg : w1.grownBy w2 r) (hr : ∀ j, r = some j → W.heap.size + 1 + 1 < j) : B3 W m v w2 :=
  ⟨h.1.grown hg (fun e => by have := hr _ e; omega), h.2.1.grown hg (fun e => by have := hr _ e; omega), h.2.2.1.grown hg (fun e => by have := hr _ e; omega), h.2.2.2.grown hg h.2.2.2.size (fun k e => by have := hr _ e; omega)⟩
theorem C2.snd {B : Nat} {x y : Value} {W : World} (h : C2 B x y W) (z : Value) : C2 B x z (W.setCell ⟨B, 1, none⟩ z) := by
  obtain ⟨x0, x1, x2, x3, x4⟩ := h
  refine ⟨by simpa using x0, ?_, ?_, ?_, ?_⟩ <;> simp [go_sem, x1, x2, x3, x4]
theorem CT.more {W : World} {m : Int} {v : Value} {X : Nat} {Y : List Lt} {x : Lt} {ob : Option Addr} {cq : Nat} {w1 w2 : World} {v' : Value} (h : CT W m v X Y ob cq w1)
    (ho : w2.ownsRow (X + 1) 32 3 v' (Y.length + 1) (lcs Y ++ lc x)) (hg : w1.grownBy w2 (Value.slice ob Y.length cq).ownBlock) :
    ∃ oc cp, v' = .slice oc (Y.length + 1) cp ∧ C2 X (.int .i64 m) (.slice ob Y.length cq) w2 ∧ C2 W.heap.size (.int .i64 m) v w2 ∧ Below W.heap.size W w2 ∧ CT W m v X (Y ++ [x]) oc cp (w2.setCell ⟨X, 1, none⟩ (.slice oc (Y.length + 1) cp)) := by
  obtain ⟨h1, h2, h3, h4⟩ := h
  obtain ⟨oc, cp, rfl⟩ := owl_len ho
  have n1 : ∀ j, (Value.slice ob Y.length cq).ownBlock = some j → X + 1 ≤ j := fun j e => (h3.lt _ e).1
  have n2 : ∀ j, (Value.slice oc (Y.length + 1) cp).ownBlock = some j → X + 1 ≤ j := fun j e => (ho.lt _ e).1
  have g1 := h1.grown' hg (fun j e => by have := n1 j e; omega)
  have g2 := h2.grown hg (fun e => by have := n1 _ e; omega)
  have gs := grown_set w2 X 1 (.slice oc (Y.length + 1) cp)
  refine ⟨oc, cp, rfl, g2, g1.1, g1.2.2.2, g1.grown' gs (fun j e => by injection e with e; omega), ?_, ?_, h4⟩
  · rw [List.length_append]; exact g2.snd _
  · have := ho.kept gs (.inr (fun e => by have := n2 _ e; omega))
    rw [List.length_append, lcs_append]
    simpa [lcs] using this
/-- The answer's letters and all else, behind the stores. -/
theorem own_put {W w1 : World} {base n : Nat} {u x0 y0 x1 y1 z1 : Value} {xs : List Value} (h : w1.ownsRow base 32 3 u n xs) (hb : W.heap.size + 1 + 1 < base) :
    (((((w1.setCell ⟨W.heap.size + 1, 0, none⟩ x0).setCell ⟨W.heap.size + 1, 1, none⟩ y0).setCell ⟨W.heap.size + 1 + 1, 0, none⟩ x1).setCell ⟨W.heap.size + 1 + 1, 1, none⟩ y1).setCell ⟨W.heap.size + 1 + 1, 2, none⟩ z1).ownsRow W.heap.size 32 3 u n xs := by
  have hl := h.lt
  have g1 := grown_put w1 (W.heap.size + 1) x0 y0
  have g2 := grown_put3 ((w1.setCell ⟨W.heap.size + 1, 0, none⟩ x0).setCell ⟨W.heap.size + 1, 1, none⟩ y0) (W.heap.size + 1 + 1) x1 y1 z1
  exact own_down ((h.kept g1 (.inr (fun e => by have := (hl _ e).1; omega))).kept g2 (.inr (fun e => by have := (hl _ e).1; omega))) (by omega)
end Go.Proofs.Ytnfnhgloblfgnaa

/-
  BagTake of the document, where there is a letter.
-/
namespace Go.Proofs.Ytnfnhgloblfgnaa
open Go.RowKit

theorem less_le (L : List Lt) (p j : Nat) : (less (L.take j) p).length ≤ j := by
  unfold less
  rw [List.length_append, List.length_take, List.length_drop, List.length_take]
  omega
end Go.Proofs.Ytnfnhgloblfgnaa
