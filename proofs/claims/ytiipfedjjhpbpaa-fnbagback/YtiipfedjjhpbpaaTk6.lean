/-
  BagTake of the document: the letters without one, made anew.
-/
import Derived.Test.YtiipfedjjhpbpaaTk5
import Derived.Test.YtiipfedjjhpbpaaCopy6
namespace Go.Proofs.Ytiipfedjjhpbpaa
open Go.RowKit

theorem less_nil (p : Nat) : less [] p = [] := by unfold less; simp
theorem less_skip (L : List Lt) (p : Nat) (h : p < L.length) : less (L.take (p + 1)) p = less (L.take p) p := by
  unfold less
  rw [List.take_take, List.take_take, List.drop_of_length_le (by rw [List.length_take]; omega), List.drop_of_length_le (by rw [List.length_take]; omega), Nat.min_eq_left (by omega), Nat.min_self]
theorem less_more (L : List Lt) (p j : Nat) (h : j < L.length) (hj : j ≠ p) : less (L.take (j + 1)) p = less (L.take j) p ++ [L[j]] := by
  have hl : (L.take j).length = j := by rw [List.length_take]; omega
  rw [List.take_succ_eq_append_getElem h]
  generalize L[j] = x
  generalize L.take j = A at hl
  unfold less
  rcases Nat.lt_or_gt_of_ne hj with h' | h'
  · rw [List.take_of_length_le (by simp; omega), List.take_of_length_le (by omega), List.drop_of_length_le (by simp; omega), List.drop_of_length_le (by omega), List.append_nil, List.append_nil]
  · rw [List.take_append_of_le_length (by omega), List.drop_append_of_le_length (by omega), List.append_assoc]
theorem less_all (L : List Lt) (p j : Nat) (h : L.length ≤ j) : less (L.take j) p = less L p := by rw [List.take_of_length_le h]
/-- What stands while the letters are made anew: the boxes, the box X of the new bag, its row. -/
def CT (W : World) (m : Int) (v : Value) (X : Nat) (Y : List Lt) (ob : Option Addr) (cq : Nat) (wr : World) : Prop :=
  B3 W m v wr ∧ C2 X (.int .i64 m) (.slice ob Y.length cq) wr ∧ wr.ownsRow (X + 1) 27 3 (.slice ob Y.length cq) Y.length (lcs Y) ∧ W.heap.size + 1 + 1 < X
theorem CT.call {W : World} {m : Int} {v : Value} {X : Nat} {Y : List Lt} {ob : Option Addr} {cq : Nat} {w1 w2 : World} (h : CT W m v X Y ob cq w1) (hb : Below w1.heap.size w1 w2) : CT W m v X Y ob cq w2 :=
  ⟨h.1.call hb, h.2.1.call hb, own_callL h.2.2.1 hb, h.2.2.2⟩
theorem B3.grown' {W : World} {m : Int} {v : Value} {w1 w2 : World} {r : Option Nat} (h : B3 W m v w1) (hg : w1.grownBy w2 r) (hr : ∀ j, r = some j → W.heap.size + 1 + 1 < j) : B3 W m v w2 :=
  ⟨h.1.grown hg (fun e => by have := hr _ e; omega), h.2.1.grown hg (fun e => by have := hr _ e; omega), h.2.2.1.grown hg (fun e => by have := hr _ e; omega), h.2.2.2.grown hg h.2.2.2.size (fun k e => by have := hr _ e; omega)⟩
theorem C2.snd {B : Nat} {x y : Value} {W : World} (h : C2 B x y W) (z : Value) : C2 B x z (W.setCell ⟨B, 1, none⟩ z) := by
  obtain ⟨x0, x1, x2, x3, x4⟩ := h
  refine ⟨by simpa using x0, ?_, ?_, ?_, ?_⟩ <;> simp [go_sem, x1, x2, x3, x4]
theorem CT.more {W : World} {m : Int} {v : Value} {X : Nat} {Y : List Lt} {x : Lt} {ob : Option Addr} {cq : Nat} {w1 w2 : World} {v' : Value} (h : CT W m v X Y ob cq w1)
    (ho : w2.ownsRow (X + 1) 27 3 v' (Y.length + 1) (lcs Y ++ lc x)) (hg : w1.grownBy w2 (Value.slice ob Y.length cq).ownBlock) :
    ∃ oc cp, v' = .slice oc (Y.length + 1) cp ∧ C2 X (.int .i64 m) (.slice ob Y.length cq) w2 ∧ C2 W.heap.size (.int .i64 m) v w2 ∧ Below W.heap.size W w2 ∧ CT W m v X (Y ++ [x]) oc cp (w2.setCell ⟨X, 1, none⟩ (.slice oc (Y.length + 1) cp)) := by
  obtain ⟨h1, h2, h3, h4⟩ := h
  obtain ⟨oc, cp, rfl⟩ := owl_len ho
  have n1 : ∀ j, (Value.slice ob Y.length cq).ownBlock = some j → X + 1 ≤ j := fun j e => (h3.lt _ e).1
  have n2 : ∀ j, (Value.slice oc (Y.length + 1) cp).ownBlock = some j → X + 1 ≤ j := fun j e => (ho.lt _ e).1
  have g1 := h1.grown' hg (fun j e => by have := n1 j e; omega)
  have g2 := h2.grown hg (fun e => by have := n1 _ e; omega)
  have gs := grown_set w2 X 1 (.slice oc (Y.length + 1) cp)
  refine ⟨oc, cp, rfl, g2, g1.1, g1.2.2.2, g1.grown' gs (fun j e => by injection e with e; omega), ?_, ?_, h4⟩
  · rw [List.length_append]; exact g2.snd _
  · have := ho.kept gs (.inr (fun e => by have := n2 _ e; omega))
    rw [List.length_append, lcs_append]
    simpa [lcs] using this
set_option maxRecDepth 20000 in
set_option maxHeartbeats 2000000 in
theorem stake_out (W : World) (m : Int) (v : Value) (L : List Lt) (k : Int) (h : Lts W v L) (hs : ∀ l ∈ L, l.s.size ≤ maxLen) (hno : bagOk m L = false) :
    Calls Try.prog 20 #[.agg #[.int .i64 m, v], .int .i64 k] W fun e w' => e = .returned (.tuple #[.agg #[.int .i64 0, .slice none 0 0], .agg #[.int .i64 0, .int .i64 0, .string ByteArray.empty], .bool false]) ∧ Below W.heap.size W w' := by
  have hB0 := B3.new W m v
  have cb := bagok_spec _ m v L (h.call hB0.2.2.2) hs
  obtain ⟨oa, cap, rfl, _⟩ := h.len
  obtain ⟨⟨-, a0, a1, -, -⟩, ⟨-, c0, c1, -, -⟩, -, -⟩ := id hB0
  clear h hs
  rw [hno] at cb
  go_enter Try.func20, Try.ntmps20
  go_wp2_with (go_at_call 12; refine cb.mono ?_; rintro e w1 ⟨rfl, hb1⟩; have hB1 := hB0.call hb1; obtain ⟨-, ⟨-, d0, d1, d2, d3⟩, ⟨⟨-, e0, e1, e2⟩, e3, e4, e5⟩, -⟩ := id hB1)
  obtain ⟨p1, ⟨⟨-, q0, q1, q2⟩, -, -, -⟩, p3⟩ := hB1.put (m' := 0) (u := .slice none 0 0) (x := ⟨0, 0, ⟨#[]⟩⟩)
  obtain ⟨-, p4, p5, -, -⟩ := p1
  refine bodyPost_ret (v := .tuple #[.agg #[.int .i64 0, .slice none 0 0], .agg #[.int .i64 0, .int .i64 0, .string ByteArray.empty], .bool false]) ?_ rfl ⟨rfl, p3⟩
  generalize ((((w1.setCell ⟨W.heap.size + 1, 0, none⟩ (.int .i64 0)).setCell ⟨W.heap.size + 1, 1, none⟩ (.slice none 0 0)).setCell ⟨W.heap.size + 1 + 1, 0, none⟩ (.int .i64 0)).setCell ⟨W.heap.size + 1 + 1, 1, none⟩ (.int .i64 0)).setCell ⟨W.heap.size + 1 + 1, 2, none⟩ (.string ⟨#[]⟩) = Z at p4 p5 q0 q1 q2 ⊢
  simp [results, Try.results20, go_sem, p4, p5, q0, q1, q2, empty_is]
/-- The answer's letters and all else, behind the stores. -/
theorem own_put {W w1 : World} {base n : Nat} {u x0 y0 x1 y1 z1 : Value} {xs : List Value} (h : w1.ownsRow base 27 3 u n xs) (hb : W.heap.size + 1 + 1 < base) :
    (((((w1.setCell ⟨W.heap.size + 1, 0, none⟩ x0).setCell ⟨W.heap.size + 1, 1, none⟩ y0).setCell ⟨W.heap.size + 1 + 1, 0, none⟩ x1).setCell ⟨W.heap.size + 1 + 1, 1, none⟩ y1).setCell ⟨W.heap.size + 1 + 1, 2, none⟩ z1).ownsRow W.heap.size 27 3 u n xs := by
  have hl := h.lt
  have g1 := grown_put w1 (W.heap.size + 1) x0 y0
  have g2 := grown_put3 ((w1.setCell ⟨W.heap.size + 1, 0, none⟩ x0).setCell ⟨W.heap.size + 1, 1, none⟩ y0) (W.heap.size + 1 + 1) x1 y1 z1
  exact own_down ((h.kept g1 (.inr (fun e => by have := (hl _ e).1; omega))).kept g2 (.inr (fun e => by have := (hl _ e).1; omega))) (by omega)
set_option maxRecDepth 20000 in
set_option maxHeartbeats 2000000 in
/-- There is none. -/
theorem stake_none (W : World) (m : Int) (v : Value) (k : Int) (h : Lts W v []) (hbk : bagOk m [] = true) :
    Calls Try.prog 20 #[.agg #[.int .i64 m, v], .int .i64 k] W fun e w' => ∃ u cap, e = .returned (.tuple #[.agg #[.int .i64 m, .slice u 0 cap], .agg #[.int .i64 0, .int .i64 0, .string ByteArray.empty], .bool false]) ∧ w'.ownsRow W.heap.size 27 3 (.slice u 0 cap) 0 [] ∧ Below W.heap.size W w' := by
  have hB0 := B3.new W m v
  have h0 := h.call hB0.2.2.2
  have cb := bagok_spec _ m v [] h0 (fun l hl => by simp at hl)
  rw [hbk] at cb
  have cc := fun (V : World) (h : Lts V v []) => l6copy_is V m v [] h (by simp)
  have hsz0 : W.heap.size + 1 + 1 < (((W.alloc (.cells #[.int .i64 m, v] 25)).alloc (.cells #[.int .i64 0, .slice none 0 0] 25)).alloc (.cells #[.int .i64 0, .int .i64 0, .string ByteArray.empty] 27)).heap.size := hB0.2.2.1.1.1
  obtain ⟨oa, cap, rfl, _⟩ := h.len
  obtain ⟨⟨-, a0, a1, -, -⟩, ⟨-, c0, c1, -, -⟩, -, -⟩ := id hB0
  clear h hbk
  go_enter Try.func20, Try.ntmps20
  go_wp2_with (first
    | (go_at_call 12; refine cb.mono ?_; rintro e w1 ⟨rfl, hb1⟩; have hB1 := hB0.call hb1; have hT1 := h0.call hb1; have hs1 := hb1.size; obtain ⟨⟨-, e0, e1, -, -⟩, -, -⟩ := id hB1; clear cb hb1)
    | (go_at_call 40; refine (cc _ hT1).mono ?_; rintro e w3 ⟨u3, q3, rfl, ho3, hb3⟩; have hs3 := hb3.size; have hB3 := hB1.call hb3; obtain ⟨-, ⟨-, d0, d1, d2, d3⟩, ⟨⟨-, f0, f1, f2⟩, f3, f4, f5⟩, -⟩ := id hB3; clear cc hb3 hT1))
  have hO := own_put (W := W) (x0 := .int .i64 m) (y0 := .slice u3 0 q3) (x1 := .int .i64 0) (y1 := .int .i64 0) (z1 := .string ⟨#[]⟩) ho3 (by omega)
  obtain ⟨p1, ⟨⟨-, q0, q1, q2⟩, -, -, -⟩, p3⟩ := hB3.put (m' := m) (u := .slice u3 0 q3) (x := ⟨0, 0, ⟨#[]⟩⟩)
  obtain ⟨-, p4, p5, -, -⟩ := p1
  refine bodyPost_ret (v := .tuple #[.agg #[.int .i64 m, .slice u3 0 q3], .agg #[.int .i64 0, .int .i64 0, .string ByteArray.empty], .bool false]) ?_ rfl ⟨_, _, rfl, hO, p3⟩
  clear hO p3
  generalize ((((w3.setCell ⟨W.heap.size + 1, 0, none⟩ (.int .i64 m)).setCell ⟨W.heap.size + 1, 1, none⟩ (.slice u3 0 q3)).setCell ⟨W.heap.size + 1 + 1, 0, none⟩ (.int .i64 0)).setCell ⟨W.heap.size + 1 + 1, 1, none⟩ (.int .i64 0)).setCell ⟨W.heap.size + 1 + 1, 2, none⟩ (.string ⟨#[]⟩) = Z at p4 p5 q0 q1 q2 ⊢
  simp [results, Try.results20, go_sem, p4, p5, q0, q1, q2, empty_is]
end Go.Proofs.Ytiipfedjjhpbpaa
