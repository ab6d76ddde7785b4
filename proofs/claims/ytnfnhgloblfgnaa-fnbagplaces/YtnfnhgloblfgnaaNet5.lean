/-
  BagSend of the program.
-/
import Derived.Test.YtnfnhgloblfgnaaJoinB19
namespace Go.Proofs.Ytnfnhgloblfgnaa
open Go.RowKit

/-- The letters L lie in a row of the call's own, from the block base on, without room behind them. -/
def OwnL (base : Nat) (W : World) (u : Value) (L : List Lt) : Prop :=
  (L = [] ∧ ∃ oa, u = .slice oa 0 0) ∨ ∃ g, u = .slice (some ⟨g, 0, none⟩) L.length L.length ∧ base ≤ g ∧ LR g L.length L L.length W
theorem OwnL.of {W : World} {base n cap : Nat} {oa : Option Addr} {L : List Lt} (h : W.ownsRow base 32 3 (.slice oa n cap) n (lcs L)) (hn : n = L.length) : OwnL base W (.slice oa n n) L := by
  subst hn
  rcases id h.2 with ⟨_, h0⟩ | ⟨g, cap', cur, hv, hg, hh, hnc, hm, hs, ht⟩
  · exact .inl ⟨List.length_eq_zero_iff.1 h0, oa, by rw [h0]⟩
  · injection hv with e1 e2 e3
    subst e1 e3
    refine .inr ⟨g, rfl, hg, (Array.getElem?_eq_some_iff.1 hh).1, fun i hi => ⟨?_, h.frozenAt i⟩, fun i hi _ => own_lat h i hi⟩
    rw [h.cellAt i (by omega), List.getElem?_eq_getElem (by rw [lcs_len]; omega)]
    rfl
theorem OwnL.call {W W' : World} {base : Nat} {u : Value} {L : List Lt} (h : OwnL base W u L) (hb : Below W.heap.size W W') : OwnL base W' u L := by
  rcases h with h | ⟨g, h1, h2, h3⟩
  · exact .inl h
  · exact .inr ⟨g, h1, h2, h3.call hb⟩
theorem OwnL.set {W : World} {base : Nat} {u : Value} {L : List Lt} (h : OwnL base W u L) (X o : Nat) (x : Value) (hX : X < base) : OwnL base (W.setCell ⟨X, o, none⟩ x) u L := by
  rcases h with h | ⟨g, h1, h2, h3⟩
  · exact .inl h
  · exact .inr ⟨g, h1, h2, h3.set X o x (by omega)⟩
theorem OwnL.down {W : World} {base b : Nat} {u : Value} {L : List Lt} (h : OwnL base W u L) (hb : b ≤ base) : OwnL b W u L := by
  rcases h with h | ⟨g, h1, h2, h3⟩
  · exact .inl h
  · exact .inr ⟨g, h1, Nat.le_trans hb h2, h3⟩
theorem L3.grown {B : Nat} {f t : Int} {s : ByteArray} {W W' : World} {row : Option Nat} (h : L3 B f t s W) (hg : W.grownBy W' row) (hr : row ≠ some B) : L3 B f t s W' := by
  obtain ⟨⟨h0, h1, h2, h3⟩, f0, f1, f2⟩ := h
  have hb : W'.heap[B]? = W.heap[B]? := hg.block B h0 (fun e => hr e.symm)
  exact ⟨⟨Nat.lt_of_lt_of_le h0 hg.size, (World.cell?_of_block (w := W) (a := ⟨B, 0, none⟩) hb).trans h1, (World.cell?_of_block (w := W) (a := ⟨B, 1, none⟩) hb).trans h2, (World.cell?_of_block (w := W) (a := ⟨B, 2, none⟩) hb).trans h3⟩, (World.frozen?_of_block (w := W) (a := ⟨B, 0, none⟩) hb).trans f0, (World.frozen?_of_block (w := W) (a := ⟨B, 1, none⟩) hb).trans f1, (World.frozen?_of_block (w := W) (a := ⟨B, 2, none⟩) hb).trans f2⟩
/-- What BagSend tells: the room, the letters, whether the letter came in. -/
def bsend (m : Int) (L : List Lt) (l : Lt) : Int × List Lt × Bool :=
  if bagOk m L = true ∧ letOk l.f l.t l.s.size = true then (if (L.length : Int) < m then (m, L ++ [l], true) else (m, L, false)) else (0, [], false)
/-- What stands while BagSend goes on: the boxes of the bag, of the letter and of the answer. -/
def BS (W : World) (m : Int) (v : Value) (l : Lt) (w' : World) : Prop :=
  C2 W.heap.size (.int .i64 m) v w' ∧ L3 (W.heap.size + 1) l.f l.t l.s w' ∧ C2 (W.heap.size + 1 + 1) (.int .i64 0) (.slice none 0 0) w' ∧ Below W.heap.size W w'
theorem BS.call {W : World} {m : Int} {v : Value} {l : Lt} {w1 w2 : World} (h : BS W m v l w1) (hb : Below w1.heap.size w1 w2) : BS W m v l w2 :=
  ⟨h.1.call hb, h.2.1.call hb, h.2.2.1.call hb, below_after h.2.2.2 hb h.2.2.2.size⟩
theorem BS.grown {W : World} {m : Int} {v : Value} {l : Lt} {w1 w2 : World} {N : Nat} (h : BS W m v l w1) (hg : w1.grownBy w2 (some N)) (hN : W.heap.size + 1 + 1 < N) : BS W m v l w2 :=
  ⟨h.1.grown hg (fun e => by injection e with e; omega), h.2.1.grown hg (fun e => by injection e with e; omega), h.2.2.1.grown hg (fun e => by injection e with e; omega), h.2.2.2.grown hg h.2.2.2.size (fun k e => by injection e with e; omega)⟩
theorem BS.new (W : World) (m : Int) (v : Value) (l : Lt) : BS W m v l (((W.alloc (.cells #[.int .i64 m, v] 25)).alloc (.cells #[Value.int IntKind.i64 (l).f, Value.int IntKind.i64 (l).t, Value.string (l).s] 32)).alloc (.cells #[.int .i64 0, .slice none 0 0] 25)) := by
  refine ⟨((C2.new W (.int .i64 m) v 25).alloc _).alloc _, ?_, ?_, (by repeat' (first | (with_reducible exact Below.refl _ _) | (with_reducible assumption) | (with_reducible refine below_drewN ?_ _) | (with_reducible refine Below.setCell ?_ ?_ _) | (with_reducible refine Below.alloc ?_ ?_ _) | (with_reducible refine Below.drew ?_) | go_size))⟩
  · have := (L3.new (W.alloc (.cells #[.int .i64 m, v] 25)) l.f l.t l.s 32).call ((Below.refl _ _).alloc (Nat.le_refl _) (.cells #[.int .i64 0, .slice none 0 0] 25))
    rwa [World.size_alloc] at this
  · have := C2.new ((W.alloc (.cells #[.int .i64 m, v] 25)).alloc (.cells #[Value.int IntKind.i64 (l).f, Value.int IntKind.i64 (l).t, Value.string (l).s] 32)) (.int .i64 0) (.slice none 0 0) 25
    rwa [World.size_alloc, World.size_alloc] at this

end Go.Proofs.Ytnfnhgloblfgnaa
