/-
  A bag and a letter drawn.
-/
import Derived.Test.YtnfnhgloblfgnaaDBag2
namespace Go.Proofs.Ytnfnhgloblfgnaa
open Go.RowKit

/-- The boxes of a drawn bag and letter. -/
def DS0 (W w1 : World) : Prop := C2 W.heap.size (.int .i64 0) (.slice none 0 0) w1 ∧ L3 (W.heap.size + 1) 0 0 ByteArray.empty w1 ∧ Below W.heap.size W w1
theorem DS0.call {W w1 w2 : World} (h : DS0 W w1) (hb : Below w1.heap.size w1 w2) : DS0 W w2 := ⟨h.1.call hb, h.2.1.call hb, below_after h.2.2 hb h.2.2.size⟩
theorem DS0.grown {W w1 w2 : World} {B : Nat} (h : DS0 W w1) (hg : w1.grownBy w2 (some B)) (hB : W.heap.size + 1 < B) : DS0 W w2 :=
  ⟨h.1.grown hg (fun e => by injection e with e; omega), h.2.1.grown hg (fun e => by injection e with e; omega), h.2.2.grown hg h.2.2.size (fun k e => by injection e with e; omega)⟩
theorem DS0.new (W : World) : DS0 W ((W.alloc (.cells #[.int .i64 0, .slice none 0 0] 25)).alloc (.cells #[.int .i64 0, .int .i64 0, .string ByteArray.empty] 32)) := by
  refine ⟨(C2.new W (.int .i64 0) (.slice none 0 0) 25).alloc _, ?_, (by repeat' (first | (with_reducible exact Below.refl _ _) | (with_reducible assumption) | (with_reducible refine below_drewN ?_ _) | (with_reducible refine Below.setCell ?_ ?_ _) | (with_reducible refine Below.alloc ?_ ?_ _) | (with_reducible refine Below.drew ?_) | go_size))⟩
  have := L3.new (W.alloc (.cells #[.int .i64 0, .slice none 0 0] 25)) 0 0 ByteArray.empty 32
  rwa [World.size_alloc] at this
theorem DS0.put {W w1 : World} {m : Int} {u : Value} {x : Lt} (h : DS0 W w1) :
    C2 W.heap.size (.int .i64 m) u (((((w1.setCell ⟨W.heap.size, 0, none⟩ (.int .i64 m)).setCell ⟨W.heap.size, 1, none⟩ u).setCell ⟨W.heap.size + 1, 0, none⟩ (.int .i64 x.f)).setCell ⟨W.heap.size + 1, 1, none⟩ (.int .i64 x.t)).setCell ⟨W.heap.size + 1, 2, none⟩ (.string x.s)) ∧
    L3 (W.heap.size + 1) x.f x.t x.s (((((w1.setCell ⟨W.heap.size, 0, none⟩ (.int .i64 m)).setCell ⟨W.heap.size, 1, none⟩ u).setCell ⟨W.heap.size + 1, 0, none⟩ (.int .i64 x.f)).setCell ⟨W.heap.size + 1, 1, none⟩ (.int .i64 x.t)).setCell ⟨W.heap.size + 1, 2, none⟩ (.string x.s)) ∧
    Below W.heap.size W (((((w1.setCell ⟨W.heap.size, 0, none⟩ (.int .i64 m)).setCell ⟨W.heap.size, 1, none⟩ u).setCell ⟨W.heap.size + 1, 0, none⟩ (.int .i64 x.f)).setCell ⟨W.heap.size + 1, 1, none⟩ (.int .i64 x.t)).setCell ⟨W.heap.size + 1, 2, none⟩ (.string x.s)) := by
  obtain ⟨h2, h3, h4⟩ := h
  have gp := grown_put w1 W.heap.size (.int .i64 m) u
  have p3 := (h3.grown gp (fun e => by injection e with e; omega)).put (f' := x.f) (t' := x.t) (s' := x.s)
  have g3 := grown_put3 ((w1.setCell ⟨W.heap.size, 0, none⟩ (.int .i64 m)).setCell ⟨W.heap.size, 1, none⟩ u) (W.heap.size + 1) (.int .i64 x.f) (.int .i64 x.t) (.string x.s)
  have b1 := h4.grown gp h4.size (fun k e => by injection e with e; omega)
  exact ⟨(h2.put (x' := .int .i64 m) (y' := u)).grown g3 (fun e => by injection e with e; omega), p3, b1.grown g3 b1.size (fun k e => by injection e with e; omega)⟩
theorem own_put1 {W w1 : World} {base n : Nat} {u x0 y0 x1 y1 z1 : Value} {xs : List Value} (h : w1.ownsRow base 32 3 u n xs) (hb : W.heap.size + 1 < base) :
    (((((w1.setCell ⟨W.heap.size, 0, none⟩ x0).setCell ⟨W.heap.size, 1, none⟩ y0).setCell ⟨W.heap.size + 1, 0, none⟩ x1).setCell ⟨W.heap.size + 1, 1, none⟩ y1).setCell ⟨W.heap.size + 1, 2, none⟩ z1).ownsRow base 32 3 u n xs := by
  have hl := h.lt
  have g1 := grown_put w1 W.heap.size x0 y0
  have g2 := grown_put3 ((w1.setCell ⟨W.heap.size, 0, none⟩ x0).setCell ⟨W.heap.size, 1, none⟩ y0) (W.heap.size + 1) x1 y1 z1
  exact (h.kept g1 (.inr (fun e => by have := (hl _ e).1; omega))).kept g2 (.inr (fun e => by have := (hl _ e).1; omega))
end Go.Proofs.Ytnfnhgloblfgnaa
