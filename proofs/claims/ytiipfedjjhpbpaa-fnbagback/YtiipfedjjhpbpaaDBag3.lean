/-
  A bag and a letter drawn.
-/
import Derived.Test.YtiipfedjjhpbpaaDBag2
namespace Go.Proofs.Ytiipfedjjhpbpaa
open Go.RowKit

/-- The boxes of a drawn bag and letter. -/
def DS0 (W w1 : World) : Prop := C2 W.heap.size (.int .i64 0) (.slice none 0 0) w1 ∧ L3 (W.heap.size + 1) 0 0 ByteArray.empty w1 ∧ Below W.heap.size W w1
theorem DS0.call {W w1 w2 : World} (h : DS0 W w1) (hb : Below w1.heap.size w1 w2) : DS0 W w2 := ⟨h.1.call hb, h.2.1.call hb, below_after h.2.2 hb h.2.2.size⟩
theorem DS0.grown {W w1 w2 : World} {B : Nat} (h : DS0 W w1) (hg : w1.grownBy w2 (some B)) (hB : W.heap.size + 1 < B) : DS0 W w2 :=
  ⟨h.1.grown hg (fun e => by injection e with e; omega), h.2.1.grown hg (fun e => by injection e with e; omega), h.2.2.grown hg h.2.2.size (fun k e => by injection e with e; omega)⟩
theorem DS0.new (W : World) : DS0 W ((W.alloc (.cells #[.int .i64 0, .slice none 0 0] 25)).alloc (.cells #[.int .i64 0, .int .i64 0, .string ByteArray.empty] 27)) := by
  refine ⟨(C2.new W (.int .i64 0) (.slice none 0 0) 25).alloc _, ?_, (by repeat' (first | (with_reducible exact Below.refl _ _) | (with_reducible assumption) | (with_reducible refine below_drewN ?_ _) | (with_reducible refine Below.setCell ?_ ?_ _) | (with_reducible refine Below.alloc ?_ ?_ _) | (with_reducible refine Below.drew ?_) | go_size))⟩
  have := L3.new (W.alloc (.cells #[.int .i64 0, .slice none 0 0] 25)) 0 0 ByteArray.empty 27
  rwa [World.size_alloc] at this
theorem DS0.put {W w1 : World} {m : Int} {u : Value} {x : Lt} (h : DS0 W w1) :
    C2 W.heap.size (.int .i64 m) u (((((w1.setCell ⟨W.heap.size, 0, none⟩ (.int .i64 m)).setCell ⟨W.heap.size, 1, none⟩ u).setCell ⟨W.heap.size + 1, 0, none⟩ (.int .i64 x.f)).setCell ⟨W.heap.size + 1, 1, none⟩ (.int .i64 x.t)).setCell ⟨W.heap.size + 1, 2, none⟩ (.string x.s)) ∧
    L3 (W.heap.size + 1) x.f x.t x.s (((((w1.setCell ⟨W.heap.size, 0, none⟩ (.int .i64 m)).setCell ⟨W.heap.size, 1, none⟩ u).setCell ⟨W.heap.size + 1, 0, none⟩ (.int .i64 x.f)).setCell ⟨W.heap.size + 1, 1, none⟩ (.int .i64 x.t)).setCell ⟨W.heap.size + 1, 2, none⟩ (.string x.s)) ∧
    Below W.heap.size W (((((w1.setCell ⟨W.heap.size, 0, none⟩ (.int .i64 m)).setCell ⟨W.heap.size, 1, none⟩ u).setCell ⟨W.heap.size + 1, 0, none⟩ (.int .i64 x.f)).setCell ⟨W.heap.size + 1, 1, none⟩ (.int .i64 x.t)).setCell ⟨W.heap.size + 1, 2, none⟩ (.string x.s)) := by
  obtain ⟨h2, h3, h4⟩ := h
  have gp := grown_put w1 W.heap.size (.int .i64 m) u
  have p3 := (h3.grown gp (fun e => by injection e with e; omega)).put (f' := x.f) (t' := x.t) (s' := x.s)
  have g3 := grown_put3 ((w1.setCell ⟨W.heap.size, 0, none⟩ (.int .i64 m)).setCell ⟨W.heap.size, 1, none⟩ u) (W.heap.size + 1) (.int .i64 x.f) (.int .i64 x.t) (.string x.s)
  have b1 := h4.grown gp h4.size (fun k e => by injection e with e; omega)
  exact ⟨(h2.put (x' := .int .i64 m) (y' := u)).grown g3 (fun e => by injection e with e; omega), p3, b1.grown g3 b1.size (fun k e => by injection e with e; omega)⟩
theorem own_put1 {W w1 : World} {base n : Nat} {u x0 y0 x1 y1 z1 : Value} {xs : List Value} (h : w1.ownsRow base 27 3 u n xs) (hb : W.heap.size + 1 < base) :
    (((((w1.setCell ⟨W.heap.size, 0, none⟩ x0).setCell ⟨W.heap.size, 1, none⟩ y0).setCell ⟨W.heap.size + 1, 0, none⟩ x1).setCell ⟨W.heap.size + 1, 1, none⟩ y1).setCell ⟨W.heap.size + 1, 2, none⟩ z1).ownsRow base 27 3 u n xs := by
  have hl := h.lt
  have g1 := grown_put w1 W.heap.size x0 y0
  have g2 := grown_put3 ((w1.setCell ⟨W.heap.size, 0, none⟩ x0).setCell ⟨W.heap.size, 1, none⟩ y0) (W.heap.size + 1) x1 y1 z1
  exact (h.kept g1 (.inr (fun e => by have := (hl _ e).1; omega))).kept g2 (.inr (fun e => by have := (hl _ e).1; omega))
set_option maxRecDepth 20000 in
set_option maxHeartbeats 2000000 in
theorem drawSend_is (W : World) (v : Value) (L : List UInt8) (h : Byt W v L) :
    Calls Try.prog 9 #[v] W fun e w' => ∃ (m : Int) (ob : Option Addr) (cq : Nat) (Y : List Lt) (x : Lt), e = .returned (.tuple #[.agg #[.int .i64 m, .slice ob Y.length cq], .agg #[.int .i64 (x).f, .int .i64 (x).t, .string (x).s]]) ∧ Y.length ≤ 66 ∧ (∀ l ∈ Y, l.s.size ≤ 100000) ∧ x.s.size ≤ 100000 ∧ Lts w' (.slice ob Y.length cq) Y ∧ Below W.heap.size W w' := by
  have hD0 := DS0.new W
  have co := open_is _ v L (h.call hD0.2.2)
  have hsz : ((W.alloc (.cells #[.int .i64 0, .slice none 0 0] 25)).alloc (.cells #[.int .i64 0, .int .i64 0, .string ByteArray.empty] 27)).heap.size = W.heap.size + 1 + 1 := by simp
  rw [hsz] at co
  have cb := fun (V : World) (v' : Value) (L' : List UInt8) (h : RdAt (W.heap.size + 1 + 1) v' L' 0 V) => bag6_is (W.heap.size + 1 + 1) v' L' 0 V h (by omega)
  have cl := fun (V : World) (v' : Value) (L' : List UInt8) (q : Nat) (h : RdAt (W.heap.size + 1 + 1) v' L' q V) (hq : q ≤ 2000) => let6_is (W.heap.size + 1 + 1) v' L' q V h (by omega)
  clear h
  go_enter Try.func9, Try.ntmps9
  go_upto_region 3 with (first
    | (go_at_call 31; refine co.mono ?_; rintro e w1 ⟨v', L', rfl, R1, b1⟩; have hD1 := hD0.call (hsz ▸ b1); clear co hD0)
    | (go_at_call 32; refine (cb _ _ _ R1).mono ?_; rintro e w2 ⟨m, ob, cq, Y, p', rfl, hYl, hYs, hp', R2, ho2, g2⟩; have hD2 := hD1.grown g2 (by omega); clear cb))
  have hX3 := C2.new w2 (.int .i64 m) (.slice ob Y.length cq) 25
  have hb3 : Below w2.heap.size w2 (w2.alloc (.cells #[.int .i64 m, .slice ob Y.length cq] 25)) := (Below.refl _ _).alloc (Nat.le_refl _) _
  have hD3 := hD2.call hb3
  have R3 := R2.alloc (.cells #[.int .i64 m, .slice ob Y.length cq] 25)
  have ho3 := ho2.alloc (.cells #[.int .i64 m, .slice ob Y.length cq] 25)
  have hBw : W.heap.size + 1 + 1 < w2.heap.size := R2.1
  have hw1 : W.heap.size + 1 + 1 < w1.heap.size := R1.1
  have HXB : Hid (W.heap.size + 1 + 1 ≠ w2.heap.size) := by show _ ≠ _; omega
  obtain ⟨-, x0, x1, -, -⟩ := id hX3
  obtain ⟨⟨-, d0, d1, d2, d3⟩, ⟨⟨-, e0, e1, e2⟩, e3, e4, e5⟩, -⟩ := id hD3
  have HC : Hid (∀ V, (∃ B : Below (w2.alloc (.cells #[.int .i64 m, .slice ob Y.length cq] 25)).heap.size (w2.alloc (.cells #[.int .i64 m, .slice ob Y.length cq] 25)) V, True) → Calls Try.prog 33 #[.pointer (some ⟨W.heap.size + 1 + 1, 0, none⟩)] V fun e w' => ∃ (x : Lt), x.s.size ≤ 100000 ∧ e = .returned (.agg #[.int .i64 (x).f, .int .i64 (x).t, .string (x).s]) ∧ C2 w2.heap.size (.int .i64 m) (.slice ob Y.length cq) w' ∧ DS0 W w' ∧ w'.ownsRow w1.heap.size 27 3 (.slice ob Y.length cq) Y.length (lcs Y)) := fun V ⟨hB, _⟩ => by
    refine (cl V _ _ _ ((R3.row (grown_any hB none) (fun k e => by cases e))) (by omega)).mono ?_
    rintro e w' ⟨x, p2, h1, h2, h3, h4, h5⟩
    exact ⟨x, h1, h3, (hX3.call hB).grown h5 (fun e => by injection e with e; omega), (hD3.call hB).grown h5 (by omega), own_far (own_callL ho3 hB) h5 (by omega)⟩
  have hn0 : W.heap.size ≠ w2.heap.size := by omega
  have hn1 : W.heap.size + 1 ≠ w2.heap.size := by omega
  clear hD1 hD2 hD3 hX3 hb3 R1 R2 R3 ho2 ho3 g2 b1 hsz cl
  go_region_held3 (fun w' => w'.cell? ⟨w2.heap.size, 0, none⟩ = some (.int .i64 m) ∧ w'.cell? ⟨w2.heap.size, 1, none⟩ = some (.slice ob Y.length cq)) ((refine ⟨?_, ?_⟩ <;> (repeat (first | (with_reducible assumption) | (with_reducible refine c_drew ?_) | (with_reducible refine c_set ?_ (by first | exact hn0 | exact hn1)))))) (((try go_simp); go_at_call 33; refine (HC.out _ ⟨(by repeat' (first | (with_reducible exact Below.refl _ _) | (with_reducible assumption) | (with_reducible refine below_drewN ?_ _) | (with_reducible refine Below.setCell ?_ ?_ _) | (with_reducible refine Below.alloc ?_ ?_ _) | (with_reducible refine Below.drew ?_) | go_size)), trivial⟩).mono ?_; rintro e w5 ⟨x, hx, rfl, hX5, hD5, ho5⟩; obtain ⟨-, k0, k1, -, -⟩ := id hX5; obtain ⟨⟨-, f0, f1, f2, f3⟩, ⟨⟨-, g0, g1, g2⟩, g3, g4, g5⟩, -⟩ := id hD5))
  go_wp2_with fail
  have hO := (own_lts (own_put1 (W := W) (x0 := .int .i64 m) (y0 := .slice ob Y.length cq) (x1 := .int .i64 x.f) (y1 := .int .i64 x.t) (z1 := .string x.s) ho5 (by omega)))
  obtain ⟨⟨-, p4, p5, -, -⟩, ⟨⟨-, q0, q1, q2⟩, -, -, -⟩, p3⟩ := hD5.put (m := m) (u := .slice ob Y.length cq) (x := x)
  generalize ((((w5.setCell ⟨W.heap.size, 0, none⟩ (.int .i64 m)).setCell ⟨W.heap.size, 1, none⟩ (.slice ob Y.length cq)).setCell ⟨W.heap.size + 1, 0, none⟩ (.int .i64 x.f)).setCell ⟨W.heap.size + 1, 1, none⟩ (.int .i64 x.t)).setCell ⟨W.heap.size + 1, 2, none⟩ (.string x.s) = Z at p3 p4 p5 q0 q1 q2 hO ⊢
  refine bodyPost_ret (v := .tuple #[.agg #[.int .i64 m, .slice ob Y.length cq], .agg #[.int .i64 (x).f, .int .i64 (x).t, .string (x).s]]) ?_ rfl ⟨m, ob, cq, Y, x, rfl, hYl, hYs, hx, hO, p3⟩
  simp [results, Try.results9, go_sem, p4, p5, q0, q1, q2]
end Go.Proofs.Ytiipfedjjhpbpaa
