/-
  BagTake of the program.
-/
import Derived.Test.YtnfnhgloblfgnaaTk4
namespace Go.Proofs.Ytnfnhgloblfgnaa
open Go.RowKit

/-- The boxes of the bag and of the answer's two parts. -/
def B3 (W : World) (m : Int) (v : Value) (w' : World) : Prop := C2 W.heap.size (.int .i64 m) v w' ∧ C2 (W.heap.size + 1) (.int .i64 0) (.slice none 0 0) w' ∧ L3 (W.heap.size + 1 + 1) 0 0 ByteArray.empty w' ∧ Below W.heap.size W w'
theorem B3.call {W : World} {m : Int} {v : Value} {w1 w2 : World} (h : B3 W m v w1) (hb : Below w1.heap.size w1 w2) : B3 W m v w2 := ⟨h.1.call hb, h.2.1.call hb, h.2.2.1.call hb, below_after h.2.2.2 hb h.2.2.2.size⟩
theorem B3.grown {W : World} {m : Int} {v : Value} {w1 w2 : World} {N : Nat} (h : B3 W m v w1) (hg : w1.grownBy w2 (some N)) (hN : W.heap.size + 1 + 1 < N) : B3 W m v w2 :=
  ⟨h.1.grown hg (fun e => by injection e with e; omega), h.2.1.grown hg (fun e => by injection e with e; omega), h.2.2.1.grown hg (fun e => by injection e with e; omega), h.2.2.2.grown hg h.2.2.2.size (fun k e => by injection e with e; omega)⟩
theorem B3.new (W : World) (m : Int) (v : Value) : B3 W m v (((W.alloc (.cells #[.int .i64 m, v] 25)).alloc (.cells #[.int .i64 0, .slice none 0 0] 25)).alloc (.cells #[.int .i64 0, .int .i64 0, .string ByteArray.empty] 32)) := by
  refine ⟨((C2.new W (.int .i64 m) v 25).alloc _).alloc _, ?_, ?_, (by repeat' (first | (with_reducible exact Below.refl _ _) | (with_reducible assumption) | (with_reducible refine below_drewN ?_ _) | (with_reducible refine Below.setCell ?_ ?_ _) | (with_reducible refine Below.alloc ?_ ?_ _) | (with_reducible refine Below.drew ?_) | go_size))⟩
  · have := (C2.new (W.alloc (.cells #[.int .i64 m, v] 25)) (.int .i64 0) (.slice none 0 0) 25).alloc (.cells #[.int .i64 0, .int .i64 0, .string ByteArray.empty] 32)
    rwa [World.size_alloc] at this
  · have := L3.new ((W.alloc (.cells #[.int .i64 m, v] 25)).alloc (.cells #[.int .i64 0, .slice none 0 0] 25)) 0 0 ByteArray.empty 32
    rwa [World.size_alloc, World.size_alloc] at this
theorem OwnL.away {W W' : World} {c : Nat} {u : Value} {Y : List Lt} {N : Nat} (h : OwnL c W u Y) (hg : W.grownBy W' (some N)) (hr : ∀ n k, u = .slice (some ⟨N, 0, none⟩) n k → n = 0) : OwnL c W' u Y := by
  rcases h with h | ⟨g, h1, h2, h3⟩
  · exact .inl h
  · cases Y with
    | nil => exact .inl ⟨rfl, _, h1⟩
    | cons y Y =>
      refine .inr ⟨g, h1, h2, h3.grown hg (fun e => ?_)⟩
      injection e with e
      have := hr _ _ (by rw [e]; exact h1)
      simp at this
theorem Left.call {base N : Nat} {m c : Int} {oc : Option Addr} {q : Nat} {Y : List Lt} {W W' : World} (h : Left base N m c oc q Y W) (hb : Below W.heap.size W W') : Left base N m c oc q Y W' :=
  ⟨h.1.call hb, h.2.1, h.2.2.1, h.2.2.2.1, h.2.2.2.2.1.call hb, h.2.2.2.2.2⟩
theorem L3.call' {B : Nat} {x : Lt} {W W' : World} (h : L3 B x.f x.t x.s W) (hb : Below W.heap.size W W') : L3 B x.f x.t x.s W' := h.call hb
theorem empty_is : ByteArray.empty = ⟨#[]⟩ := rfl
/-- The answer stored: the bag and the letter. -/
def AN (W : World) (m : Int) (u : Value) (x : Lt) (W' : World) : Prop := C2 (W.heap.size + 1) (.int .i64 m) u W' ∧ L3 (W.heap.size + 1 + 1) x.f x.t x.s W' ∧ Below W.heap.size W W'
theorem B3.put {W : World} {m m' : Int} {v u : Value} {w1 : World} {x : Lt} (h : B3 W m v w1) :
    AN W m' u x (((((w1.setCell ⟨W.heap.size + 1, 0, none⟩ (.int .i64 m')).setCell ⟨W.heap.size + 1, 1, none⟩ u).setCell ⟨W.heap.size + 1 + 1, 0, none⟩ (.int .i64 x.f)).setCell ⟨W.heap.size + 1 + 1, 1, none⟩ (.int .i64 x.t)).setCell ⟨W.heap.size + 1 + 1, 2, none⟩ (.string x.s)) := by
  obtain ⟨-, h2, h3, h4⟩ := h
  have p2 := h2.put (x' := .int .i64 m') (y' := u)
  have gp := grown_put w1 (W.heap.size + 1) (.int .i64 m') u
  have p3 := (h3.grown gp (fun e => by injection e with e; omega)).put (f' := x.f) (t' := x.t) (s' := x.s)
  have g3 := grown_put3 ((w1.setCell ⟨W.heap.size + 1, 0, none⟩ (.int .i64 m')).setCell ⟨W.heap.size + 1, 1, none⟩ u) (W.heap.size + 1 + 1) (.int .i64 x.f) (.int .i64 x.t) (.string x.s)
  exact ⟨p2.grown g3 (fun e => by injection e with e; omega), p3, (h4.grown gp h4.size (fun k e => by injection e with e; omega)).grown g3 (h4.grown gp h4.size (fun k e => by injection e with e; omega)).size (fun k e => by injection e with e; omega)⟩
theorem OwnL.put {W w1 : World} {base : Nat} {u x0 y0 x1 y1 z1 : Value} {Y : List Lt} (h : OwnL base w1 u Y) (hb : W.heap.size + 1 + 1 < base) :
    OwnL W.heap.size (((((w1.setCell ⟨W.heap.size + 1, 0, none⟩ x0).setCell ⟨W.heap.size + 1, 1, none⟩ y0).setCell ⟨W.heap.size + 1 + 1, 0, none⟩ x1).setCell ⟨W.heap.size + 1 + 1, 1, none⟩ y1).setCell ⟨W.heap.size + 1 + 1, 2, none⟩ z1) u Y :=
  (((((h.set _ _ _ (by omega)).set _ _ _ (by omega)).set _ _ _ hb).set _ _ _ hb).set _ _ _ hb).down (by omega)

set_option maxRecDepth 20000 in
set_option maxHeartbeats 2000000 in
theorem btake_out (W : World) (m : Int) (v : Value) (L : List Lt) (k : Int) (h : Lts W v L) (hs : ∀ l ∈ L, l.s.size ≤ maxLen) (hno : bagOk m L = false) :
    Calls Try.prog 8 #[.agg #[.int .i64 m, v], .int .i64 k] W fun e w' => e = .returned (.tuple #[.agg #[.int .i64 0, .slice none 0 0], .agg #[.int .i64 0, .int .i64 0, .string ByteArray.empty], .bool false]) ∧ Below W.heap.size W w' := by
  have hB0 := B3.new W m v
  have cb := bagok_impl _ m v L (h.call hB0.2.2.2) hs
  obtain ⟨oa, cap, rfl, _⟩ := h.len
  obtain ⟨⟨-, a0, a1, -, -⟩, ⟨-, c0, c1, -, -⟩, -, -⟩ := id hB0
  clear h hs
  rw [hno] at cb
  go_enter Try.func8, Try.ntmps8
  go_wp2_with (go_at_call 23; refine cb.mono ?_; rintro e w1 ⟨rfl, hb1⟩; have hB1 := hB0.call hb1; obtain ⟨-, ⟨-, d0, d1, d2, d3⟩, ⟨⟨-, e0, e1, e2⟩, e3, e4, e5⟩, -⟩ := id hB1)
  obtain ⟨p1, ⟨⟨-, q0, q1, q2⟩, -, -, -⟩, p3⟩ := hB1.put (m' := 0) (u := .slice none 0 0) (x := ⟨0, 0, ⟨#[]⟩⟩)
  obtain ⟨-, p4, p5, -, -⟩ := p1
  refine bodyPost_ret (v := .tuple #[.agg #[.int .i64 0, .slice none 0 0], .agg #[.int .i64 0, .int .i64 0, .string ByteArray.empty], .bool false]) ?_ rfl ⟨rfl, p3⟩
  generalize ((((w1.setCell ⟨W.heap.size + 1, 0, none⟩ (.int .i64 0)).setCell ⟨W.heap.size + 1, 1, none⟩ (.slice none 0 0)).setCell ⟨W.heap.size + 1 + 1, 0, none⟩ (.int .i64 0)).setCell ⟨W.heap.size + 1 + 1, 1, none⟩ (.int .i64 0)).setCell ⟨W.heap.size + 1 + 1, 2, none⟩ (.string ⟨#[]⟩) = Z at p4 p5 q0 q1 q2 ⊢
  simp [results, Try.results8, go_sem, p4, p5, q0, q1, q2, empty_is]
set_option maxRecDepth 20000 in
set_option maxHeartbeats 4000000 in
theorem btake_ok (W : World) (m : Int) (v : Value) (L : List Lt) (k : Int) (h : Lts W v L) (hbk : bagOk m L = true) :
    Calls Try.prog 8 #[.agg #[.int .i64 m, v], .int .i64 k] W fun e w' => ∃ u, e = .returned (.tuple #[.agg #[.int .i64 m, u], .agg #[.int .i64 ((tk L k).2.1).f, .int .i64 ((tk L k).2.1).t, .string ((tk L k).2.1).s], .bool (tk L k).2.2]) ∧ OwnL W.heap.size w' u (tk L k).1 ∧ Below W.heap.size W w' := by
  obtain ⟨hs, hl64, -, -, -⟩ := bagOk_sizes hbk
  have hB0 := B3.new W m v
  have h0 := h.call hB0.2.2.2
  have cb := bagok_impl _ m v L h0 (fun l hl => by have := hs l hl; unfold maxLen; omega)
  rw [hbk] at cb
  have cn := fun (V : World) (h : Lts V v L) => netof_is V m v L h hs hl64
  have cs := fun (V : World) (N : Nat) (oa : Option Addr) (cap : Nat) (base : Nat) (h1 : Nw N 0 m (.slice oa L.length cap) 0 V) (h2 : V.ownsRow base 32 3 (.slice oa L.length cap) L.length (lcs L)) (h3 : (Value.slice oa L.length cap).ownBlock ≠ some N) (h4 : base ≤ V.heap.size) =>
    take_is base N m 0 oa cap L k V h1 h2 h3 (by omega) h4
  have hsz0 : W.heap.size + 1 + 1 < (((W.alloc (.cells #[.int .i64 m, v] 25)).alloc (.cells #[.int .i64 0, .slice none 0 0] 25)).alloc (.cells #[.int .i64 0, .int .i64 0, .string ByteArray.empty] 32)).heap.size := hB0.2.2.1.1.1
  obtain ⟨oa, cap, rfl, _⟩ := h.len
  obtain ⟨⟨-, a0, a1, -, -⟩, -, -, -⟩ := id hB0
  generalize tk L k = R at cs ⊢
  obtain ⟨Y, x, b⟩ := R
  simp only at cs ⊢
  clear h hbk hs
  go_enter Try.func8, Try.ntmps8
  go_wp2_with (first
    | (go_at_call 23; refine cb.mono ?_; rintro e w1 ⟨rfl, hb1⟩; have hB1 := hB0.call hb1; have hT1 := h0.call hb1; have hs1 := hb1.size; obtain ⟨⟨-, e0, e1, -, -⟩, -, -⟩ := id hB1; clear cb hb1)
    | (go_at_call 24; refine (cn _ hT1).mono ?_; rintro e w3 ⟨N, u3, rfl, hN3, hlN, hne3, ho3, hb3⟩; have hB3 := hB1.call hb3; have hs3 := hb3.size; obtain ⟨o3, q3, hu3⟩ := owl_len ho3; subst hu3; clear cn hb3 hT1)
    | (go_at_call 25; refine (cs w3 N o3 q3 w1.heap.size hN3 ho3 hne3 hs3).mono ?_; rintro e w4 ⟨rfl, oc, q, hL4, hg4⟩; have hB4 := hB3.grown hg4 (by omega); clear cs hN3 hne3 ho3))
  have hX5 : L3 w4.heap.size x.f x.t x.s (w4.alloc (.cells #[Value.int IntKind.i64 (x).f, Value.int IntKind.i64 (x).t, Value.string (x).s] 32)) := L3.new w4 x.f x.t x.s 32
  have hb5 : Below w4.heap.size w4 (w4.alloc (.cells #[Value.int IntKind.i64 (x).f, Value.int IntKind.i64 (x).t, Value.string (x).s] 32)) := (Below.refl _ _).alloc (Nat.le_refl _) _
  have hB5 := hB4.call hb5
  have hL5 := hL4.call hb5
  have hN4 := hL4.1.1
  have hw1 : W.heap.size + 1 + 1 < w1.heap.size := by omega
  have hw4 : W.heap.size + 1 + 1 < w4.heap.size := by have := hB4.2.2.1.1.1; omega
  obtain ⟨⟨-, k0, k1, k2⟩, -, -, -⟩ := id hX5
  obtain ⟨-, ⟨-, f0, f1, f2, f3⟩, ⟨⟨-, j0, j1, j2⟩, j3, j4, j5⟩, -⟩ := id hB5
  clear hb5 hB4 hL4 hB0 hB1 hB3 h0 a0 a1 e0 e1
  go_region_held3 (fun w' => w'.cell? ⟨w4.heap.size, 0, none⟩ = some (.int .i64 x.f) ∧ w'.cell? ⟨w4.heap.size, 1, none⟩ = some (.int .i64 x.t) ∧ w'.cell? ⟨w4.heap.size, 2, none⟩ = some (.string x.s)) ((refine ⟨?_, ?_, ?_⟩ <;> (repeat (first | (with_reducible assumption) | (with_reducible refine c_drew ?_) | (with_reducible refine c_set ?_ (by first | (show W.heap.size + 1 ≠ w4.heap.size; omega) | (show W.heap.size + 1 + 1 ≠ w4.heap.size; omega))))))) (((try go_simp); go_at_call 26; refine (bag_is N m 0 oc Y.length q _ (hL5.1.call (by repeat' (first | (with_reducible exact Below.refl _ _) | (with_reducible assumption) | (with_reducible refine below_drewN ?_ _) | (with_reducible refine Below.setCell ?_ ?_ _) | (with_reducible refine Below.alloc ?_ ?_ _) | (with_reducible refine Below.drew ?_) | go_size))) hL5.2.1 hL5.2.2.1 hL5.2.2.2.1).mono ?_; rintro e w6 ⟨rfl, hN6, hg6⟩; have hB6 := (hB5.call (by repeat' (first | (with_reducible exact Below.refl _ _) | (with_reducible assumption) | (with_reducible refine below_drewN ?_ _) | (with_reducible refine Below.setCell ?_ ?_ _) | (with_reducible refine Below.alloc ?_ ?_ _) | (with_reducible refine Below.drew ?_) | go_size))).grown hg6 (by omega); have hX6 := (hX5.call (by repeat' (first | (with_reducible exact Below.refl _ _) | (with_reducible assumption) | (with_reducible refine below_drewN ?_ _) | (with_reducible refine Below.setCell ?_ ?_ _) | (with_reducible refine Below.alloc ?_ ?_ _) | (with_reducible refine Below.drew ?_) | go_size))).grown hg6 (fun e => by injection e with e; omega); have hO6 := (hL5.2.2.2.2.1.call (by repeat' (first | (with_reducible exact Below.refl _ _) | (with_reducible assumption) | (with_reducible refine below_drewN ?_ _) | (with_reducible refine Below.setCell ?_ ?_ _) | (with_reducible refine Below.alloc ?_ ?_ _) | (with_reducible refine Below.drew ?_) | go_size))).away hg6 hL5.2.2.2.2.2; obtain ⟨⟨-, l0, l1, l2⟩, -, -, -⟩ := id hX6; obtain ⟨-, ⟨-, m0, m1, m2, m3⟩, ⟨⟨-, n0, n1, n2⟩, n3, n4, n5⟩, -⟩ := id hB6))
  go_wp2_with fail
  have hO := hO6.put (W := W) (x0 := .int .i64 m) (y0 := .slice oc Y.length Y.length) (x1 := .int .i64 x.f) (y1 := .int .i64 x.t) (z1 := .string x.s) hw1
  obtain ⟨p1, ⟨⟨-, q0, q1, q2⟩, -, -, -⟩, p3⟩ := hB6.put (m' := m) (u := .slice oc Y.length Y.length) (x := x)
  obtain ⟨-, p4, p5, -, -⟩ := p1
  generalize ((((w6.setCell ⟨W.heap.size + 1, 0, none⟩ (.int .i64 m)).setCell ⟨W.heap.size + 1, 1, none⟩ (.slice oc Y.length Y.length)).setCell ⟨W.heap.size + 1 + 1, 0, none⟩ (.int .i64 x.f)).setCell ⟨W.heap.size + 1 + 1, 1, none⟩ (.int .i64 x.t)).setCell ⟨W.heap.size + 1 + 1, 2, none⟩ (.string x.s) = Z at p3 p4 p5 q0 q1 q2 hO ⊢
  refine bodyPost_ret (v := .tuple #[.agg #[.int .i64 m, .slice oc Y.length Y.length], .agg #[.int .i64 (x).f, .int .i64 (x).t, .string (x).s], .bool b]) ?_ rfl ⟨_, rfl, hO, p3⟩
  simp [results, Try.results8, go_sem, p4, p5, q0, q1, q2]
/-- BagTake of the program, wherever it comes to. -/
theorem btake_impl (W : World) (m : Int) (v : Value) (L : List Lt) (k : Int) (h : Lts W v L) (hs : ∀ l ∈ L, l.s.size ≤ maxLen) :
    Calls Try.prog 8 #[.agg #[.int .i64 m, v], .int .i64 k] W fun e w' => ∃ u, e = .returned (.tuple #[.agg #[.int .i64 (btake m L k).1, u], .agg #[.int .i64 ((btake m L k).2.2.1).f, .int .i64 ((btake m L k).2.2.1).t, .string ((btake m L k).2.2.1).s], .bool (btake m L k).2.2.2]) ∧ OwnL W.heap.size w' u (btake m L k).2.1 ∧ Below W.heap.size W w' := by
  cases hok : bagOk m L with
  | true =>
    have e : btake m L k = (m, (tk L k).1, (tk L k).2.1, (tk L k).2.2) := by unfold btake; rw [if_pos hok]
    rw [e]
    exact btake_ok W m v L k h hok
  | false =>
    have e : btake m L k = (0, [], ⟨0, 0, ByteArray.empty⟩, false) := by unfold btake; rw [if_neg (by rw [hok]; simp)]
    rw [e]
    exact (btake_out W m v L k h hs hok).mono (fun e w' ⟨he, hb⟩ => ⟨_, he, .inl ⟨rfl, none, rfl⟩, hb⟩)
end Go.Proofs.Ytnfnhgloblfgnaa
