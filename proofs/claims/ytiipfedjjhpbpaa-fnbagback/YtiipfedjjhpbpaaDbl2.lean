/-
  BagDouble of the program.
-/
import Derived.Test.YtiipfedjjhpbpaaDbl
namespace Go.Proofs.Ytiipfedjjhpbpaa
open Go.RowKit

/-- What BagDouble tells: the room, the letters, whether there is one more. -/
def bdbl (m : Int) (L : List Lt) (k : Int) : Int × List Lt × Bool :=
  if bagOk m L = true then (if h : 0 < L.length then (if (L.length : Int) < m then (m, L ++ [L[bpos k L.length]'(bpos_lt k _ h)], true) else (m, L, false)) else (m, L, false)) else (0, [], false)
/-- The boxes of the bag and of the answer. -/
def B2 (W : World) (m : Int) (v : Value) (w' : World) : Prop := C2 W.heap.size (.int .i64 m) v w' ∧ C2 (W.heap.size + 1) (.int .i64 0) (.slice none 0 0) w' ∧ Below W.heap.size W w'
theorem B2.call {W : World} {m : Int} {v : Value} {w1 w2 : World} (h : B2 W m v w1) (hb : Below w1.heap.size w1 w2) : B2 W m v w2 := ⟨h.1.call hb, h.2.1.call hb, below_after h.2.2 hb h.2.2.size⟩
theorem B2.grown {W : World} {m : Int} {v : Value} {w1 w2 : World} {N : Nat} (h : B2 W m v w1) (hg : w1.grownBy w2 (some N)) (hN : W.heap.size + 1 < N) : B2 W m v w2 :=
  ⟨h.1.grown hg (fun e => by injection e with e; omega), h.2.1.grown hg (fun e => by injection e with e; omega), h.2.2.grown hg h.2.2.size (fun k e => by injection e with e; omega)⟩
theorem B2.new (W : World) (m : Int) (v : Value) : B2 W m v ((W.alloc (.cells #[.int .i64 m, v] 25)).alloc (.cells #[.int .i64 0, .slice none 0 0] 25)) := by
  refine ⟨(C2.new W (.int .i64 m) v 25).alloc _, ?_, (by repeat' (first | (with_reducible exact Below.refl _ _) | (with_reducible assumption) | (with_reducible refine below_drewN ?_ _) | (with_reducible refine Below.setCell ?_ ?_ _) | (with_reducible refine Below.alloc ?_ ?_ _) | (with_reducible refine Below.drew ?_) | go_size))⟩
  have := C2.new (W.alloc (.cells #[.int .i64 m, v] 25)) (.int .i64 0) (.slice none 0 0) 25
  rwa [World.size_alloc] at this

set_option maxRecDepth 20000 in
set_option maxHeartbeats 2000000 in
theorem bdbl_out (W : World) (m : Int) (v : Value) (L : List Lt) (k : Int) (h : Lts W v L) (hs : ∀ l ∈ L, l.s.size ≤ maxLen) (hno : bagOk m L = false) :
    Calls Try.prog 14 #[.agg #[.int .i64 m, v], .int .i64 k] W fun e w' => e = .returned (.tuple #[.agg #[.int .i64 0, .slice none 0 0], .bool false]) ∧ Below W.heap.size W w' := by
  have hB0 := B2.new W m v
  have cb := bagok_impl _ m v L (h.call hB0.2.2) hs
  obtain ⟨oa, cap, rfl, _⟩ := h.len
  obtain ⟨⟨-, a0, a1, -, -⟩, ⟨-, c0, c1, -, -⟩, -⟩ := id hB0
  clear h hs
  rw [hno] at cb
  go_enter Try.func14, Try.ntmps14
  go_wp2_with (go_at_call 34; refine cb.mono ?_; rintro e w1 ⟨rfl, hb1⟩; have hB1 := hB0.call hb1; obtain ⟨-, ⟨-, d0, d1, d2, d3⟩, -⟩ := id hB1)
  exact bodyPost_ret (v := .tuple #[.agg #[.int .i64 0, .slice none 0 0], .bool false]) (by simp [results, Try.results14, go_sem, d0, d1]) rfl ⟨rfl, (hB1.2.2.setCell (by show W.heap.size ≤ W.heap.size + 1; omega) _).setCell (by show W.heap.size ≤ W.heap.size + 1; omega) _⟩
set_option maxRecDepth 20000 in
set_option maxHeartbeats 2000000 in
theorem bdbl_room (W : World) (m : Int) (v : Value) (L : List Lt) (k : Int) (h : Lts W v L) (hbk : bagOk m L = true) (hp : 0 < L.length) (hm : (L.length : Int) < m) :
    Calls Try.prog 14 #[.agg #[.int .i64 m, v], .int .i64 k] W fun e w' => ∃ u, e = .returned (.tuple #[.agg #[.int .i64 m, u], .bool true]) ∧ OwnL W.heap.size w' u (L ++ [L[bpos k L.length]'(bpos_lt k _ hp)]) ∧ Below W.heap.size W w' := by
  obtain ⟨hs, hl64, -, -, -⟩ := bagOk_sizes hbk
  have hB0 := B2.new W m v
  have h0 := h.call hB0.2.2
  have cb := bagok_impl _ m v L h0 (fun l hl => by have := hs l hl; unfold maxLen; omega)
  rw [hbk] at cb
  have cn := fun (V : World) (h : Lts V v L) => netof_is V m v L h hs hl64
  have cs := fun (V : World) (N : Nat) (oa : Option Addr) (cap : Nat) (h1 : Nw N 0 m (.slice oa L.length cap) 0 V) (h2 : V.ownsRow W.heap.size 27 3 (.slice oa L.length cap) L.length (lcs L)) (h3 : (Value.slice oa L.length cap).ownBlock ≠ some N) =>
    dbl_room N m 0 oa cap L k V h1 (Rows3.of h2) (fun b e hb => h3 (by rw [(own_parts h2).2.2.2 b e, hb])) (own_parts h2).1 (own_parts h2).2.1 (own_parts h2).2.2.1 hp (by omega) hm (fun l hl => by have := hs l hl; omega) (own_lts h2)
  obtain ⟨x, hx⟩ : ∃ x, x = L[bpos k L.length]'(bpos_lt k _ hp) := ⟨_, rfl⟩
  rw [← hx] at cs ⊢
  have hsz0 : W.heap.size + 1 < ((W.alloc (.cells #[.int .i64 m, v] 25)).alloc (.cells #[.int .i64 0, .slice none 0 0] 25)).heap.size := hB0.2.1.1
  obtain ⟨oa, cap, rfl, _⟩ := h.len
  obtain ⟨⟨-, a0, a1, -, -⟩, ⟨-, c0, c1, -, -⟩, -⟩ := id hB0
  clear h hbk hs hm hx
  go_enter Try.func14, Try.ntmps14
  go_wp2_with (first
    | (go_at_call 34; refine cb.mono ?_; rintro e w1 ⟨rfl, hb1⟩; have hB1 := hB0.call hb1; have hT1 := h0.call hb1; have hs1 := hb1.size; obtain ⟨⟨-, e0, e1, -, -⟩, -, -⟩ := id hB1; clear cb hb1)
    | (go_at_call 36; refine (cn _ hT1).mono ?_; rintro e w3 ⟨N, u3, rfl, hN3, hlN, hne3, ho3, hb3⟩; have hB3 := hB1.call hb3; obtain ⟨o3, q3, hu3⟩ := owl_len ho3; subst hu3; clear cn hb3 hT1)
    | (go_at_call 42; refine (cs w3 N o3 q3 hN3 (own_down ho3 (by omega)) hne3).mono ?_; rintro e w4 ⟨rfl, u4, hN4, hne4, ho4, hg4⟩; have hB4 := hB3.grown hg4 (by omega); obtain ⟨o4, q4, hu4⟩ := owl_len ho4; subst hu4; clear cs hN3 hne3)
    | (go_at_call 38; refine (bag_is N m 0 o4 (L.length + 1) q4 w4 hN4 (own_parts ho4).1 (own_parts ho4).2.1 (own_parts ho4).2.2.1).mono ?_; rintro e w5 ⟨rfl, hN5, hg5⟩; have hB5 := hB4.grown hg5 (by omega); have ho5 := ho4.kept hg5 (.inr hne4); obtain ⟨-, ⟨-, d0, d1, d2, d3⟩, -⟩ := id hB5)
    | (go_at_call 39; refine (lost_is N 0 m 0 _ w5 hN5).mono ?_; rintro e w6 ⟨rfl, hw6⟩; replace hw6 := hw6.symm; subst hw6))
  have hoL := OwnL.of (L := L ++ [x]) ho5 (by simp)
  refine bodyPost_ret (v := .tuple #[.agg #[.int .i64 m, .slice o4 (L.length + 1) (L.length + 1)], .bool true]) (by simp [results, Try.results14, go_sem, d0, d1]) rfl ⟨_, rfl, ?_, (hB5.2.2.setCell (by show W.heap.size ≤ W.heap.size + 1; omega) _).setCell (by show W.heap.size ≤ W.heap.size + 1; omega) _⟩
  have hw2 : W.heap.size + 1 < w3.heap.size := by have := hB3.2.1.1; omega
  exact ((hoL.set _ _ _ hw2).set _ _ _ hw2).down (by omega)
set_option maxRecDepth 20000 in
set_option maxHeartbeats 2000000 in
theorem bdbl_full (W : World) (m : Int) (v : Value) (L : List Lt) (k : Int) (h : Lts W v L) (hbk : bagOk m L = true) (hp : 0 < L.length) (hm : m ≤ (L.length : Int)) :
    Calls Try.prog 14 #[.agg #[.int .i64 m, v], .int .i64 k] W fun e w' => ∃ u, e = .returned (.tuple #[.agg #[.int .i64 m, u], .bool false]) ∧ OwnL W.heap.size w' u (L) ∧ Below W.heap.size W w' := by
  obtain ⟨hs, hl64, -, -, -⟩ := bagOk_sizes hbk
  have hB0 := B2.new W m v
  have h0 := h.call hB0.2.2
  have cb := bagok_impl _ m v L h0 (fun l hl => by have := hs l hl; unfold maxLen; omega)
  rw [hbk] at cb
  have cn := fun (V : World) (h : Lts V v L) => netof_is V m v L h hs hl64
  have cs := fun (V : World) (N : Nat) (oa : Option Addr) (cap : Nat) (h1 : Nw N 0 m (.slice oa L.length cap) 0 V) (h2 : V.ownsRow W.heap.size 27 3 (.slice oa L.length cap) L.length (lcs L)) (h3 : (Value.slice oa L.length cap).ownBlock ≠ some N) =>
    dbl_full N m 0 oa cap L k V h1 (fun b e hb => h3 (by rw [(own_parts h2).2.2.2 b e, hb])) hp (by omega) hm (by omega) (own_lts h2)
  have hsz0 : W.heap.size + 1 < ((W.alloc (.cells #[.int .i64 m, v] 25)).alloc (.cells #[.int .i64 0, .slice none 0 0] 25)).heap.size := hB0.2.1.1
  obtain ⟨oa, cap, rfl, _⟩ := h.len
  obtain ⟨⟨-, a0, a1, -, -⟩, ⟨-, c0, c1, -, -⟩, -⟩ := id hB0
  clear h hbk hs hm
  go_enter Try.func14, Try.ntmps14
  go_wp2_with (first
    | (go_at_call 34; refine cb.mono ?_; rintro e w1 ⟨rfl, hb1⟩; have hB1 := hB0.call hb1; have hT1 := h0.call hb1; have hs1 := hb1.size; obtain ⟨⟨-, e0, e1, -, -⟩, -, -⟩ := id hB1; clear cb hb1)
    | (go_at_call 36; refine (cn _ hT1).mono ?_; rintro e w3 ⟨N, u3, rfl, hN3, hlN, hne3, ho3, hb3⟩; have hB3 := hB1.call hb3; obtain ⟨o3, q3, hu3⟩ := owl_len ho3; subst hu3; clear cn hb3 hT1)
    | (go_at_call 42; refine (cs w3 N o3 q3 hN3 (own_down ho3 (by omega)) hne3).mono ?_; rintro e w4 ⟨rfl, hN4, hg4⟩; have hB4 := hB3.grown hg4 (by omega); have ho4 := ho3.kept hg4 (.inr hne3); clear cs hN3)
    | (go_at_call 38; refine (bag_is N m (0 + 1) o3 L.length q3 w4 hN4 (own_parts ho4).1 (own_parts ho4).2.1 (own_parts ho4).2.2.1).mono ?_; rintro e w5 ⟨rfl, hN5, hg5⟩; have hB5 := hB4.grown hg5 (by omega); have ho5 := ho4.kept hg5 (.inr hne3); obtain ⟨-, ⟨-, d0, d1, d2, d3⟩, -⟩ := id hB5)
    | (go_at_call 39; refine (lost_is N 0 m (0 + 1) _ w5 hN5).mono ?_; rintro e w6 ⟨rfl, hw6⟩; replace hw6 := hw6.symm; subst hw6))
  have hoL := OwnL.of (L := L) ho5 (by simp)
  refine bodyPost_ret (v := .tuple #[.agg #[.int .i64 m, .slice o3 L.length L.length], .bool false]) (by simp [results, Try.results14, go_sem, d0, d1]) rfl ⟨_, rfl, ?_, (hB5.2.2.setCell (by show W.heap.size ≤ W.heap.size + 1; omega) _).setCell (by show W.heap.size ≤ W.heap.size + 1; omega) _⟩
  have hw2 : W.heap.size + 1 < w1.heap.size := by omega
  exact ((hoL.set _ _ _ hw2).set _ _ _ hw2).down (by omega)
set_option maxRecDepth 20000 in
set_option maxHeartbeats 2000000 in
theorem bdbl_none (W : World) (m : Int) (v : Value) (k : Int) (h : Lts W v []) (hbk : bagOk m [] = true) :
    Calls Try.prog 14 #[.agg #[.int .i64 m, v], .int .i64 k] W fun e w' => ∃ u, e = .returned (.tuple #[.agg #[.int .i64 m, u], .bool false]) ∧ OwnL W.heap.size w' u ([]) ∧ Below W.heap.size W w' := by
  obtain ⟨hs, hl64, -, -, -⟩ := bagOk_sizes hbk
  have hB0 := B2.new W m v
  have h0 := h.call hB0.2.2
  have cb := bagok_impl _ m v [] h0 (fun l hl => by have := hs l hl; unfold maxLen; omega)
  rw [hbk] at cb
  have cn := fun (V : World) (h : Lts V v []) => netof_is V m v [] h hs hl64
  have cs := fun (V : World) (N : Nat) (oa : Option Addr) (cap : Nat) (h1 : Nw N 0 m (.slice oa 0 cap) 0 V) => dbl_none N m 0 oa cap k V h1
  have hsz0 : W.heap.size + 1 < ((W.alloc (.cells #[.int .i64 m, v] 25)).alloc (.cells #[.int .i64 0, .slice none 0 0] 25)).heap.size := hB0.2.1.1
  obtain ⟨oa, cap, rfl, _⟩ := h.len
  obtain ⟨⟨-, a0, a1, -, -⟩, ⟨-, c0, c1, -, -⟩, -⟩ := id hB0
  clear h hbk hs 
  go_enter Try.func14, Try.ntmps14
  go_wp2_with (first
    | (go_at_call 34; refine cb.mono ?_; rintro e w1 ⟨rfl, hb1⟩; have hB1 := hB0.call hb1; have hT1 := h0.call hb1; have hs1 := hb1.size; obtain ⟨⟨-, e0, e1, -, -⟩, -, -⟩ := id hB1; clear cb hb1)
    | (go_at_call 36; refine (cn _ hT1).mono ?_; rintro e w3 ⟨N, u3, rfl, hN3, hlN, hne3, ho3, hb3⟩; have hB3 := hB1.call hb3; obtain ⟨o3, q3, hu3⟩ := owl_len ho3; subst hu3; clear cn hb3 hT1)
    | (go_at_call 42; refine (cs w3 N o3 q3 hN3).mono ?_; rintro e w4 ⟨rfl, hN4, hg4⟩; have hB4 := hB3.grown hg4 (by omega); have ho4 := ho3.kept hg4 (.inr hne3); clear cs hN3)
    | (go_at_call 38; refine (bag_is N m 0 o3 0 q3 w4 hN4 (own_parts ho4).1 (own_parts ho4).2.1 (own_parts ho4).2.2.1).mono ?_; rintro e w5 ⟨rfl, hN5, hg5⟩; have hB5 := hB4.grown hg5 (by omega); have ho5 := ho4.kept hg5 (.inr hne3); obtain ⟨-, ⟨-, d0, d1, d2, d3⟩, -⟩ := id hB5)
    | (go_at_call 39; refine (lost_is N 0 m 0 _ w5 hN5).mono ?_; rintro e w6 ⟨rfl, hw6⟩; replace hw6 := hw6.symm; subst hw6))
  have hoL := OwnL.of (L := []) ho5 (by simp)
  refine bodyPost_ret (v := .tuple #[.agg #[.int .i64 m, .slice o3 0 0], .bool false]) (by simp [results, Try.results14, go_sem, d0, d1]) rfl ⟨_, rfl, ?_, (hB5.2.2.setCell (by show W.heap.size ≤ W.heap.size + 1; omega) _).setCell (by show W.heap.size ≤ W.heap.size + 1; omega) _⟩
  have hw2 : W.heap.size + 1 < w1.heap.size := by omega
  exact ((hoL.set _ _ _ hw2).set _ _ _ hw2).down (by omega)
end Go.Proofs.Ytiipfedjjhpbpaa
