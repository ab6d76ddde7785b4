/-
  BagSend of the program, where bag and letter are ok.
-/
import Derived.Test.YtiipfedjjhpbpaaNet5
namespace Go.Proofs.Ytiipfedjjhpbpaa
open Go.RowKit

theorem own_parts {W : World} {base n cap : Nat} {oa : Option Addr} {xs : List Value} (h : W.ownsRow base 27 3 (.slice oa n cap) n xs) :
    n ≤ cap ∧ cap ≤ maxLen ∧ (oa = none → cap = 0) ∧ ∀ b, oa = some b → (Value.slice oa n cap).ownBlock = some b.block := by
  rcases h.2 with ⟨hv, h0⟩ | ⟨g, cap', cur, hv, _, _, hn, hm, _⟩
  · injection hv with e1 e2 e3
    subst e1 e2 e3
    exact ⟨Nat.le_refl _, by unfold maxLen; omega, (fun _ => rfl), (fun b e => by cases e)⟩
  · injection hv with e1 e2 e3
    subst e1 e3
    exact ⟨hn, hm, (fun e => by cases e), (fun b e => by injection e with e; subst e; rfl)⟩
theorem bagOk_sizes {m : Int} {L : List Lt} (h : bagOk m L = true) : (∀ l ∈ L, l.s.size ≤ 600) ∧ L.length ≤ 64 ∧ 1 ≤ m ∧ m ≤ 64 ∧ (L.length : Int) ≤ m := by
  unfold bagOk at h
  rw [Bool.and_eq_true, decide_eq_true_iff, List.all_eq_true] at h
  refine ⟨fun l hl => ?_, by omega, by omega, by omega, h.1.2.2⟩
  have := h.2 l hl
  unfold letOk at this
  rw [Bool.and_eq_true, decide_eq_true_iff] at this
  exact this.2
theorem letOk_size {f t : Int} {n : Nat} (h : letOk f t n = true) : n ≤ 600 := by
  unfold letOk at h
  rw [Bool.and_eq_true, decide_eq_true_iff] at h
  exact h.2
set_option maxRecDepth 20000 in
set_option maxHeartbeats 2000000 in
theorem bsend_room (W : World) (m : Int) (v : Value) (L : List Lt) (l : Lt) (h : Lts W v L) (hbk : bagOk m L = true) (hlk : letOk l.f l.t l.s.size = true) (hm : (L.length : Int) < m) :
    Calls Try.prog 10 #[.agg #[.int .i64 m, v], .agg #[.int .i64 (l).f, .int .i64 (l).t, .string (l).s]] W fun e w' => ∃ u, e = .returned (.tuple #[.agg #[.int .i64 m, u], .bool true]) ∧ OwnL W.heap.size w' u (L ++ [l]) ∧ Below W.heap.size W w' := by
  obtain ⟨hs, hl64, -, -, -⟩ := bagOk_sizes hbk
  have hsl := letOk_size hlk
  have hB0 := BS.new W m v l
  have h0 := h.call hB0.2.2.2
  have cb := bagok_impl _ m v L h0 (fun l hl => by have := hs l hl; unfold maxLen; omega)
  have cl := fun V : World => letok_impl l.f l.t l.s (by unfold maxLen; omega) V
  rw [hbk] at cb
  rw [hlk] at cl
  have cn := fun (V : World) (h : Lts V v L) => netof_is V m v L h hs hl64
  have cs := fun (V : World) (N : Nat) (oa : Option Addr) (cap : Nat) (h1 : Nw N 0 m (.slice oa L.length cap) 0 V) (h2 : V.ownsRow W.heap.size 27 3 (.slice oa L.length cap) L.length (lcs L)) (h3 : (Value.slice oa L.length cap).ownBlock ≠ some N) =>
    send_room N m 0 oa cap L l.f l.t l.s V h1 (Rows3.of h2) (fun b e hb => h3 (by rw [(own_parts h2).2.2.2 b e, hb])) (own_parts h2).1 (own_parts h2).2.1 (own_parts h2).2.2.1 (by omega) hm (by omega)
  have hsz0 : W.heap.size + 1 + 1 < (((W.alloc (.cells #[.int .i64 m, v] 25)).alloc (.cells #[Value.int IntKind.i64 (l).f, Value.int IntKind.i64 (l).t, Value.string (l).s] 27)).alloc (.cells #[.int .i64 0, .slice none 0 0] 25)).heap.size := hB0.2.2.1.1
  obtain ⟨oa, cap, rfl, _⟩ := h.len
  obtain ⟨⟨-, a0, a1, -, -⟩, ⟨⟨-, b0, b1, b2⟩, -, -, -⟩, ⟨-, c0, c1, -, -⟩, -⟩ := id hB0
  clear h hbk hlk hs hm
  go_enter Try.func10, Try.ntmps10
  go_wp2_with (first
    | (go_at_call 34; refine cb.mono ?_; rintro e w1 ⟨rfl, hb1⟩; have hB1 := hB0.call hb1; have hT1 := h0.call hb1; have hs1 := hb1.size; obtain ⟨-, ⟨⟨-, e0, e1, e2⟩, -, -, -⟩, -, -⟩ := id hB1; clear cb hb1)
    | (go_at_call 35; refine (cl _).mono ?_; rintro e w2 ⟨rfl, hb2⟩; have hB2 := hB1.call hb2; have hT2 := hT1.call hb2; have hs2 := hb2.size; obtain ⟨⟨-, i0, i1, -, -⟩, ⟨⟨-, j0, j1, j2⟩, -, -, -⟩, -, -⟩ := id hB2; clear cl hb2 hT1 hB1)
    | (go_at_call 36; refine (cn _ hT2).mono ?_; rintro e w3 ⟨N, u3, rfl, hN3, hlN, hne3, ho3, hb3⟩; have hB3 := hB2.call hb3; obtain ⟨o3, q3, hu3⟩ := owl_len ho3; subst hu3; obtain ⟨-, ⟨⟨-, k0, k1, k2⟩, -, -, -⟩, -, -⟩ := id hB3; clear cn hb3 hB2 hT2)
    | (go_at_call 37; refine (cs w3 N o3 q3 hN3 (own_down ho3 (by omega)) hne3).mono ?_; rintro e w4 ⟨rfl, u4, hN4, hne4, ho4, hg4⟩; have hB4 := hB3.grown hg4 (by omega); obtain ⟨o4, q4, hu4⟩ := owl_len ho4; subst hu4; clear cs hN3 hne3)
    | (go_at_call 38; refine (bag_is N m 0 o4 (L.length + 1) q4 w4 hN4 (own_parts ho4).1 (own_parts ho4).2.1 (own_parts ho4).2.2.1).mono ?_; rintro e w5 ⟨rfl, hN5, hg5⟩; have hB5 := hB4.grown hg5 (by omega); have ho5 := ho4.kept hg5 (.inr hne4); obtain ⟨-, -, ⟨-, d0, d1, d2, d3⟩, -⟩ := id hB5)
    | (go_at_call 39; refine (lost_is N 0 m 0 _ w5 hN5).mono ?_; rintro e w6 ⟨rfl, hw6⟩; replace hw6 := hw6.symm; subst hw6))
  have hoL := OwnL.of (L := L ++ [l]) ho5 (by simp)
  refine bodyPost_ret (v := .tuple #[.agg #[.int .i64 m, .slice o4 (L.length + 1) (L.length + 1)], .bool true]) (by simp [results, Try.results10, go_sem, d0, d1]) rfl ⟨_, rfl, ?_, (hB5.2.2.2.setCell (by show W.heap.size ≤ W.heap.size + 1 + 1; omega) _).setCell (by show W.heap.size ≤ W.heap.size + 1 + 1; omega) _⟩
  have hw3 : W.heap.size + 1 + 1 < w3.heap.size := hB3.2.2.1.1
  exact ((hoL.set _ _ _ hw3).set _ _ _ hw3).down (by omega)
end Go.Proofs.Ytiipfedjjhpbpaa

/-
  BagSend of the program, where the bag is full.
-/
namespace Go.Proofs.Ytiipfedjjhpbpaa
open Go.RowKit

set_option maxRecDepth 20000 in
set_option maxHeartbeats 2000000 in
theorem bsend_full (W : World) (m : Int) (v : Value) (L : List Lt) (l : Lt) (h : Lts W v L) (hbk : bagOk m L = true) (hlk : letOk l.f l.t l.s.size = true) (hm : m ≤ (L.length : Int)) :
    Calls Try.prog 10 #[.agg #[.int .i64 m, v], .agg #[.int .i64 (l).f, .int .i64 (l).t, .string (l).s]] W fun e w' => ∃ u, e = .returned (.tuple #[.agg #[.int .i64 m, u], .bool false]) ∧ OwnL W.heap.size w' u L ∧ Below W.heap.size W w' := by
  obtain ⟨hs, hl64, -, -, -⟩ := bagOk_sizes hbk
  have hsl := letOk_size hlk
  have hB0 := BS.new W m v l
  have h0 := h.call hB0.2.2.2
  have cb := bagok_impl _ m v L h0 (fun l hl => by have := hs l hl; unfold maxLen; omega)
  have cl := fun V : World => letok_impl l.f l.t l.s (by unfold maxLen; omega) V
  rw [hbk] at cb
  rw [hlk] at cl
  have cn := fun (V : World) (h : Lts V v L) => netof_is V m v L h hs hl64
  have cs := fun (V : World) (N : Nat) (oa : Option Addr) (cap : Nat) (h1 : Nw N 0 m (.slice oa L.length cap) 0 V) => send_full N m 0 oa L.length cap l.f l.t l.s V h1 (by omega) hm (by omega)
  have hsz0 : W.heap.size + 1 + 1 < (((W.alloc (.cells #[.int .i64 m, v] 25)).alloc (.cells #[Value.int IntKind.i64 (l).f, Value.int IntKind.i64 (l).t, Value.string (l).s] 27)).alloc (.cells #[.int .i64 0, .slice none 0 0] 25)).heap.size := hB0.2.2.1.1
  obtain ⟨oa, cap, rfl, _⟩ := h.len
  obtain ⟨⟨-, a0, a1, -, -⟩, ⟨⟨-, b0, b1, b2⟩, -, -, -⟩, ⟨-, c0, c1, -, -⟩, -⟩ := id hB0
  clear h hbk hlk hs hm
  go_enter Try.func10, Try.ntmps10
  go_wp2_with (first
    | (go_at_call 34; refine cb.mono ?_; rintro e w1 ⟨rfl, hb1⟩; have hB1 := hB0.call hb1; have hT1 := h0.call hb1; have hs1 := hb1.size; obtain ⟨-, ⟨⟨-, e0, e1, e2⟩, -, -, -⟩, -, -⟩ := id hB1; clear cb hb1)
    | (go_at_call 35; refine (cl _).mono ?_; rintro e w2 ⟨rfl, hb2⟩; have hB2 := hB1.call hb2; have hT2 := hT1.call hb2; have hs2 := hb2.size; obtain ⟨⟨-, i0, i1, -, -⟩, ⟨⟨-, j0, j1, j2⟩, -, -, -⟩, -, -⟩ := id hB2; clear cl hb2 hT1 hB1)
    | (go_at_call 36; refine (cn _ hT2).mono ?_; rintro e w3 ⟨N, u3, rfl, hN3, hlN, hne3, ho3, hb3⟩; have hB3 := hB2.call hb3; obtain ⟨o3, q3, hu3⟩ := owl_len ho3; subst hu3; obtain ⟨-, ⟨⟨-, k0, k1, k2⟩, -, -, -⟩, -, -⟩ := id hB3; clear cn hb3 hB2 hT2)
    | (go_at_call 37; refine (cs w3 N o3 q3 hN3).mono ?_; rintro e w4 ⟨rfl, hN4, hg4⟩; have hB4 := hB3.grown hg4 (by omega); have ho4 := ho3.kept hg4 (.inr hne3); clear cs hN3)
    | (go_at_call 38; refine (bag_is N m (0 + 1) o3 L.length q3 w4 hN4 (own_parts ho4).1 (own_parts ho4).2.1 (own_parts ho4).2.2.1).mono ?_; rintro e w5 ⟨rfl, hN5, hg5⟩; have hB5 := hB4.grown hg5 (by omega); have ho5 := ho4.kept hg5 (.inr hne3); obtain ⟨-, -, ⟨-, d0, d1, d2, d3⟩, -⟩ := id hB5)
    | (go_at_call 39; refine (lost_is N 0 m (0 + 1) _ w5 hN5).mono ?_; rintro e w6 ⟨rfl, hw6⟩; replace hw6 := hw6.symm; subst hw6))
  have hoL := OwnL.of (L := L) ho5 rfl
  refine bodyPost_ret (v := .tuple #[.agg #[.int .i64 m, .slice o3 L.length L.length], .bool false]) (by simp [results, Try.results10, go_sem, d0, d1]) rfl ⟨_, rfl, ?_, (hB5.2.2.2.setCell (by show W.heap.size ≤ W.heap.size + 1 + 1; omega) _).setCell (by show W.heap.size ≤ W.heap.size + 1 + 1; omega) _⟩
  have hw2 : W.heap.size + 1 + 1 < w2.heap.size := by omega
  exact ((hoL.set _ _ _ hw2).set _ _ _ hw2).down (by omega)
/-- BagSend of the program, wherever it comes to. -/
theorem bsend_impl (W : World) (m : Int) (v : Value) (L : List Lt) (l : Lt) (h : Lts W v L) (hs : ∀ l ∈ L, l.s.size ≤ maxLen) (hsl : l.s.size ≤ maxLen) :
    Calls Try.prog 10 #[.agg #[.int .i64 m, v], .agg #[.int .i64 (l).f, .int .i64 (l).t, .string (l).s]] W fun e w' => ∃ u, e = .returned (.tuple #[.agg #[.int .i64 (bsend m L l).1, u], .bool (bsend m L l).2.2]) ∧ OwnL W.heap.size w' u (bsend m L l).2.1 ∧ Below W.heap.size W w' := by
  by_cases hok : bagOk m L = true ∧ letOk l.f l.t l.s.size = true
  · by_cases hm : (L.length : Int) < m
    · have e : bsend m L l = (m, L ++ [l], true) := by unfold bsend; rw [if_pos hok, if_pos hm]
      rw [e]
      exact bsend_room W m v L l h hok.1 hok.2 hm
    · have e : bsend m L l = (m, L, false) := by unfold bsend; rw [if_pos hok, if_neg hm]
      rw [e]
      exact bsend_full W m v L l h hok.1 hok.2 (by omega)
  · have e : bsend m L l = (0, [], false) := by unfold bsend; rw [if_neg hok]
    rw [e]
    exact (bsend_out W m v L l h hs hsl hok).mono (fun e w' ⟨he, hb⟩ => ⟨_, he, .inl ⟨rfl, none, rfl⟩, hb⟩)
end Go.Proofs.Ytiipfedjjhpbpaa
