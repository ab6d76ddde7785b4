/-
  A letter into a bag (the document's function).
-/
import Derived.Test.YtiipfedjjhpbpaaCopy6
import Derived.Test.YtiipfedjjhpbpaaJoinB17
namespace Go.Proofs.Ytiipfedjjhpbpaa
open Go.RowKit

/-- append(b, l), b a row of letters of the call's own, l one letter: and where the new row lies. -/
theorem wpList_append_letA {w : World} {ops : Array Oper} {rest : List Oper} {o : Oper} {a : Act} {Q : Exit → Act → World → Prop} (hgd : o.guard = none) (s x : Operand)
    (ho : o.op = .call { callee := .builtin .append, args := #[s, x], argTypes := #[23, 23] })
    (base : Nat) (v : Value) (K : List Lt) (l : Lt) (hs : a.eval s = v) (hown : w.ownsRow base 27 3 v K.length (lcs K))
    (B : Nat) (hx : a.eval x = .slice (some ⟨B, 0, none⟩) 1 1) (hc : ∀ j u, (lc l)[j]? = some u → w.cell? ((⟨B, 0, none⟩ : Addr).add j) = some u)
    (hlen : K.length ≤ 1048576) (hbase : base ≤ w.heap.size)
    (h : ∀ g cap w', w'.ownsRow base 27 3 (.slice (some ⟨g, 0, none⟩) (K.length + 1) cap) (K.length + 1) (lcs (K ++ [l])) → w.grownBy w' v.ownBlock → (v.ownBlock = some g ∨ g = w.heap.size) → wpList Try.prog ops Q rest (a.put o.dst (.slice (some ⟨g, 0, none⟩) (K.length + 1) cap)) w') : wpList Try.prog ops Q (o :: rest) a w := by
  obtain ⟨i0, hi, hz0, hz1, hz2⟩ := info_parts infoL
  refine wpList_append_lies w hgd s x 23 ho base 27 i0 _ 3 32 Try.underlying23 hi hz0 hz1 hz2 rfl (by decide) v K.length (lcs K) hs hown ⟨B, 0, none⟩ 1 1 (lc l) hx rfl hc lc_one (by decide) (by unfold maxLen; omega) (by omega) hbase _ rfl ?_
  intro g cap w' h1 h2 h3 _
  refine h g cap w' ?_ h2 h3
  rw [lcs_append]
  simpa [lcs] using h1

set_option maxRecDepth 20000 in
set_option maxHeartbeats 2000000 in
theorem sends_out (W : World) (m : Int) (v : Value) (L : List Lt) (l : Lt) (h : Lts W v L) (hs : ∀ l ∈ L, l.s.size ≤ maxLen) (hsl : l.s.size ≤ maxLen) (hno : ¬ (bagOk m L = true ∧ letOk l.f l.t l.s.size = true)) :
    Calls Try.prog 11 #[.agg #[.int .i64 m, v], .agg #[.int .i64 (l).f, .int .i64 (l).t, .string (l).s]] W fun e w' => e = .returned (.tuple #[.agg #[.int .i64 0, .slice none 0 0], .bool false]) ∧ Below W.heap.size W w' := by
  have hB0 := BS.new W m v l
  have cb := bagok_spec _ m v L (h.call hB0.2.2.2) hs
  have cl := fun V : World => letok_spec l.f l.t l.s hsl V
  obtain ⟨oa, cap, rfl, _⟩ := h.len
  obtain ⟨⟨-, a0, a1, -, -⟩, ⟨⟨-, b0, b1, b2⟩, -, -, -⟩, ⟨-, c0, c1, -, -⟩, -⟩ := id hB0
  clear h hs hsl
  cases hbk : bagOk m L with
  | false =>
    rw [hbk] at cb
    clear hno hbk cl
    go_enter Try.func11, Try.ntmps11
    go_wp2_with (go_at_call 12; refine cb.mono ?_; rintro e w1 ⟨rfl, hb1⟩; have hB1 := hB0.call hb1; obtain ⟨-, -, ⟨-, d0, d1, d2, d3⟩, -⟩ := id hB1)
    exact bodyPost_ret (v := .tuple #[.agg #[.int .i64 0, .slice none 0 0], .bool false]) (by simp [results, Try.results11, go_sem, d0, d1]) rfl ⟨rfl, (hB1.2.2.2.setCell (by show W.heap.size ≤ W.heap.size + 1 + 1; omega) _).setCell (by show W.heap.size ≤ W.heap.size + 1 + 1; omega) _⟩
  | true =>
    have hlk : letOk l.f l.t l.s.size = false := by cases hx : letOk l.f l.t l.s.size with | true => exact absurd ⟨hbk, hx⟩ hno | false => rfl
    rw [hbk] at cb
    rw [hlk] at cl
    clear hno hbk hlk
    go_enter Try.func11, Try.ntmps11
    go_wp2_with (first
      | (go_at_call 12; refine cb.mono ?_; rintro e w1 ⟨rfl, hb1⟩; have hB1 := hB0.call hb1; obtain ⟨-, ⟨⟨-, e0, e1, e2⟩, -, -, -⟩, -, -⟩ := id hB1)
      | (go_at_call 16; refine (cl _).mono ?_; rintro e w2 ⟨rfl, hb2⟩; have hB2 := hB1.call hb2; obtain ⟨-, -, ⟨-, d0, d1, d2, d3⟩, -⟩ := id hB2))
    exact bodyPost_ret (v := .tuple #[.agg #[.int .i64 0, .slice none 0 0], .bool false]) (by simp [results, Try.results11, go_sem, d0, d1]) rfl ⟨rfl, (hB2.2.2.2.setCell (by show W.heap.size ≤ W.heap.size + 1 + 1; omega) _).setCell (by show W.heap.size ≤ W.heap.size + 1 + 1; omega) _⟩

set_option maxRecDepth 20000 in
set_option maxHeartbeats 2000000 in
theorem sends_full (W : World) (m : Int) (v : Value) (L : List Lt) (l : Lt) (h : Lts W v L) (hbk : bagOk m L = true) (hlk : letOk l.f l.t l.s.size = true) (hm : m ≤ (L.length : Int)) :
    Calls Try.prog 11 #[.agg #[.int .i64 m, v], .agg #[.int .i64 (l).f, .int .i64 (l).t, .string (l).s]] W fun e w' => ∃ u cap, e = .returned (.tuple #[.agg #[.int .i64 m, .slice u L.length cap], .bool false]) ∧ w'.ownsRow W.heap.size 27 3 (.slice u L.length cap) L.length (lcs L) ∧ Below W.heap.size W w' := by
  obtain ⟨hs, hl64, -, -, -⟩ := bagOk_sizes hbk
  have hsl := letOk_size hlk
  have hB0 := BS.new W m v l
  have h0 := h.call hB0.2.2.2
  have cb := bagok_spec _ m v L h0 (fun l hl => by have := hs l hl; unfold maxLen; omega)
  have cl := fun V : World => letok_spec l.f l.t l.s (by unfold maxLen; omega) V
  rw [hbk] at cb
  rw [hlk] at cl
  have cc := fun (V : World) (h : Lts V v L) => l6copy_is V m v L h hl64
  have hsz0 : W.heap.size + 1 + 1 < (((W.alloc (.cells #[.int .i64 m, v] 25)).alloc (.cells #[Value.int IntKind.i64 (l).f, Value.int IntKind.i64 (l).t, Value.string (l).s] 27)).alloc (.cells #[.int .i64 0, .slice none 0 0] 25)).heap.size := hB0.2.2.1.1
  obtain ⟨oa, cap, rfl, _⟩ := h.len
  obtain ⟨⟨-, a0, a1, -, -⟩, ⟨⟨-, b0, b1, b2⟩, -, -, -⟩, ⟨-, c0, c1, -, -⟩, -⟩ := id hB0
  clear h hbk hlk hs
  go_enter Try.func11, Try.ntmps11
  go_wp2_with (first
    | (go_at_call 12; refine cb.mono ?_; rintro e w1 ⟨rfl, hb1⟩; have hB1 := hB0.call hb1; have hT1 := h0.call hb1; have hs1 := hb1.size; obtain ⟨-, ⟨⟨-, e0, e1, e2⟩, -, -, -⟩, -, -⟩ := id hB1; clear cb hb1)
    | (go_at_call 16; refine (cl _).mono ?_; rintro e w2 ⟨rfl, hb2⟩; have hB2 := hB1.call hb2; have hT2 := hT1.call hb2; have hs2 := hb2.size; obtain ⟨⟨-, i0, i1, -, -⟩, ⟨⟨-, j0, j1, j2⟩, -, -, -⟩, -, -⟩ := id hB2; clear cl hb2 hT1 hB1)
    | (go_at_call 40; refine (cc _ hT2).mono ?_; rintro e w3 ⟨u3, q3, rfl, ho3, hb3⟩; have hB3 := hB2.call hb3; have hs3 := hb3.size; have hB4 := hB3.call ((Below.refl _ _).alloc (Nat.le_refl _) (.cells #[.int .i64 m, .slice u3 L.length q3] 25)); obtain ⟨-, -, ⟨-, d0, d1, d2, d3⟩, -⟩ := id hB4; clear cc hb3 hB2 hT2))
  refine bodyPost_ret (v := .tuple #[.agg #[.int .i64 m, .slice u3 L.length q3], .bool false]) (by simp [results, Try.results11, go_sem, d0, d1]) rfl ⟨_, _, rfl, ?_, (hB4.2.2.2.setCell (by show W.heap.size ≤ W.heap.size + 1 + 1; omega) _).setCell (by show W.heap.size ≤ W.heap.size + 1 + 1; omega) _⟩
  have g1 := (grown_set (w3.alloc (.cells #[.int .i64 m, .slice u3 L.length q3] 25)) (W.heap.size + 1 + 1) 0 (.int .i64 m)).trans2 (grown_set _ (W.heap.size + 1 + 1) 1 (.slice u3 L.length q3))
  exact (own_down (ho3.alloc _) (by omega)).kept g1 (.inr (fun e => by have := (ho3.lt _ e).1; omega))

set_option maxRecDepth 20000 in
set_option maxHeartbeats 2000000 in
theorem sends_room (W : World) (m : Int) (v : Value) (L : List Lt) (l : Lt) (h : Lts W v L) (hbk : bagOk m L = true) (hlk : letOk l.f l.t l.s.size = true) (hm : (L.length : Int) < m) :
    Calls Try.prog 11 #[.agg #[.int .i64 m, v], .agg #[.int .i64 (l).f, .int .i64 (l).t, .string (l).s]] W fun e w' => ∃ u cap, e = .returned (.tuple #[.agg #[.int .i64 m, .slice u (L ++ [l]).length cap], .bool true]) ∧ w'.ownsRow W.heap.size 27 3 (.slice u (L ++ [l]).length cap) (L ++ [l]).length (lcs (L ++ [l])) ∧ Below W.heap.size W w' := by
  rw [show (L ++ [l]).length = L.length + 1 from by simp]
  obtain ⟨hs, hl64, -, -, -⟩ := bagOk_sizes hbk
  have hsl := letOk_size hlk
  have hB0 := BS.new W m v l
  have h0 := h.call hB0.2.2.2
  have cb := bagok_spec _ m v L h0 (fun l hl => by have := hs l hl; unfold maxLen; omega)
  have cl := fun V : World => letok_spec l.f l.t l.s (by unfold maxLen; omega) V
  rw [hbk] at cb
  rw [hlk] at cl
  have cc := fun (V : World) (h : Lts V v L) => l6copy_is V m v L h hl64
  have hsz0 : W.heap.size + 1 + 1 < (((W.alloc (.cells #[.int .i64 m, v] 25)).alloc (.cells #[Value.int IntKind.i64 (l).f, Value.int IntKind.i64 (l).t, Value.string (l).s] 27)).alloc (.cells #[.int .i64 0, .slice none 0 0] 25)).heap.size := hB0.2.2.1.1
  obtain ⟨oa, cap, rfl, _⟩ := h.len
  obtain ⟨⟨-, a0, a1, -, -⟩, ⟨⟨-, b0, b1, b2⟩, -, -, -⟩, ⟨-, c0, c1, -, -⟩, -⟩ := id hB0
  clear h hbk hlk hs
  go_enter Try.func11, Try.ntmps11
  go_wp2_with (first
    | (go_at_call 12; refine cb.mono ?_; rintro e w1 ⟨rfl, hb1⟩; have hB1 := hB0.call hb1; have hT1 := h0.call hb1; have hs1 := hb1.size; obtain ⟨-, ⟨⟨-, e0, e1, e2⟩, -, -, -⟩, -, -⟩ := id hB1; clear cb hb1)
    | (go_at_call 16; refine (cl _).mono ?_; rintro e w2 ⟨rfl, hb2⟩; have hB2 := hB1.call hb2; have hT2 := hT1.call hb2; have hs2 := hb2.size; obtain ⟨⟨-, i0, i1, -, -⟩, ⟨⟨-, j0, j1, j2⟩, -, -, -⟩, -, -⟩ := id hB2; clear cl hb2 hT1 hB1)
    | (go_at_call 40; refine (cc _ hT2).mono ?_; rintro e w3 ⟨u3, q3, rfl, ho3, hb3⟩; have hB3 := hB2.call hb3; have hs3 := hb3.size; have hC3 := (C2.new w3 (.int .i64 m) (.slice u3 L.length q3) 25).alloc (.cells #[Value.int IntKind.i64 (l).f, Value.int IntKind.i64 (l).t, Value.string (l).s] 27); have hB4 := (hB3.call ((Below.refl _ _).alloc (Nat.le_refl _) (.cells #[.int .i64 m, .slice u3 L.length q3] 25))).call ((Below.refl _ _).alloc (Nat.le_refl _) (.cells #[Value.int IntKind.i64 (l).f, Value.int IntKind.i64 (l).t, Value.string (l).s] 27)); obtain ⟨-, ⟨⟨-, k0, k1, k2⟩, -, -, -⟩, -, -⟩ := id (hB3.call ((Below.refl _ _).alloc (Nat.le_refl _) (.cells #[.int .i64 m, .slice u3 L.length q3] 25))); clear cc hb3 hB2 hT2)
    | (at_builtin; refine wpList_append_letA rfl _ _ rfl w2.heap.size (.slice u3 L.length q3) L l rfl ((ho3.alloc _).alloc _) (w3.heap.size + 1) rfl (lc_cells (by simp [go_sem]) (by simp [go_sem]) (by simp [go_sem])) (by omega) (by simp; omega) ?_; intro gc cp w4 ho4 hg4 hat4; have hN5 : (Value.slice (some ⟨gc, 0, none⟩) (L.length + 1) cp).ownBlock ≠ some w3.heap.size := (fun e => by (have e' : gc = w3.heap.size := (by simpa [Value.ownBlock] using e)); subst e'; exact hat4.elim (fun h4 => absurd (ho3.lt _ h4).2 (Nat.lt_irrefl _)) (fun h4 => by simp only [World.size_alloc] at h4; omega)); clear hat4; obtain ⟨p0, p1, p2, p3, p4⟩ := hC3.grown hg4 (fun e => by have := (ho3.lt _ e).2; omega); obtain ⟨d, d0, d1, d2, d3⟩ := hB4.2.2.1.grown hg4 (fun e => by have := (ho3.lt _ e).1; omega); have hb5 := hB4.2.2.2.grown hg4 hB4.2.2.2.size (fun j e => by have := (ho3.lt _ e).1; omega)))
  refine bodyPost_ret (v := .tuple #[.agg #[.int .i64 m, .slice (some ⟨gc, 0, none⟩) (L.length + 1) cp], .bool true]) (by simp [results, Try.results11, go_sem, d0, d1]) rfl ⟨_, _, rfl, ?_, ((hb5.setCell (by show W.heap.size ≤ w3.heap.size; omega) _).setCell (by show W.heap.size ≤ W.heap.size + 1 + 1; omega) _).setCell (by show W.heap.size ≤ W.heap.size + 1 + 1; omega) _⟩
  have n5 : ∀ j, j < w2.heap.size → (Value.slice (some ⟨gc, 0, none⟩) (L.length + 1) cp).ownBlock ≠ some j := fun j hj e => by have := (ho4.lt _ e).1; omega
  have g1 := (grown_set (w4.setCell ⟨w3.heap.size, 1, none⟩ (.slice (some ⟨gc, 0, none⟩) (L.length + 1) cp)) (W.heap.size + 1 + 1) 0 (.int .i64 m)).trans2 (grown_set _ (W.heap.size + 1 + 1) 1 (.slice (some ⟨gc, 0, none⟩) (L.length + 1) cp))
  have o5 := ho4.kept (grown_set w4 w3.heap.size 1 (.slice (some ⟨gc, 0, none⟩) (L.length + 1) cp)) (.inr hN5)
  exact (own_down o5 (by omega)).kept g1 (.inr (n5 _ (by omega)))
/-- BagSend of the document, wherever it comes to. -/
theorem bsend_spec (W : World) (m : Int) (v : Value) (L : List Lt) (l : Lt) (h : Lts W v L) (hs : ∀ l ∈ L, l.s.size ≤ maxLen) (hsl : l.s.size ≤ maxLen) :
    Calls Try.prog 11 #[.agg #[.int .i64 m, v], .agg #[.int .i64 (l).f, .int .i64 (l).t, .string (l).s]] W fun e w' => ∃ u cap, e = .returned (.tuple #[.agg #[.int .i64 (bsend m L l).1, .slice u (bsend m L l).2.1.length cap], .bool (bsend m L l).2.2]) ∧ w'.ownsRow W.heap.size 27 3 (.slice u (bsend m L l).2.1.length cap) (bsend m L l).2.1.length (lcs (bsend m L l).2.1) ∧ Below W.heap.size W w' := by
  by_cases hok : bagOk m L = true ∧ letOk l.f l.t l.s.size = true
  · by_cases hm : (L.length : Int) < m
    · have e : bsend m L l = (m, L ++ [l], true) := by unfold bsend; rw [if_pos hok, if_pos hm]
      rw [e]
      exact sends_room W m v L l h hok.1 hok.2 hm
    · have e : bsend m L l = (m, L, false) := by unfold bsend; rw [if_pos hok, if_neg hm]
      rw [e]
      exact sends_full W m v L l h hok.1 hok.2 (by omega)
  · have e : bsend m L l = (0, [], false) := by unfold bsend; rw [if_neg hok]
    rw [e]
    exact (sends_out W m v L l h hs hsl hok).mono (fun e w' ⟨he, hb⟩ => ⟨none, 0, he, World.ownsRow_nil _ _ _ _, hb⟩)
end Go.Proofs.Ytiipfedjjhpbpaa
