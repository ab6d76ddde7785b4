/-
  BagDouble of the document.
-/
import Derived.Test.YtiipfedjjhpbpaaDbl2
import Derived.Test.YtiipfedjjhpbpaaSend6
namespace Go.Proofs.Ytiipfedjjhpbpaa
open Go.RowKit

set_option maxRecDepth 20000 in
set_option maxHeartbeats 2000000 in
theorem sdbl_out (W : World) (m : Int) (v : Value) (L : List Lt) (k : Int) (h : Lts W v L) (hs : ∀ l ∈ L, l.s.size ≤ maxLen) (hno : bagOk m L = false) :
    Calls Try.prog 19 #[.agg #[.int .i64 m, v], .int .i64 k] W fun e w' => e = .returned (.tuple #[.agg #[.int .i64 0, .slice none 0 0], .bool false]) ∧ Below W.heap.size W w' := by
  have hB0 := B2.new W m v
  have cb := bagok_spec _ m v L (h.call hB0.2.2) hs
  obtain ⟨oa, cap, rfl, _⟩ := h.len
  obtain ⟨⟨-, a0, a1, -, -⟩, ⟨-, c0, c1, -, -⟩, -⟩ := id hB0
  clear h hs
  rw [hno] at cb
  go_enter Try.func19, Try.ntmps19
  go_wp2_with (go_at_call 12; refine cb.mono ?_; rintro e w1 ⟨rfl, hb1⟩; have hB1 := hB0.call hb1; obtain ⟨-, ⟨-, d0, d1, d2, d3⟩, -⟩ := id hB1)
  exact bodyPost_ret (v := .tuple #[.agg #[.int .i64 0, .slice none 0 0], .bool false]) (by simp [results, Try.results19, go_sem, d0, d1]) rfl ⟨rfl, (hB1.2.2.setCell (by show W.heap.size ≤ W.heap.size + 1; omega) _).setCell (by show W.heap.size ≤ W.heap.size + 1; omega) _⟩
set_option maxRecDepth 20000 in
set_option maxHeartbeats 2000000 in
/-- Nothing to be doubled, or no room. -/
theorem sdbl_same (W : World) (m : Int) (v : Value) (L : List Lt) (k : Int) (h : Lts W v L) (hbk : bagOk m L = true) (hm : L.length = 0 ∨ m ≤ (L.length : Int)) :
    Calls Try.prog 19 #[.agg #[.int .i64 m, v], .int .i64 k] W fun e w' => ∃ u cap, e = .returned (.tuple #[.agg #[.int .i64 m, .slice u L.length cap], .bool false]) ∧ w'.ownsRow W.heap.size 27 3 (.slice u L.length cap) L.length (lcs L) ∧ Below W.heap.size W w' := by
  obtain ⟨hs, hl64, -, -, -⟩ := bagOk_sizes hbk
  have hB0 := B2.new W m v
  have h0 := h.call hB0.2.2
  have cb := bagok_spec _ m v L h0 (fun l hl => by have := hs l hl; unfold maxLen; omega)
  rw [hbk] at cb
  have cc := fun (V : World) (h : Lts V v L) => l6copy_is V m v L h hl64
  obtain ⟨oa, cap, rfl, _⟩ := h.len
  obtain ⟨⟨-, a0, a1, -, -⟩, ⟨-, c0, c1, -, -⟩, -⟩ := id hB0
  have hsz0 : W.heap.size + 1 < ((W.alloc (.cells #[.int .i64 m, .slice oa L.length cap] 25)).alloc (.cells #[.int .i64 0, .slice none 0 0] 25)).heap.size := hB0.2.1.1
  have harm : ∀ (w1 w3 : World) (u3 : Option Addr) (q3 : Nat), B2 W m (.slice oa L.length cap) w1 → w1.heap.size ≤ w3.heap.size → w3.ownsRow w1.heap.size 27 3 (.slice u3 L.length q3) L.length (lcs L) → B2 W m (.slice oa L.length cap) (w3.alloc (.cells #[.int .i64 m, .slice u3 L.length q3] 25)) →
      (((w3.alloc (.cells #[.int .i64 m, .slice u3 L.length q3] 25)).setCell ⟨W.heap.size + 1, 0, none⟩ (.int .i64 m)).setCell ⟨W.heap.size + 1, 1, none⟩ (.slice u3 L.length q3)).ownsRow W.heap.size 27 3 (.slice u3 L.length q3) L.length (lcs L) ∧ Below W.heap.size W (((w3.alloc (.cells #[.int .i64 m, .slice u3 L.length q3] 25)).setCell ⟨W.heap.size + 1, 0, none⟩ (.int .i64 m)).setCell ⟨W.heap.size + 1, 1, none⟩ (.slice u3 L.length q3)) := fun w1 w3 u3 q3 hB1 hs3 ho3 hB4 => by
    have hw1 : W.heap.size + 1 < w1.heap.size := hB1.2.1.1
    have g1 := (grown_set (w3.alloc (.cells #[.int .i64 m, .slice u3 L.length q3] 25)) (W.heap.size + 1) 0 (.int .i64 m)).trans2 (grown_set _ (W.heap.size + 1) 1 (.slice u3 L.length q3))
    exact ⟨(own_down (ho3.alloc _) (by omega)).kept g1 (.inr (fun e => by have := (ho3.lt _ e).1; omega)), (hB4.2.2.setCell (by show W.heap.size ≤ W.heap.size + 1; omega) _).setCell (by show W.heap.size ≤ W.heap.size + 1; omega) _⟩
  clear h hbk hs hsz0
  have hm' : ((L.length : Int) == 0) = true ∨ (((L.length : Int) == 0) = false ∧ m ≤ (L.length : Int)) := by
    by_cases hz : L.length = 0
    · exact .inl (by rw [hz]; rfl)
    · exact .inr ⟨by rw [beq_eq_false_iff_ne]; omega, by omega⟩
  clear hm
  rcases hm' with hz | ⟨hz, hm⟩
  · go_enter Try.func19, Try.ntmps19
    go_wp2_with (first
      | (go_at_call 12; refine cb.mono ?_; rintro e w1 ⟨rfl, hb1⟩; have hB1 := hB0.call hb1; have hT1 := h0.call hb1; obtain ⟨⟨-, e0, e1, -, -⟩, -, -⟩ := id hB1; clear cb hb1)
      | (go_at_call 40; refine (cc _ hT1).mono ?_; rintro e w3 ⟨u3, q3, rfl, ho3, hb3⟩; have hs3 := hb3.size; have hB3 := hB1.call hb3; have hB4 := hB3.call ((Below.refl _ _).alloc (Nat.le_refl _) (.cells #[.int .i64 m, .slice u3 L.length q3] 25)); obtain ⟨-, ⟨-, d0, d1, d2, d3⟩, -⟩ := id hB4; clear cc hb3 hT1))
    exact bodyPost_ret (v := .tuple #[.agg #[.int .i64 m, .slice u3 L.length q3], .bool false]) (by simp [results, Try.results19, go_sem, d0, d1]) rfl ⟨_, _, rfl, harm w1 w3 u3 q3 hB1 hs3 ho3 hB4⟩
  · go_enter Try.func19, Try.ntmps19
    go_wp2_with (first
      | (go_at_call 12; refine cb.mono ?_; rintro e w1 ⟨rfl, hb1⟩; have hB1 := hB0.call hb1; have hT1 := h0.call hb1; obtain ⟨⟨-, e0, e1, -, -⟩, -, -⟩ := id hB1; clear cb hb1)
      | (go_at_call 40; refine (cc _ hT1).mono ?_; rintro e w3 ⟨u3, q3, rfl, ho3, hb3⟩; have hs3 := hb3.size; have hB3 := hB1.call hb3; have hB4 := hB3.call ((Below.refl _ _).alloc (Nat.le_refl _) (.cells #[.int .i64 m, .slice u3 L.length q3] 25)); obtain ⟨-, ⟨-, d0, d1, d2, d3⟩, -⟩ := id hB4; clear cc hb3 hT1))
    exact bodyPost_ret (v := .tuple #[.agg #[.int .i64 m, .slice u3 L.length q3], .bool false]) (by simp [results, Try.results19, go_sem, d0, d1]) rfl ⟨_, _, rfl, harm w1 w3 u3 q3 hB1 hs3 ho3 hB4⟩
end Go.Proofs.Ytiipfedjjhpbpaa
