/-
  One letter more in a network.
-/
import Derived.Test.YtiipfedjjhpbpaaNet2
import Derived.Deep.RegionLawGrows
namespace Go.Proofs.Ytiipfedjjhpbpaa
open Go.RowKit

theorem grown_any {W W' : World} (hb : Below W.heap.size W W') (r : Option Nat) : W.grownBy W' r := ⟨hb.os, hb.tape, hb.output, hb.size, fun k hk _ => hb.block k hk⟩
theorem _root_.Go.World.grownBy.trans2 {W W1 W2 : World} {r : Option Nat} (h : W.grownBy W1 r) (h' : W1.grownBy W2 r) : W.grownBy W2 r := grown_trans h h'
theorem _root_.Go.World.grownBy.widen {W W1 : World} (h : W.grownBy W1 none) (r : Option Nat) : W.grownBy W1 r := ⟨h.os, h.tape, h.output, h.size, fun k hk _ => h.block k hk (fun e => by cases e)⟩
theorem first_is (oa : Option Addr) (n cap : Nat) (h : n ≤ cap) (hc : cap ≤ maxLen) (hn : oa = none → cap = 0) (w : World) :
    Calls Try.prog 59 #[.slice oa n cap, .int .i64 (n : Int)] w fun e w' => e = .returned (.slice oa n n) ∧ w' = w := by
  unfold maxLen at hc
  have h0 : (0 : Int) ≤ (n : Int) := by omega
  have h1 : (n : Int) ≤ (cap : Int) := by omega
  cases oa with
  | none =>
    obtain rfl := hn rfl
    obtain rfl : n = 0 := by omega
    go_enter Try.func59, Try.ntmps59
    go_wp2
    go_ret
    exact ⟨rfl, rfl⟩
  | some a =>
    clear hn
    go_enter Try.func59, Try.ntmps59
    go_wp2
    all_goals go_ret
    all_goals exact ⟨by first | rfl | simp, rfl⟩
set_option maxRecDepth 20000 in
set_option maxHeartbeats 1000000 in
theorem put_full (N : Nat) (k m c : Int) (oa : Option Addr) (n cap : Nat) (f t : Int) (s : ByteArray) (w : World) (h : Nw N k m (.slice oa n cap) c w) (_hn : n ≤ 1048576) (hm : m ≤ (n : Int)) (hc : 0 ≤ c ∧ c ≤ 1000) :
    Calls Try.prog 58 #[.pointer (some ⟨N, 0, none⟩), .agg #[.int .i64 f, .int .i64 t, .string s]] w fun e w' => e = .returned (.tuple #[]) ∧ Nw N k m (.slice oa n cap) (c + 1) w' ∧ w.grownBy w' (some N) := by
  have h1 := h.call ((Below.refl _ w).alloc (Nat.le_refl _) (.cells #[.int .i64 f, .int .i64 t, .string s] 27))
  obtain ⟨-, ⟨x0, x1, x2, x3, x4⟩, f0, f3, f4⟩ := id h1
  have ca := fun (W : World) (h : Nw N k m (.slice oa n cap) c W) => aadd_is N c W h.2.1.2.2.2.2 h.2.2.2.2 hc
  go_enter Try.func58, Try.ntmps58
  go_wp2_with fail
  go_region_held3 (fun w' => w'.cell? ⟨N, 2, none⟩ = some (.int .i64 m) ∧ w'.cell? ⟨N, 3, none⟩ = some (.slice oa n cap)) ((refine ⟨?_, ?_⟩ <;> assumption)) (fail)
  go_wp2_with (go_at_call 66; refine (ca _ (h1.call (Below.refl _ _).drew)).mono ?_; rintro e w1 ⟨rfl, hw⟩; subst hw)
  have g1 := grown_trans (World.grownBy_alloc w (.cells #[.int .i64 f, .int .i64 t, .string s] 27) (some N)) (grown_set _ N 4 (.int .i64 (c + 1)))
  exact bodyPost_ret (results_none rfl _ _ _) rfl ⟨rfl, (h1.lost (c + 1)).call (Below.refl _ _).drew, ⟨g1.os, g1.tape, g1.output, g1.size, g1.block⟩⟩
/-- What a row of letters holds, cell by cell. -/
def Rows3 (W : World) (oa : Option Addr) (L : List Lt) : Prop := ∀ b, oa = some b → b.block < W.heap.size ∧ ∀ j u, (lcs L)[j]? = some u → W.cell? (b.add j) = some u
theorem Rows3.call {W W' : World} {oa : Option Addr} {L : List Lt} (h : Rows3 W oa L) (hb : Below W.heap.size W W') : Rows3 W' oa L := fun b e => by
  obtain ⟨h1, h2⟩ := h b e
  exact ⟨Nat.lt_of_lt_of_le h1 hb.size, fun j u hu => (hb.cell (p := b.add j) (by rw [add_block]; exact h1)).trans (h2 j u hu)⟩
theorem Rows3.of {W : World} {base n cap : Nat} {oa : Option Addr} {L : List Lt} (h : W.ownsRow base 27 3 (.slice oa n cap) n (lcs L)) : Rows3 W oa L := fun b e => by
  subst e
  rcases id h.2 with ⟨h0, _⟩ | ⟨g, cap', cur, hv, _, hh, _⟩
  · cases h0
  · injection hv with e1 _ _
    injection e1 with e1
    subst e1
    exact ⟨(Array.getElem?_eq_some_iff.1 hh).1, fun j u hu => h.cells (g := g) (by rfl) j u hu⟩
set_option maxRecDepth 20000 in
set_option maxHeartbeats 2000000 in
theorem put_room (N : Nat) (k m c : Int) (oa : Option Addr) (cap : Nat) (L : List Lt) (f t : Int) (s : ByteArray) (w : World) (h : Nw N k m (.slice oa L.length cap) c w) (hr : Rows3 w oa L) (hcap : L.length ≤ cap) (hcm : cap ≤ maxLen) (hno : oa = none → cap = 0) (hn : L.length ≤ 1048576) (hm : (L.length : Int) < m) (hs : s.size ≤ 1048576) :
    Calls Try.prog 58 #[.pointer (some ⟨N, 0, none⟩), .agg #[.int .i64 f, .int .i64 t, .string s]] w fun e w' => e = .returned (.tuple #[]) ∧ ∃ u, Nw N k m u c w' ∧ u.ownBlock ≠ some N ∧ w'.ownsRow w.heap.size 27 3 u (L.length + 1) (lcs (L ++ [⟨f, t, s⟩])) ∧ w.grownBy w' (some N) := by
  obtain ⟨i0, hi, hz0, hz1, hz2⟩ := info_parts infoL
  have hb0 : Below w.heap.size w (w.alloc (.cells #[.int .i64 f, .int .i64 t, .string s] 27)) := (Below.refl _ w).alloc (Nat.le_refl _) _
  have h1 := h.call hb0
  have r1 := hr.call hb0
  have b1 : L3 w.heap.size f t s (w.alloc (.cells #[.int .i64 f, .int .i64 t, .string s] 27)) := L3.new w f t s _
  obtain ⟨-, ⟨x0, x1, x2, x3, x4⟩, f0, f3, f4⟩ := id h1
  obtain ⟨⟨-, y0, y1, y2⟩, -, -, -⟩ := id b1
  have cf := fun W : World => first_is oa L.length cap hcap hcm hno W
  have co := fun W : World => ownlet_is f t s W hs
  have hN := h.1
  have hlt : ¬ m ≤ (L.length : Int) := by omega
  have hnone : oa = none → L.length = 0 ∧ L.length = 0 := fun e => by have := hno e; omega
  obtain ⟨n, hnn⟩ : ∃ n, n = L.length := ⟨_, rfl⟩
  have HNN : Hid (n = L.length) := hnn
  have hls := lcs_len L
  rw [← hnn] at x3 cf hlt hnone hn hls h1 ⊢
  clear h hr hnn hcap hno hcm hm
  go_enter Try.func58, Try.ntmps58
  go_wp2_with fail
  go_region_held3 (fun w' => w'.cell? ⟨N, 2, none⟩ = some (.int .i64 m) ∧ w'.cell? ⟨N, 3, none⟩ = some (.slice oa n cap)) ((refine ⟨?_, ?_⟩ <;> assumption)) (fail)
  go_wp2_with fail
  go_region_law (first
    | (go_simp; go_at_call 59; refine (cf _).mono ?_; rintro e w1 ⟨rfl, hw⟩; subst hw; go_simp)
    | (go_simp; go_at_call 55; refine (co _).mono ?_; rintro e w2 ⟨rfl, hb2⟩; have g2 := below_after hb0 (((Below.refl _ _).drew.drew).trans hb2) hb0.size; have h2 := (h1.call ((Below.refl _ _).drew.drew)).call hb2; have r2 := (r1.call ((Below.refl _ _).drew.drew)).call hb2; obtain ⟨-, ⟨-, -, -, z3, -⟩, -, z3f, -⟩ := id h2; go_simp)
    | (refine step_append_grows rfl (.tmp 28) (.tmp 31) 23 rfl 27 i0 _ 3 32 Try.underlying23 hi hz0 hz1 hz2 rfl (by decide) oa n n (lcs L) (by simp [Act.eval]) hnone hls (fun b e => ((r2.call ((Below.refl _ _).alloc (Nat.le_refl _) _)) b e).2) ⟨w2.heap.size, 0, none⟩ 1 1 (lc ⟨f, t, s⟩) (by simp [Act.eval]) rfl (lc_cells (by simp [go_sem]) (by simp [go_sem]) (by simp [go_sem])) lc_one (by omega) (by unfold maxLen; omega) (by omega) ?_; intro v' w3 ho3 hg3; obtain ⟨oc, cq, hv3⟩ := owl_len ho3; subst hv3; have h3 := (h2.call ((Below.refl _ _).alloc (Nat.le_refl _) _)).grown hg3 (fun e => by cases e); obtain ⟨-, ⟨-, -, -, q3, -⟩, -, q3f, -⟩ := id h3))
  all_goals go_end0
  all_goals
    have hsN : N < w2.heap.size := h2.1
    have ne : (Value.slice oc (n + 1) cq).ownBlock ≠ some N := fun e => by
      have := (ho3.lt _ e).1
      simp only [World.size_alloc] at this
      omega
    have g4 := (grown_any g2 (some N)).trans2 ((World.grownBy_alloc w2 (.cells (lc ⟨f, t, s⟩).toArray 27) (some N)).trans2 (hg3.widen (some N)))
    refine ⟨rfl, _, h3.slice _, ne, ?_, grown_trans g4 (grown_set w3 N 3 _)⟩
    have o4 := (own_down (b := w.heap.size) ho3 (by have := g2.size; simp only [World.size_alloc]; omega)).kept (grown_set w3 N 3 (.slice oc (n + 1) cq)) (.inr ne)
    rw [lcs_append]
    have e5 : lcs [(⟨f, t, s⟩ : Lt)] = lc ⟨f, t, s⟩ := by simp [lcs]
    rw [e5]
    exact o4
end Go.Proofs.Ytiipfedjjhpbpaa
