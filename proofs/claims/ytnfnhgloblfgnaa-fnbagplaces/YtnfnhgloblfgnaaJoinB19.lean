/-
  One letter more in a network.
-/
import Derived.Test.YtnfnhgloblfgnaaNet2
import Derived.Deep.RegionLawGrows
namespace Go.Proofs.Ytnfnhgloblfgnaa
open Go.RowKit

theorem grown_any {W W' : World} (hb : Below W.heap.size W W') (r : Option Nat) : W.grownBy W' r := ⟨hb.os, hb.tape, hb.output, hb.size, fun k hk _ => hb.block k hk⟩
theorem _root_.Go.World.grownBy.trans2 {W W1 W2 : World} {r : Option Nat} (h : W.grownBy W1 r) (h' : W1.grownBy W2 r) : W.grownBy W2 r := grown_trans h h'
theorem _root_.Go.World.grownBy.widen {W W1 : World} (h : W.grownBy W1 none) (r : Option Nat) : W.grownBy W1 r := ⟨h.os, h.tape, h.output, h.size, fun k hk _ => h.block k hk (fun e => by cases e)⟩
theorem first_is (oa : Option Addr) (n cap : Nat) (h : n ≤ cap) (hc : cap ≤ maxLen) (hn : oa = none → cap = 0) (w : World) :
    Calls Try.prog 38 #[.slice oa n cap, .int .i64 (n : Int)] w fun e w' => e = .returned (.slice oa n n) ∧ w' = w := by
  unfold maxLen at hc
  have h0 : (0 : Int) ≤ (n : Int) := by omega
  have h1 : (n : Int) ≤ (cap : Int) := by omega
  cases oa with
  | none =>
    obtain rfl := hn rfl
    obtain rfl : n = 0 := by omega
    go_enter Try.func38, Try.ntmps38
    go_wp2
    go_ret
    exact ⟨rfl, rfl⟩
  | some a =>
    clear hn
    go_enter Try.func38, Try.ntmps38
    go_wp2
    all_goals go_ret
    all_goals exact ⟨by first | rfl | simp, rfl⟩
/-- What a row of letters holds, cell by cell. -/
def Rows3 (W : World) (oa : Option Addr) (L : List Lt) : Prop := ∀ b, oa = some b → b.block < W.heap.size ∧ ∀ j u, (lcs L)[j]? = some u → W.cell? (b.add j) = some u
theorem Rows3.call {W W' : World} {oa : Option Addr} {L : List Lt} (h : Rows3 W oa L) (hb : Below W.heap.size W W') : Rows3 W' oa L := fun b e => by
  obtain ⟨h1, h2⟩ := h b e
  exact ⟨Nat.lt_of_lt_of_le h1 hb.size, fun j u hu => (hb.cell (p := b.add j) (by rw [add_block]; exact h1)).trans (h2 j u hu)⟩
theorem Rows3.of {W : World} {base n cap : Nat} {oa : Option Addr} {L : List Lt} (h : W.ownsRow base 32 3 (.slice oa n cap) n (lcs L)) : Rows3 W oa L := fun b e => by
  subst e
  rcases id h.2 with ⟨h0, _⟩ | ⟨g, cap', cur, hv, _, hh, _⟩
  · cases h0
  · injection hv with e1 _ _
    injection e1 with e1
    subst e1
    exact ⟨(Array.getElem?_eq_some_iff.1 hh).1, fun j u hu => h.cells (g := g) (by rfl) j u hu⟩
end Go.Proofs.Ytnfnhgloblfgnaa

/-
  A letter sent; what is in flight.
-/
namespace Go.Proofs.Ytnfnhgloblfgnaa
open Go.RowKit

set_option maxRecDepth 20000 in
set_option maxHeartbeats 2000000 in
theorem bag_is (N : Nat) (m c : Int) (oa : Option Addr) (n cap : Nat) (w : World) (h : Nw N 0 m (.slice oa n cap) c w) (hcap : n ≤ cap) (hcm : cap ≤ maxLen) (hno : oa = none → cap = 0) :
    Calls Try.prog 26 #[.pointer (some ⟨N, 0, none⟩)] w fun e w' => e = .returned (.agg #[.int .i64 m, .slice oa n n]) ∧ Nw N 0 m (.slice oa n cap) c w' ∧ w.grownBy w' (some N) := by
  have h0 := h.word 1
  have hb0 : Below (w.setCell ⟨N, 0, none⟩ (.int .i32 1)).heap.size (w.setCell ⟨N, 0, none⟩ (.int .i32 1)) ((w.setCell ⟨N, 0, none⟩ (.int .i32 1)).alloc (.cells #[.int .i64 0, .slice none 0 0] 25)) := (Below.refl _ _).alloc (Nat.le_refl _) _
  have cl := lock_is N m c (.slice oa n cap) _ (h.call ((Below.refl _ w).alloc (Nat.le_refl _) (.cells #[.int .i64 0, .slice none 0 0] 25)))
  have h1 := h0.call hb0
  have hx1 := C2.new (w.setCell ⟨N, 0, none⟩ (.int .i32 1)) (.int .i64 0) (.slice none 0 0) 25
  simp only [World.size_setCell] at hx1
  have cf := fun W : World => first_is oa n cap hcap hcm hno W
  have hNw : N < w.heap.size := h.1
  have hnx : n ≤ 9223372036854775807 := by unfold maxLen at hcm; omega
  have hNo : ∀ o : Obj, Nw N 1 m (.slice oa n cap) c (((w.setCell ⟨N, 0, none⟩ (.int .i32 1)).alloc o).drew) := fun o => (h0.call ((Below.refl _ _).alloc (Nat.le_refl _) o)).call (Below.refl _ _).drew
  have hGo : ∀ o : Obj, w.grownBy ((((w.setCell ⟨N, 0, none⟩ (.int .i32 1)).alloc o).drew).setCell ⟨N, 0, none⟩ (.int .i32 0)) (some N) := fun o => by
    have g := (grown_set w N 0 (.int .i32 1)).trans2 (World.grownBy_alloc (w.setCell ⟨N, 0, none⟩ (.int .i32 1)) o (some N))
    have g2 : w.grownBy (((w.setCell ⟨N, 0, none⟩ (.int .i32 1)).alloc o).drew) (some N) := ⟨g.os, g.tape, g.output, g.size, g.block⟩
    exact g2.trans2 (grown_set _ N 0 _)
  have hS2 : ∀ o : Obj, (((w.setCell ⟨N, 0, none⟩ (.int .i32 1)).alloc o).drew).cell? ⟨N, 2, none⟩ = some (.int .i64 m) := fun o => ((h0.call ((Below.refl _ _).alloc (Nat.le_refl _) o)).call (Below.refl _ _).drew).2.1.2.2.1
  have hS3 : ∀ o : Obj, (((w.setCell ⟨N, 0, none⟩ (.int .i32 1)).alloc o).drew).cell? ⟨N, 3, none⟩ = some (.slice oa n cap) := fun o => ((h0.call ((Below.refl _ _).alloc (Nat.le_refl _) o)).call (Below.refl _ _).drew).2.1.2.2.2.1
  have h1d := h1.call (Below.refl _ _).drew
  obtain ⟨-, ⟨-, -, x2d, x3d, -⟩, -, -, -⟩ := id h1d
  obtain ⟨-, ⟨x0, x1, x2, x3, x4⟩, f0, f3, f4⟩ := id h1
  obtain ⟨-, y0, y1, y0f, y1f⟩ := id hx1
  clear h hcap hcm hno h0 hb0
  go_enter_defers Try.func26, Try.ntmps26
  go_wp2_with (go_at_call 35; refine cl.mono ?_; rintro e w1 ⟨rfl, hw⟩; subst hw)
  go_region_held3 (fun w' => w'.cell? ⟨N, 2, none⟩ = some (.int .i64 m) ∧ w'.cell? ⟨N, 3, none⟩ = some (.slice oa n cap)) ((refine ⟨?_, ?_⟩ <;> (first | (with_reducible assumption) | (with_reducible exact hS2 _) | (with_reducible exact hS3 _)))) ((first
    | (go_at_call 38; refine (cf _).mono ?_; rintro e w1 ⟨rfl, hw⟩; subst hw)))
  go_wp2_with fail
  refine leaves_cons (f := 36) (args := #[.pointer (some ⟨N, 0, none⟩)]) (by simp) (by simp [go_sem]) ?_
  refine (unlock_is N m c _ .returning _ (hNo _)).mono ?_
  rintro e u' w'' ⟨rfl, rfl, rfl⟩
  refine ⟨.agg #[.int .i64 m, .slice oa n n], ?_, rfl, (hNo _).word 0, hGo _⟩
  simp [results, Try.results26, go_sem]
end Go.Proofs.Ytnfnhgloblfgnaa
