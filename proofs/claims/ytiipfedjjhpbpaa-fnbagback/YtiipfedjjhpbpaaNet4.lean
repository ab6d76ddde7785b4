/-
  A letter sent; what is in flight.
-/
import Derived.Test.YtiipfedjjhpbpaaNet3
namespace Go.Proofs.Ytiipfedjjhpbpaa
open Go.RowKit

set_option maxRecDepth 20000 in
set_option maxHeartbeats 2000000 in
theorem send_room (N : Nat) (m c : Int) (oa : Option Addr) (cap : Nat) (L : List Lt) (f t : Int) (s : ByteArray) (w : World) (h : Nw N 0 m (.slice oa L.length cap) c w) (hr : Rows3 w oa L) (hap : ∀ b, oa = some b → b.block ≠ N) (hcap : L.length ≤ cap) (hcm : cap ≤ maxLen) (hno : oa = none → cap = 0) (hn : L.length ≤ 1048576) (hm : (L.length : Int) < m) (hs : s.size ≤ 1048576) :
    Calls Try.prog 37 #[.pointer (some ⟨N, 0, none⟩), .agg #[.int .i64 f, .int .i64 t, .string s]] w fun e w' => e = .returned (.tuple #[]) ∧ ∃ u, Nw N 0 m u c w' ∧ u.ownBlock ≠ some N ∧ w'.ownsRow w.heap.size 27 3 u (L.length + 1) (lcs (L ++ [⟨f, t, s⟩])) ∧ w.grownBy w' (some N) := by
  have h0 := h.word 1
  have hb0 : Below (w.setCell ⟨N, 0, none⟩ (.int .i32 1)).heap.size (w.setCell ⟨N, 0, none⟩ (.int .i32 1)) ((w.setCell ⟨N, 0, none⟩ (.int .i32 1)).alloc (.cells #[.int .i64 f, .int .i64 t, .string s] 27)) := (Below.refl _ _).alloc (Nat.le_refl _) _
  have r0 : Rows3 (w.setCell ⟨N, 0, none⟩ (.int .i32 1)) oa L := fun b e => ⟨by simp only [World.size_setCell]; exact (hr b e).1, fun j u hu => c_set ((hr b e).2 j u hu) (by show N ≠ (b.add j).block; rw [add_block]; exact (hap b e).symm)⟩
  have cl := lock_is N m c (.slice oa L.length cap) _ (h.call ((Below.refl _ w).alloc (Nat.le_refl _) (.cells #[.int .i64 f, .int .i64 t, .string s] 27)))
  have cp := put_room N 1 m c oa cap L f t s _ (h0.call hb0) (r0.call hb0) hcap hcm hno hn hm hs
  have hNw : N < w.heap.size := h.1
  have gA := (grown_set w N 0 (.int .i32 1)).trans2 (World.grownBy_alloc (w.setCell ⟨N, 0, none⟩ (.int .i32 1)) (.cells #[.int .i64 f, .int .i64 t, .string s] 27) (some N))
  clear h hr hap hcap hno hcm hm h0 r0 hn hb0
  go_enter_defers Try.func37, Try.ntmps37
  go_wp2_with (first
    | (go_at_call 56; refine cl.mono ?_; rintro e w1 ⟨rfl, hw⟩; subst hw)
    | (go_at_call 58; refine cp.mono ?_; rintro e w2 ⟨rfl, u, h3, ne3, o3, g3⟩))
  refine leaves_cons (f := 57) (args := #[.pointer (some ⟨N, 0, none⟩)]) (by simp) (by simp [go_sem]) ?_
  refine (unlock_is N m c u .returning _ h3).mono ?_
  rintro e u' w'' ⟨rfl, rfl, rfl⟩
  refine ⟨_, results_none rfl _ _ _, rfl, u, h3.word 0, ne3, ?_, (gA.trans2 g3).trans2 (grown_set w2 N 0 _)⟩
  exact (own_down (b := w.heap.size) o3 (by simp only [World.size_alloc, World.size_setCell]; omega)).kept (grown_set w2 N 0 _) (.inr ne3)
set_option maxRecDepth 20000 in
set_option maxHeartbeats 2000000 in
theorem send_full (N : Nat) (m c : Int) (oa : Option Addr) (n cap : Nat) (f t : Int) (s : ByteArray) (w : World) (h : Nw N 0 m (.slice oa n cap) c w) (hn : n ≤ 1048576) (hm : m ≤ (n : Int)) (hc : 0 ≤ c ∧ c ≤ 1000) :
    Calls Try.prog 37 #[.pointer (some ⟨N, 0, none⟩), .agg #[.int .i64 f, .int .i64 t, .string s]] w fun e w' => e = .returned (.tuple #[]) ∧ Nw N 0 m (.slice oa n cap) (c + 1) w' ∧ w.grownBy w' (some N) := by
  have h0 := h.word 1
  have hb0 : Below (w.setCell ⟨N, 0, none⟩ (.int .i32 1)).heap.size (w.setCell ⟨N, 0, none⟩ (.int .i32 1)) ((w.setCell ⟨N, 0, none⟩ (.int .i32 1)).alloc (.cells #[.int .i64 f, .int .i64 t, .string s] 27)) := (Below.refl _ _).alloc (Nat.le_refl _) _
  have cl := lock_is N m c (.slice oa n cap) _ (h.call ((Below.refl _ w).alloc (Nat.le_refl _) (.cells #[.int .i64 f, .int .i64 t, .string s] 27)))
  have cp := put_full N 1 m c oa n cap f t s _ (h0.call hb0) hn hm hc
  have hNw : N < w.heap.size := h.1
  have gA := (grown_set w N 0 (.int .i32 1)).trans2 (World.grownBy_alloc (w.setCell ⟨N, 0, none⟩ (.int .i32 1)) (.cells #[.int .i64 f, .int .i64 t, .string s] 27) (some N))
  clear h hm h0 hn hb0 hc
  go_enter_defers Try.func37, Try.ntmps37
  go_wp2_with (first
    | (go_at_call 56; refine cl.mono ?_; rintro e w1 ⟨rfl, hw⟩; subst hw)
    | (go_at_call 58; refine cp.mono ?_; rintro e w2 ⟨rfl, h3, g3⟩))
  refine leaves_cons (f := 57) (args := #[.pointer (some ⟨N, 0, none⟩)]) (by simp) (by simp [go_sem]) ?_
  refine (unlock_is N m (c + 1) _ .returning _ h3).mono ?_
  rintro e u' w'' ⟨rfl, rfl, rfl⟩
  exact ⟨_, results_none rfl _ _ _, rfl, h3.word 0, (gA.trans2 g3).trans2 (grown_set w2 N 0 _)⟩
set_option maxRecDepth 20000 in
set_option maxHeartbeats 2000000 in
theorem bag_is (N : Nat) (m c : Int) (oa : Option Addr) (n cap : Nat) (w : World) (h : Nw N 0 m (.slice oa n cap) c w) (hcap : n ≤ cap) (hcm : cap ≤ maxLen) (hno : oa = none → cap = 0) :
    Calls Try.prog 38 #[.pointer (some ⟨N, 0, none⟩)] w fun e w' => e = .returned (.agg #[.int .i64 m, .slice oa n n]) ∧ Nw N 0 m (.slice oa n cap) c w' ∧ w.grownBy w' (some N) := by
  have h0 := h.word 1
  have hb0 : Below (w.setCell ⟨N, 0, none⟩ (.int .i32 1)).heap.size (w.setCell ⟨N, 0, none⟩ (.int .i32 1)) ((w.setCell ⟨N, 0, none⟩ (.int .i32 1)).alloc (.cells #[.int .i64 0, .slice none 0 0] 25)) := (Below.refl _ _).alloc (Nat.le_refl _) _
  have cl := lock_is N m c (.slice oa n cap) _ (h.call ((Below.refl _ w).alloc (Nat.le_refl _) (.cells #[.int .i64 0, .slice none 0 0] 25)))
  have h1 := h0.call hb0
  have hx1 := C2.new (w.setCell ⟨N, 0, none⟩ (.int .i32 1)) (.int .i64 0) (.slice none 0 0) 25
  simp only [World.size_setCell] at hx1
  have cf := fun W : World => first_is oa n cap hcap hcm hno W
  have hNw : N < w.heap.size := h.1
  have hnx : n ≤ 9223372036854775807 := by unfold maxLen at hcm; omega
  have hNo : ∀ o : Obj, Nw N 1 m (.slice oa n cap) c (((w.setCell ⟨N, 0, none⟩ (.int .i32 1)).alloc o).drew) := fun o => (h0.call ((Below.refl _ _).alloc (Nat.le_refl _) o)).call (Below.refl _ _).drew
  have hGo : ∀ o : Obj, w.grownBy ((((w.setCell ⟨N, 0, none⟩ (.int .i32 1)).alloc o).drew).setCell ⟨N, 0, none⟩ (.int .i32 0)) (some N) := fun o => by
    have g := (grown_set w N 0 (.int .i32 1)).trans2 (World.grownBy_alloc (w.setCell ⟨N, 0, none⟩ (.int .i32 1)) o (some N))
    have g2 : w.grownBy (((w.setCell ⟨N, 0, none⟩ (.int .i32 1)).alloc o).drew) (some N) := ⟨g.os, g.tape, g.output, g.size, g.block⟩
    exact g2.trans2 (grown_set _ N 0 _)
  have hS2 : ∀ o : Obj, (((w.setCell ⟨N, 0, none⟩ (.int .i32 1)).alloc o).drew).cell? ⟨N, 2, none⟩ = some (.int .i64 m) := fun o => ((h0.call ((Below.refl _ _).alloc (Nat.le_refl _) o)).call (Below.refl _ _).drew).2.1.2.2.1
  have hS3 : ∀ o : Obj, (((w.setCell ⟨N, 0, none⟩ (.int .i32 1)).alloc o).drew).cell? ⟨N, 3, none⟩ = some (.slice oa n cap) := fun o => ((h0.call ((Below.refl _ _).alloc (Nat.le_refl _) o)).call (Below.refl _ _).drew).2.1.2.2.2.1
  have h1d := h1.call (Below.refl _ _).drew
  obtain ⟨-, ⟨-, -, x2d, x3d, -⟩, -, -, -⟩ := id h1d
  obtain ⟨-, ⟨x0, x1, x2, x3, x4⟩, f0, f3, f4⟩ := id h1
  obtain ⟨-, y0, y1, y0f, y1f⟩ := id hx1
  clear h hcap hcm hno h0 hb0
  go_enter_defers Try.func38, Try.ntmps38
  go_wp2_with (go_at_call 56; refine cl.mono ?_; rintro e w1 ⟨rfl, hw⟩; subst hw)
  go_region_held3 (fun w' => w'.cell? ⟨N, 2, none⟩ = some (.int .i64 m) ∧ w'.cell? ⟨N, 3, none⟩ = some (.slice oa n cap)) ((refine ⟨?_, ?_⟩ <;> (first | (with_reducible assumption) | (with_reducible exact hS2 _) | (with_reducible exact hS3 _)))) ((first
    | (go_at_call 59; refine (cf _).mono ?_; rintro e w1 ⟨rfl, hw⟩; subst hw)))
  go_wp2_with fail
  refine leaves_cons (f := 57) (args := #[.pointer (some ⟨N, 0, none⟩)]) (by simp) (by simp [go_sem]) ?_
  refine (unlock_is N m c _ .returning _ (hNo _)).mono ?_
  rintro e u' w'' ⟨rfl, rfl, rfl⟩
  refine ⟨.agg #[.int .i64 m, .slice oa n n], ?_, rfl, (hNo _).word 0, hGo _⟩
  simp [results, Try.results38, go_sem]
end Go.Proofs.Ytiipfedjjhpbpaa
