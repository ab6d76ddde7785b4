/-
  l1Many, pad and DrawClashOk, walked: whatever is drawn.
-/
import Derived.Test.YtnaaeooieljkmaaDraw1
import Derived.Test.YtnaaeooieljkmaaMany
namespace Go.Proofs.Ytnaaeooieljkmaa
open Go.RowKit

set_option maxRecDepth 20000 in
set_option maxHeartbeats 1000000 in
theorem pad_is (B : Nat) (v : Value) (L : List UInt8) (p : Nat) (W : World) (h : RdAt B v L p W) (hp8 : p ≤ 900000) (s : ByteArray) (hs : s.size ≤ 200) :
    Calls Try.prog 18 #[.pointer (some ⟨B, 0, none⟩), .string s] W fun e w' => ∃ S : ByteArray, S.size ≤ 201 ∧ e = .returned (.string S) ∧ RdAt B v L (p + 1) w' ∧ W.grownBy w' (some B) := by
  have hw1 : IntKind.i64.wrap ((s.size : Int) + 1) = (s.size : Int) + 1 := IntWalk.i64_in _ (by omega)
  have c1 := pick_is B v L p W h (by omega) ((s.size : Int) + 1) (by omega) (by omega)
  clear h
  go_enter Try.func18, Try.ntmps18
  go_wp2_with (go_at_call 16; refine c1.mono ?_; rintro e w1 ⟨k, hk, rfl, hR1, hg1⟩)
  have hk0 : (0 : Int) ≤ (k : Int) := by omega
  have hkS : (k : Int) ≤ (s.size : Int) := by omega
  have z1 : (s.extract 0 k).size ≤ 200 := ext_le _ _ _ _ hs
  have z2 : (s.extract k s.size).size ≤ 200 := ext_le _ _ _ _ hs
  have a1 := fun W' : World => add_ok (s.extract 0 k) (str [255]) (Nat.le_trans z1 (by decide)) (str_le _ _ (by simp)) W'
  have a2 := fun W' : World => add_ok (s.extract 0 k ++ str [255]) (s.extract k s.size) (app_le _ _ 200 1 1000 z1 (str_le _ _ (by simp)) (by decide)) (Nat.le_trans z2 (by decide)) W'
  have hcv := fun (W' : World) (b : Nat) (h : W'.cell? ⟨b, 0, none⟩ = some (.int .u8 255)) => run_str_one W' b 255 h
  have HZ : Hid ((s.extract 0 k ++ str [255] ++ s.extract k s.size).size ≤ 201) := by
    have e1 : (s.extract 0 k).size + (s.extract k s.size).size ≤ s.size := by rw [ByteArray.size_extract, ByteArray.size_extract]; omega
    have e2 : (str ([255] : List UInt8)).size ≤ 1 := str_le _ _ (by simp)
    show _ ≤ _
    rw [ByteArray.size_append, ByteArray.size_append]
    omega
  clear z1 z2
  go_region
  all_goals (go_wp2_with fail)
  all_goals go_ret
  all_goals first
    | exact ⟨_, HZ.out, rfl, (hR1.grown (World.grownBy_alloc w1 _ none)).drew, grown_drew (hg1.trans (World.grownBy_alloc w1 _ _))⟩
    | exact ⟨_, HZ.out, rfl, hR1.drew.grown (World.grownBy_alloc w1.drew _ none), (grown_drew hg1).trans (World.grownBy_alloc w1.drew _ _)⟩

/-- The block B holds two texts that may be written over. -/
def Box2 (B : Nat) (W : World) : Prop := B < W.heap.size ∧ (∃ x, W.cell? ⟨B, 0, none⟩ = some x) ∧ (∃ x, W.cell? ⟨B, 1, none⟩ = some x) ∧ W.frozen? ⟨B, 0, none⟩ = false ∧ W.frozen? ⟨B, 1, none⟩ = false
theorem Box2.call {B : Nat} {W W' : World} (h : Box2 B W) (hb : Below W.heap.size W W') : Box2 B W' := by
  obtain ⟨h0, ⟨x, hx⟩, ⟨y, hy⟩, f0, f1⟩ := h
  exact ⟨Nat.lt_of_lt_of_le h0 hb.size, ⟨x, (hb.cell h0).trans hx⟩, ⟨y, (hb.cell h0).trans hy⟩, (hb.frozen h0).trans f0, (hb.frozen h0).trans f1⟩
theorem Box2.far {b B : Nat} {W W' : World} (h : Box2 b W) (g : W.grownBy W' (some B)) (hne : b ≠ B) : Box2 b W' := by
  obtain ⟨h0, ⟨x, hx⟩, ⟨y, hy⟩, f0, f1⟩ := h
  have ne : some b ≠ some B := fun e => hne (by simpa using e)
  exact ⟨Nat.lt_of_lt_of_le h0 g.size, ⟨x, g.cell hx ne⟩, ⟨y, g.cell hy ne⟩, (g.frozen_far _ h0 ne).trans f0, (g.frozen_far _ h0 ne).trans f1⟩
theorem two_set {w : World} {b : Nat} {x0 x1 : Value} (h : Box2 b w) : ((w.setCell ⟨b, 0, none⟩ x0).setCell ⟨b, 1, none⟩ x1).cell? ⟨b, 0, none⟩ = some x0 ∧ ((w.setCell ⟨b, 0, none⟩ x0).setCell ⟨b, 1, none⟩ x1).cell? ⟨b, 1, none⟩ = some x1 := by
  obtain ⟨h0, ⟨x, hx⟩, ⟨y, hy⟩, f0, f1⟩ := h
  refine ⟨?_, ?_⟩
  · rw [set_off (by omega), set_same (by rw [hx]; rfl)]
  · rw [set_same (by rw [set_off (by omega), hy]; rfl)]

end Go.Proofs.Ytnaaeooieljkmaa
