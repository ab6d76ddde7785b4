/-
  Spans: which leaf is within, what a cut parts, the halves and the sides of a node, walked.
-/
import Derived.Test.YtkdgdmicnfgdjaaInts
import Derived.Deep.RegionHeld
namespace Go.Proofs.Ytkdgdmicnfgdjaa
open Go.RowKit

/-- The block B holds two numbers, and may be written. -/
def Two (B : Nat) (x y : Int) (W : World) : Prop := B < W.heap.size ∧ W.cell? ⟨B, 0, none⟩ = some (.int .i64 x) ∧ W.cell? ⟨B, 1, none⟩ = some (.int .i64 y) ∧ W.frozen? ⟨B, 0, none⟩ = false ∧ W.frozen? ⟨B, 1, none⟩ = false
theorem Two.new (w : World) (x y : Int) (t : TypeId) : Two w.heap.size x y (w.alloc (.cells #[Value.int IntKind.i64 (x : Int), Value.int IntKind.i64 (y : Int)] t)) := by
  refine ⟨by simp, ?_, ?_, ?_, ?_⟩ <;> simp [go_sem]
theorem Two.call {B n : Nat} {x y : Int} {W W' : World} (h : Two B x y W) (hb : Below n W W') (hn : B < n) (hs : W.heap.size ≤ W'.heap.size) : Two B x y W' := by
  obtain ⟨h0, h1, h2, h3, h4⟩ := h
  exact ⟨Nat.lt_of_lt_of_le h0 hs, (hb.cell (p := ⟨B, 0, none⟩) hn).trans h1, (hb.cell (p := ⟨B, 1, none⟩) hn).trans h2, (hb.frozen (p := ⟨B, 0, none⟩) hn).trans h3, (hb.frozen (p := ⟨B, 1, none⟩) hn).trans h4⟩
theorem Two.behind {B : Nat} {x y : Int} {W W' : World} (h : Two B x y W) (hb : Below W.heap.size W W') : Two B x y W' := h.call hb h.1 hb.size
theorem Two.alloc {B : Nat} {x y : Int} {W : World} (h : Two B x y W) (o : Obj) : Two B x y (W.alloc o) := h.behind ((Below.refl _ _).alloc (Nat.le_refl _) _)
theorem has_is (lo hi i : Int) (w : World) : Calls Try.prog 68 #[.agg #[.int .i64 (lo : Int), .int .i64 (hi : Int)], .int .i64 i] w fun e w' => e = .returned (.bool (decide (lo ≤ i) && decide (i < hi))) ∧ Below w.heap.size w w' := by
  by_cases h1 : lo ≤ i
  · go_enter Try.func68, Try.ntmps68
    go_wp2
    go_ret
    exact ⟨by simp [h1], (Below.refl _ _).alloc (Nat.le_refl _) _⟩
  · go_enter Try.func68, Try.ntmps68
    go_wp2
    go_ret
    exact ⟨by simp; omega, (Below.refl _ _).alloc (Nat.le_refl _) _⟩
theorem parted_is (lo hi m : Int) (w : World) : Calls Try.prog 55 #[.agg #[.int .i64 (lo : Int), .int .i64 (hi : Int)], .int .i64 m] w fun e w' => e = .returned (.bool (decide (lo < m) && decide (m < hi))) ∧ Below w.heap.size w w' := by
  by_cases h1 : lo < m
  · go_enter Try.func55, Try.ntmps55
    go_wp2
    go_ret
    exact ⟨by simp [h1], (Below.refl _ _).alloc (Nat.le_refl _) _⟩
  · go_enter Try.func55, Try.ntmps55
    go_wp2
    go_ret
    exact ⟨by simp; omega, (Below.refl _ _).alloc (Nat.le_refl _) _⟩
set_option maxRecDepth 20000 in
set_option maxHeartbeats 1000000 in
theorem halves_is (lo k hi : Nat) (hk : Hid (k = sp (hi - lo))) (h2 : 2 ≤ hi - lo) (h256 : hi ≤ 256) (hkk : lo + k < hi) (w : World) :
    Calls Try.prog 75 #[.agg #[.int .i64 (lo : Int), .int .i64 (hi : Int)]] w fun e w' => e = .returned (.tuple #[.agg #[.int .i64 (lo : Int), .int .i64 ((lo + k : Nat) : Int)], .agg #[.int .i64 ((lo + k : Nat) : Int), .int .i64 (hi : Int)]]) ∧ Below w.heap.size w w' := by
  have c := fun W : World => sp_impl (hi - lo) h2 (by omega) W
  rw [← hk.out] at c
  have hw2 : IntKind.i64.wrap ((hi : Int) - lo) = ((hi - lo : Nat) : Int) := by rw [IntWalk.i64_in _ (by omega)]; omega
  have hw4 : IntKind.i64.wrap ((lo : Int) + k) = ((lo + k : Nat) : Int) := by rw [IntWalk.i64_in _ (by omega)]; omega
  go_enter Try.func75, Try.ntmps75
  go_wp2
  have cq : ∀ W : World, Calls Try.prog 98 #[.int .i64 ((hi - lo : Nat) : Int)] W fun e w' => e = .returned (.int .i64 (k : Int)) ∧ ∃ n, w' = W.drewN n := fun W => (c W).mono fun e w' ⟨h1, h2⟩ => ⟨h1, 0, h2⟩
  go_quiet ((go_at_call 98; first | (refine Calls.quiet_of (cq _)) | (rw [hw2]; refine Calls.quiet_of (cq _)) | (simp only [hw2]; refine Calls.quiet_of (cq _))))
  go_wp2
  go_region
  go_wp2
  have e1 : ((lo : Int) + k) = ((lo + k : Nat) : Int) := by omega
  refine bodyPost_ret (v := .tuple #[.agg #[.int .i64 (lo : Int), .int .i64 ((lo + k : Int) : Int)], .agg #[.int .i64 ((lo + k : Int) : Int), .int .i64 (hi : Int)]]) (by simp [results, Try.results75, go_sem]) rfl ⟨by rw [e1], (by repeat' (first | (with_reducible exact Below.refl _ _) | (with_reducible assumption) | (with_reducible refine below_drewN ?_ _) | (with_reducible refine Below.setCell ?_ ?_ _) | (with_reducible refine Below.alloc ?_ ?_ _) | (with_reducible refine Below.drew ?_) | go_size))⟩

set_option maxRecDepth 20000 in
set_option maxHeartbeats 1000000 in
theorem sides_is (lo k hi i : Nat) (hk : Hid (k = sp (hi - lo))) (h2 : 2 ≤ hi - lo) (h256 : hi ≤ 256) (hkk : lo + k < hi) (hi' : i < hi) (w : World) :
    Calls Try.prog 38 #[.agg #[.int .i64 (lo : Int), .int .i64 (hi : Int)], .int .i64 (i : Int)] w fun e w' => e = .returned (if i < lo + k then .tuple #[.agg #[.int .i64 (lo : Int), .int .i64 ((lo + k : Nat) : Int)], .agg #[.int .i64 ((lo + k : Nat) : Int), .int .i64 (hi : Int)]] else .tuple #[.agg #[.int .i64 ((lo + k : Nat) : Int), .int .i64 (hi : Int)], .agg #[.int .i64 (lo : Int), .int .i64 ((lo + k : Nat) : Int)]]) ∧ Below w.heap.size w w' := by
  have c := fun W : World => halves_is lo k hi hk h2 h256 hkk W
  obtain ⟨m, hm⟩ : ∃ m : Nat, m = lo + k := ⟨_, rfl⟩
  rw [← hm] at c ⊢
  clear hm
  have c2 := fun W : World => has_is (m : Int) hi i W
  by_cases h : i < m
  · have hb : (decide ((m : Int) ≤ (i : Int)) && decide ((i : Int) < (hi : Int))) = false := by simp; omega
    rw [hb] at c2
    rw [if_pos h]
    go_enter Try.func38, Try.ntmps38
    go_wp2_with (first
      | (go_at_call 75; refine (c _).mono ?_; rintro e w1 ⟨rfl, hb1⟩)
      | (go_at_call 68; refine (c2 _).mono ?_; rintro e w2 ⟨rfl, hb2⟩))
    have z1 : Two (w.heap.size + 1) 0 0 (((w.alloc (.cells #[Value.int IntKind.i64 (lo : Int), Value.int IntKind.i64 (hi : Int)] 62)).alloc (.cells #[Value.int IntKind.i64 (0 : Int), Value.int IntKind.i64 (0 : Int)] 62)).alloc (.cells #[Value.int IntKind.i64 (0 : Int), Value.int IntKind.i64 (0 : Int)] 62)) := by
      have := (Two.new (w.alloc (.cells #[Value.int IntKind.i64 (lo : Int), Value.int IntKind.i64 (hi : Int)] 62)) 0 0 62).alloc (.cells #[Value.int IntKind.i64 (0 : Int), Value.int IntKind.i64 (0 : Int)] 62)
      rwa [World.size_alloc] at this
    have z2 : Two (w.heap.size + 1 + 1) 0 0 (((w.alloc (.cells #[Value.int IntKind.i64 (lo : Int), Value.int IntKind.i64 (hi : Int)] 62)).alloc (.cells #[Value.int IntKind.i64 (0 : Int), Value.int IntKind.i64 (0 : Int)] 62)).alloc (.cells #[Value.int IntKind.i64 (0 : Int), Value.int IntKind.i64 (0 : Int)] 62)) := by
      have := Two.new ((w.alloc (.cells #[Value.int IntKind.i64 (lo : Int), Value.int IntKind.i64 (hi : Int)] 62)).alloc (.cells #[Value.int IntKind.i64 (0 : Int), Value.int IntKind.i64 (0 : Int)] 62)) 0 0 62
      rwa [World.size_alloc, World.size_alloc] at this
    have y1 := (((z1.behind hb1).alloc (.cells #[Value.int IntKind.i64 (lo : Int), Value.int IntKind.i64 (m : Int)] 62)).alloc (.cells #[Value.int IntKind.i64 (m : Int), Value.int IntKind.i64 (hi : Int)] 62)).behind hb2
    have y2 := (((z2.behind hb1).alloc (.cells #[Value.int IntKind.i64 (lo : Int), Value.int IntKind.i64 (m : Int)] 62)).alloc (.cells #[Value.int IntKind.i64 (m : Int), Value.int IntKind.i64 (hi : Int)] 62)).behind hb2
    have y3 := ((Two.new w1 lo m 62).alloc (.cells #[Value.int IntKind.i64 (m : Int), Value.int IntKind.i64 (hi : Int)] 62)).behind hb2
    have y4 := (Two.new (w1.alloc (.cells #[Value.int IntKind.i64 (lo : Int), Value.int IntKind.i64 (m : Int)] 62)) m hi 62).behind hb2
    rw [World.size_alloc] at y4
    have hB : Below w.heap.size w w2 := ((((((Below.refl w.heap.size w).alloc (Nat.le_refl _) _).alloc (by simp) _).alloc (by simp; omega) _).trans (hb1.mono (by simp; omega))).alloc (by have := hb1.size; simp at this; omega) _ |>.alloc (by have := hb1.size; simp at this ⊢; omega) _).trans (hb2.mono (by have := hb1.size; simp at this ⊢; omega))
    have hs1 := hb1.size
    simp only [World.size_alloc] at hs1
    clear hb1 hb2 z1 z2
    obtain ⟨l1, a0, a1, f0, f1⟩ := y1
    obtain ⟨l2, b0, b1, g0, g1⟩ := y2
    obtain ⟨l3, p0, p1, -, -⟩ := y3
    obtain ⟨l4, q0, q1, -, -⟩ := y4
    have n12 : w.heap.size + 1 ≠ w.heap.size + 1 + 1 := by omega
    have n21 : w.heap.size + 1 + 1 ≠ w.heap.size + 1 := by omega
    have n13 : w.heap.size + 1 ≠ w1.heap.size := by omega
    have n14 : w.heap.size + 1 ≠ w1.heap.size + 1 := by omega
    go_region
    go_wp2
    refine bodyPost_ret (v := .tuple #[.agg #[.int .i64 (lo : Int), .int .i64 (m : Int)], .agg #[.int .i64 (m : Int), .int .i64 (hi : Int)]]) (by simp [results, Try.results38, go_sem, a0, a1, b0, b1]) rfl ⟨rfl, by repeat' (first | (with_reducible exact hB) | (with_reducible refine Below.setCell ?_ ?_ _) | (with_reducible refine Below.drew ?_) | go_size)⟩
  · have hb : (decide ((m : Int) ≤ (i : Int)) && decide ((i : Int) < (hi : Int))) = true := by simp; omega
    rw [hb] at c2
    rw [if_neg h]
    go_enter Try.func38, Try.ntmps38
    go_wp2_with (first
      | (go_at_call 75; refine (c _).mono ?_; rintro e w1 ⟨rfl, hb1⟩)
      | (go_at_call 68; refine (c2 _).mono ?_; rintro e w2 ⟨rfl, hb2⟩))
    have z1 : Two (w.heap.size + 1) 0 0 (((w.alloc (.cells #[Value.int IntKind.i64 (lo : Int), Value.int IntKind.i64 (hi : Int)] 62)).alloc (.cells #[Value.int IntKind.i64 (0 : Int), Value.int IntKind.i64 (0 : Int)] 62)).alloc (.cells #[Value.int IntKind.i64 (0 : Int), Value.int IntKind.i64 (0 : Int)] 62)) := by
      have := (Two.new (w.alloc (.cells #[Value.int IntKind.i64 (lo : Int), Value.int IntKind.i64 (hi : Int)] 62)) 0 0 62).alloc (.cells #[Value.int IntKind.i64 (0 : Int), Value.int IntKind.i64 (0 : Int)] 62)
      rwa [World.size_alloc] at this
    have z2 : Two (w.heap.size + 1 + 1) 0 0 (((w.alloc (.cells #[Value.int IntKind.i64 (lo : Int), Value.int IntKind.i64 (hi : Int)] 62)).alloc (.cells #[Value.int IntKind.i64 (0 : Int), Value.int IntKind.i64 (0 : Int)] 62)).alloc (.cells #[Value.int IntKind.i64 (0 : Int), Value.int IntKind.i64 (0 : Int)] 62)) := by
      have := Two.new ((w.alloc (.cells #[Value.int IntKind.i64 (lo : Int), Value.int IntKind.i64 (hi : Int)] 62)).alloc (.cells #[Value.int IntKind.i64 (0 : Int), Value.int IntKind.i64 (0 : Int)] 62)) 0 0 62
      rwa [World.size_alloc, World.size_alloc] at this
    have y1 := (((z1.behind hb1).alloc (.cells #[Value.int IntKind.i64 (lo : Int), Value.int IntKind.i64 (m : Int)] 62)).alloc (.cells #[Value.int IntKind.i64 (m : Int), Value.int IntKind.i64 (hi : Int)] 62)).behind hb2
    have y2 := (((z2.behind hb1).alloc (.cells #[Value.int IntKind.i64 (lo : Int), Value.int IntKind.i64 (m : Int)] 62)).alloc (.cells #[Value.int IntKind.i64 (m : Int), Value.int IntKind.i64 (hi : Int)] 62)).behind hb2
    have y3 := ((Two.new w1 lo m 62).alloc (.cells #[Value.int IntKind.i64 (m : Int), Value.int IntKind.i64 (hi : Int)] 62)).behind hb2
    have y4 := (Two.new (w1.alloc (.cells #[Value.int IntKind.i64 (lo : Int), Value.int IntKind.i64 (m : Int)] 62)) m hi 62).behind hb2
    rw [World.size_alloc] at y4
    have hB : Below w.heap.size w w2 := ((((((Below.refl w.heap.size w).alloc (Nat.le_refl _) _).alloc (by simp) _).alloc (by simp; omega) _).trans (hb1.mono (by simp; omega))).alloc (by have := hb1.size; simp at this; omega) _ |>.alloc (by have := hb1.size; simp at this ⊢; omega) _).trans (hb2.mono (by have := hb1.size; simp at this ⊢; omega))
    have hs1 := hb1.size
    simp only [World.size_alloc] at hs1
    clear hb1 hb2 z1 z2
    obtain ⟨l1, a0, a1, f0, f1⟩ := y1
    obtain ⟨l2, b0, b1, g0, g1⟩ := y2
    obtain ⟨l3, p0, p1, -, -⟩ := y3
    obtain ⟨l4, q0, q1, -, -⟩ := y4
    have n12 : w.heap.size + 1 ≠ w.heap.size + 1 + 1 := by omega
    have n21 : w.heap.size + 1 + 1 ≠ w.heap.size + 1 := by omega
    have n13 : w.heap.size + 1 ≠ w1.heap.size := by omega
    have n14 : w.heap.size + 1 ≠ w1.heap.size + 1 := by omega
    go_region
    go_wp2
    refine bodyPost_ret (v := .tuple #[.agg #[.int .i64 (m : Int), .int .i64 (hi : Int)], .agg #[.int .i64 (lo : Int), .int .i64 (m : Int)]]) (by simp [results, Try.results38, go_sem, a0, a1, b0, b1]) rfl ⟨rfl, by repeat' (first | (with_reducible exact hB) | (with_reducible refine Below.setCell ?_ ?_ _) | (with_reducible refine Below.drew ?_) | go_size)⟩
end Go.Proofs.Ytkdgdmicnfgdjaa
