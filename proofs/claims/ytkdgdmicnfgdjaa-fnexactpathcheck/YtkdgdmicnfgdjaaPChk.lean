/-
  PathCheck of the program and of the specification, walked.
-/
import Derived.Test.YtkdgdmicnfgdjaaLawPR
namespace Go.Proofs.Ytkdgdmicnfgdjaa
open Go.RowKit

theorem u_eq {x y : UInt64} (h : x = y) : (((x.toNat : Nat) : Int) == ((y.toNat : Nat) : Int)) = true ∧ (x.toNat == y.toNat) = true := by
  subst h; exact ⟨beq_self_eq_true _, beq_self_eq_true _⟩
theorem u_ne {x y : UInt64} (h : x ≠ y) : (((x.toNat : Nat) : Int) == ((y.toNat : Nat) : Int)) = false ∧ (x.toNat == y.toNat) = false := by
  constructor
  · rw [beq_eq_false_iff_ne]; intro e; exact h (UInt64.toNat.inj (by omega))
  · rw [beq_eq_false_iff_ne]; intro e; exact h (UInt64.toNat.inj e)
/-- what a check says: the root of the path is found, and it is the point's -/
def chk (ok : Bool) (r q : Qd) : Bool := ok && (decide (r.a = q.a) && (decide (r.b = q.b) && (decide (r.c = q.c) && decide (r.d = q.d))))
theorem pt_cells {w w' : World} (n : Int) (q : Qd) (t : TypeId) (h : Below (w.heap.size + 1) (w.alloc (.cells #[.int .i64 n, .int .u64 ((q.a).toNat : Int), .int .u64 ((q.b).toNat : Int), .int .u64 ((q.c).toNat : Int), .int .u64 ((q.d).toNat : Int)] t)) w') :
    w'.cell? ⟨w.heap.size, 0, none⟩ = some (.int .i64 n) ∧ w'.cell? ⟨w.heap.size, 1, none⟩ = some (.int .u64 ((q.a).toNat : Int)) ∧ w'.cell? ⟨w.heap.size, 2, none⟩ = some (.int .u64 ((q.b).toNat : Int)) ∧ w'.cell? ⟨w.heap.size, 3, none⟩ = some (.int .u64 ((q.c).toNat : Int)) ∧ w'.cell? ⟨w.heap.size, 4, none⟩ = some (.int .u64 ((q.d).toNat : Int)) := by
  refine ⟨?_, ?_, ?_, ?_, ?_⟩ <;> exact (h.cell (by simp)).trans (by simp [go_sem])

set_option maxRecDepth 20000 in
set_option maxHeartbeats 2000000 in
theorem pchk_spec (n i : Int) (q : Qd) (s : ByteArray) (P : List Qd) (v : Value) (w : World) (hs : s.size ≤ 1048576) (hT : Dgs w v P) :
    Calls Try.prog 23 #[.agg #[.int .i64 n, .int .u64 ((q.a).toNat : Int), .int .u64 ((q.b).toNat : Int), .int .u64 ((q.c).toNat : Int), .int .u64 ((q.d).toNat : Int)], .int .i64 i, .string s, v] w fun e w' => e = .returned (.bool (chk (prOk n i s P) (prQ n i s P) q)) ∧ Below w.heap.size w w' := by
  have k := fun (W : World) (h : Dgs W v P) => pr_spec_all n i s P v W hs h
  generalize prOk n i s P = ok at k ⊢
  generalize prQ n i s P = r at k ⊢
  unfold chk
  cases ok with
  | false =>
    go_enter Try.func23, Try.ntmps23
    go_wp2_with (go_at_call 19; refine (k _ (hT.call ((Below.refl _ _).alloc (Nat.le_refl _) _))).mono ?_; rintro e w1 ⟨rfl, hb1⟩; have hz1 := hb1.size; simp only [World.size_alloc] at hz1; have hlt1 : w.heap.size < w1.heap.size := hz1; have hne1 : w.heap.size ≠ w1.heap.size := (by omega); have hB1 : Below w.heap.size w w1 := ((Below.refl w.heap.size w).alloc (Nat.le_refl _) _).trans (hb1.mono (by simp only [World.size_alloc]; omega)); obtain ⟨p0, p1, p2, p3, p4⟩ := pt_cells n q _ (by simpa only [World.size_alloc] using hb1); clear hb1)
    all_goals go_ret
    exact ⟨rfl, (by repeat' (first | (with_reducible exact hB1) | (with_reducible refine Below.alloc ?_ ?_ _) | (with_reducible refine Below.setCell ?_ ?_ _) | (simp only [World.size_alloc]; omega) | omega))⟩
  | true =>
    by_cases h0 : r.a = q.a
    rotate_left
    · obtain ⟨i0, n0⟩ := u_ne h0
      rw [show (true && (decide (r.a = q.a) && (decide (r.b = q.b) && (decide (r.c = q.c) && decide (r.d = q.d))))) = false by simp [h0]]
      clear h0
      go_enter Try.func23, Try.ntmps23
      go_wp2_with (go_at_call 19; refine (k _ (hT.call ((Below.refl _ _).alloc (Nat.le_refl _) _))).mono ?_; rintro e w1 ⟨rfl, hb1⟩; have hz1 := hb1.size; simp only [World.size_alloc] at hz1; have hlt1 : w.heap.size < w1.heap.size := hz1; have hne1 : w.heap.size ≠ w1.heap.size := (by omega); have hB1 : Below w.heap.size w w1 := ((Below.refl w.heap.size w).alloc (Nat.le_refl _) _).trans (hb1.mono (by simp only [World.size_alloc]; omega)); obtain ⟨p0, p1, p2, p3, p4⟩ := pt_cells n q _ (by simpa only [World.size_alloc] using hb1); clear hb1)
      go_ret
      exact ⟨rfl, (by repeat' (first | (with_reducible exact hB1) | (with_reducible refine Below.alloc ?_ ?_ _) | (with_reducible refine Below.setCell ?_ ?_ _) | (simp only [World.size_alloc]; omega) | omega))⟩
    by_cases h1 : r.b = q.b
    rotate_left
    · obtain ⟨i0, n0⟩ := u_eq h0
      obtain ⟨i1, n1⟩ := u_ne h1
      rw [show (true && (decide (r.a = q.a) && (decide (r.b = q.b) && (decide (r.c = q.c) && decide (r.d = q.d))))) = false by simp [h1]]
      clear h0 h1
      go_enter Try.func23, Try.ntmps23
      go_wp2_with (go_at_call 19; refine (k _ (hT.call ((Below.refl _ _).alloc (Nat.le_refl _) _))).mono ?_; rintro e w1 ⟨rfl, hb1⟩; have hz1 := hb1.size; simp only [World.size_alloc] at hz1; have hlt1 : w.heap.size < w1.heap.size := hz1; have hne1 : w.heap.size ≠ w1.heap.size := (by omega); have hB1 : Below w.heap.size w w1 := ((Below.refl w.heap.size w).alloc (Nat.le_refl _) _).trans (hb1.mono (by simp only [World.size_alloc]; omega)); obtain ⟨p0, p1, p2, p3, p4⟩ := pt_cells n q _ (by simpa only [World.size_alloc] using hb1); clear hb1)
      go_ret
      exact ⟨rfl, (by repeat' (first | (with_reducible exact hB1) | (with_reducible refine Below.alloc ?_ ?_ _) | (with_reducible refine Below.setCell ?_ ?_ _) | (simp only [World.size_alloc]; omega) | omega))⟩
    by_cases h2 : r.c = q.c
    rotate_left
    · obtain ⟨i0, n0⟩ := u_eq h0
      obtain ⟨i1, n1⟩ := u_eq h1
      obtain ⟨i2, n2⟩ := u_ne h2
      rw [show (true && (decide (r.a = q.a) && (decide (r.b = q.b) && (decide (r.c = q.c) && decide (r.d = q.d))))) = false by simp [h2]]
      clear h0 h1 h2
      go_enter Try.func23, Try.ntmps23
      go_wp2_with (go_at_call 19; refine (k _ (hT.call ((Below.refl _ _).alloc (Nat.le_refl _) _))).mono ?_; rintro e w1 ⟨rfl, hb1⟩; have hz1 := hb1.size; simp only [World.size_alloc] at hz1; have hlt1 : w.heap.size < w1.heap.size := hz1; have hne1 : w.heap.size ≠ w1.heap.size := (by omega); have hB1 : Below w.heap.size w w1 := ((Below.refl w.heap.size w).alloc (Nat.le_refl _) _).trans (hb1.mono (by simp only [World.size_alloc]; omega)); obtain ⟨p0, p1, p2, p3, p4⟩ := pt_cells n q _ (by simpa only [World.size_alloc] using hb1); clear hb1)
      go_ret
      exact ⟨rfl, (by repeat' (first | (with_reducible exact hB1) | (with_reducible refine Below.alloc ?_ ?_ _) | (with_reducible refine Below.setCell ?_ ?_ _) | (simp only [World.size_alloc]; omega) | omega))⟩
    by_cases h3 : r.d = q.d
    rotate_left
    · obtain ⟨i0, n0⟩ := u_eq h0
      obtain ⟨i1, n1⟩ := u_eq h1
      obtain ⟨i2, n2⟩ := u_eq h2
      obtain ⟨i3, n3⟩ := u_ne h3
      rw [show (true && (decide (r.a = q.a) && (decide (r.b = q.b) && (decide (r.c = q.c) && decide (r.d = q.d))))) = false by simp [h3]]
      clear h0 h1 h2 h3
      go_enter Try.func23, Try.ntmps23
      go_wp2_with (go_at_call 19; refine (k _ (hT.call ((Below.refl _ _).alloc (Nat.le_refl _) _))).mono ?_; rintro e w1 ⟨rfl, hb1⟩; have hz1 := hb1.size; simp only [World.size_alloc] at hz1; have hlt1 : w.heap.size < w1.heap.size := hz1; have hne1 : w.heap.size ≠ w1.heap.size := (by omega); have hB1 : Below w.heap.size w w1 := ((Below.refl w.heap.size w).alloc (Nat.le_refl _) _).trans (hb1.mono (by simp only [World.size_alloc]; omega)); obtain ⟨p0, p1, p2, p3, p4⟩ := pt_cells n q _ (by simpa only [World.size_alloc] using hb1); clear hb1)
      go_ret
      exact ⟨rfl, (by repeat' (first | (with_reducible exact hB1) | (with_reducible refine Below.alloc ?_ ?_ _) | (with_reducible refine Below.setCell ?_ ?_ _) | (simp only [World.size_alloc]; omega) | omega))⟩
    · obtain ⟨i0, n0⟩ := u_eq h0
      obtain ⟨i1, n1⟩ := u_eq h1
      obtain ⟨i2, n2⟩ := u_eq h2
      obtain ⟨i3, n3⟩ := u_eq h3
      rw [show (true && (decide (r.a = q.a) && (decide (r.b = q.b) && (decide (r.c = q.c) && decide (r.d = q.d))))) = true by simp [h0, h1, h2, h3]]
      clear h0 h1 h2 h3
      go_enter Try.func23, Try.ntmps23
      go_wp2_with (go_at_call 19; refine (k _ (hT.call ((Below.refl _ _).alloc (Nat.le_refl _) _))).mono ?_; rintro e w1 ⟨rfl, hb1⟩; have hz1 := hb1.size; simp only [World.size_alloc] at hz1; have hlt1 : w.heap.size < w1.heap.size := hz1; have hne1 : w.heap.size ≠ w1.heap.size := (by omega); have hB1 : Below w.heap.size w w1 := ((Below.refl w.heap.size w).alloc (Nat.le_refl _) _).trans (hb1.mono (by simp only [World.size_alloc]; omega)); obtain ⟨p0, p1, p2, p3, p4⟩ := pt_cells n q _ (by simpa only [World.size_alloc] using hb1); clear hb1)
      go_ret
      exact ⟨rfl, (by repeat' (first | (with_reducible exact hB1) | (with_reducible refine Below.alloc ?_ ?_ _) | (with_reducible refine Below.setCell ?_ ?_ _) | (simp only [World.size_alloc]; omega) | omega))⟩

set_option maxRecDepth 20000 in
set_option maxHeartbeats 2000000 in
theorem pchk_impl (n i : Int) (q : Qd) (s : ByteArray) (P : List Qd) (v : Value) (w : World) (hs : s.size ≤ 1048576) (hT : Dgs w v P) (hnone : ∀ a l c, v = .slice (some a) l c → a.spot = none) :
    Calls Try.prog 25 #[.agg #[.int .i64 n, .int .u64 ((q.a).toNat : Int), .int .u64 ((q.b).toNat : Int), .int .u64 ((q.c).toNat : Int), .int .u64 ((q.d).toNat : Int)], .int .i64 i, .string s, v] w fun e w' => e = .returned (.bool (chk (prOk n i s P) (prQ n i s P) q)) ∧ Below w.heap.size w w' := by
  have k := fun (W : World) (h : Dgs W v P) => pr_impl_all n i s P v W hs h hnone
  generalize prOk n i s P = ok at k ⊢
  generalize prQ n i s P = r at k ⊢
  unfold chk
  cases ok with
  | false =>
    go_enter Try.func25, Try.ntmps25
    go_wp2_with (go_at_call 21; refine (k _ (hT.call ((Below.refl _ _).alloc (Nat.le_refl _) _))).mono ?_; rintro e w1 ⟨rfl, hb1⟩; have hz1 := hb1.size; simp only [World.size_alloc] at hz1; have hlt1 : w.heap.size < w1.heap.size := hz1; have hne1 : w.heap.size ≠ w1.heap.size := (by omega); have hB1 : Below w.heap.size w w1 := ((Below.refl w.heap.size w).alloc (Nat.le_refl _) _).trans (hb1.mono (by simp only [World.size_alloc]; omega)); obtain ⟨p0, p1, p2, p3, p4⟩ := pt_cells n q _ (by simpa only [World.size_alloc] using hb1); clear hb1)
    all_goals go_ret
    exact ⟨rfl, (by repeat' (first | (with_reducible exact hB1) | (with_reducible refine Below.alloc ?_ ?_ _) | (with_reducible refine Below.setCell ?_ ?_ _) | (simp only [World.size_alloc]; omega) | omega))⟩
  | true =>
    by_cases h0 : r.a = q.a
    rotate_left
    · obtain ⟨i0, n0⟩ := u_ne h0
      rw [show (true && (decide (r.a = q.a) && (decide (r.b = q.b) && (decide (r.c = q.c) && decide (r.d = q.d))))) = false by simp [h0]]
      clear h0
      go_enter Try.func25, Try.ntmps25
      go_wp2_with (go_at_call 21; refine (k _ (hT.call ((Below.refl _ _).alloc (Nat.le_refl _) _))).mono ?_; rintro e w1 ⟨rfl, hb1⟩; have hz1 := hb1.size; simp only [World.size_alloc] at hz1; have hlt1 : w.heap.size < w1.heap.size := hz1; have hne1 : w.heap.size ≠ w1.heap.size := (by omega); have hB1 : Below w.heap.size w w1 := ((Below.refl w.heap.size w).alloc (Nat.le_refl _) _).trans (hb1.mono (by simp only [World.size_alloc]; omega)); obtain ⟨p0, p1, p2, p3, p4⟩ := pt_cells n q _ (by simpa only [World.size_alloc] using hb1); clear hb1)
      go_ret
      exact ⟨rfl, (by repeat' (first | (with_reducible exact hB1) | (with_reducible refine Below.alloc ?_ ?_ _) | (with_reducible refine Below.setCell ?_ ?_ _) | (simp only [World.size_alloc]; omega) | omega))⟩
    by_cases h1 : r.b = q.b
    rotate_left
    · obtain ⟨i0, n0⟩ := u_eq h0
      obtain ⟨i1, n1⟩ := u_ne h1
      rw [show (true && (decide (r.a = q.a) && (decide (r.b = q.b) && (decide (r.c = q.c) && decide (r.d = q.d))))) = false by simp [h1]]
      clear h0 h1
      go_enter Try.func25, Try.ntmps25
      go_wp2_with (go_at_call 21; refine (k _ (hT.call ((Below.refl _ _).alloc (Nat.le_refl _) _))).mono ?_; rintro e w1 ⟨rfl, hb1⟩; have hz1 := hb1.size; simp only [World.size_alloc] at hz1; have hlt1 : w.heap.size < w1.heap.size := hz1; have hne1 : w.heap.size ≠ w1.heap.size := (by omega); have hB1 : Below w.heap.size w w1 := ((Below.refl w.heap.size w).alloc (Nat.le_refl _) _).trans (hb1.mono (by simp only [World.size_alloc]; omega)); obtain ⟨p0, p1, p2, p3, p4⟩ := pt_cells n q _ (by simpa only [World.size_alloc] using hb1); clear hb1)
      go_ret
      exact ⟨rfl, (by repeat' (first | (with_reducible exact hB1) | (with_reducible refine Below.alloc ?_ ?_ _) | (with_reducible refine Below.setCell ?_ ?_ _) | (simp only [World.size_alloc]; omega) | omega))⟩
    by_cases h2 : r.c = q.c
    rotate_left
    · obtain ⟨i0, n0⟩ := u_eq h0
      obtain ⟨i1, n1⟩ := u_eq h1
      obtain ⟨i2, n2⟩ := u_ne h2
      rw [show (true && (decide (r.a = q.a) && (decide (r.b = q.b) && (decide (r.c = q.c) && decide (r.d = q.d))))) = false by simp [h2]]
      clear h0 h1 h2
      go_enter Try.func25, Try.ntmps25
      go_wp2_with (go_at_call 21; refine (k _ (hT.call ((Below.refl _ _).alloc (Nat.le_refl _) _))).mono ?_; rintro e w1 ⟨rfl, hb1⟩; have hz1 := hb1.size; simp only [World.size_alloc] at hz1; have hlt1 : w.heap.size < w1.heap.size := hz1; have hne1 : w.heap.size ≠ w1.heap.size := (by omega); have hB1 : Below w.heap.size w w1 := ((Below.refl w.heap.size w).alloc (Nat.le_refl _) _).trans (hb1.mono (by simp only [World.size_alloc]; omega)); obtain ⟨p0, p1, p2, p3, p4⟩ := pt_cells n q _ (by simpa only [World.size_alloc] using hb1); clear hb1)
      go_ret
      exact ⟨rfl, (by repeat' (first | (with_reducible exact hB1) | (with_reducible refine Below.alloc ?_ ?_ _) | (with_reducible refine Below.setCell ?_ ?_ _) | (simp only [World.size_alloc]; omega) | omega))⟩
    by_cases h3 : r.d = q.d
    rotate_left
    · obtain ⟨i0, n0⟩ := u_eq h0
      obtain ⟨i1, n1⟩ := u_eq h1
      obtain ⟨i2, n2⟩ := u_eq h2
      obtain ⟨i3, n3⟩ := u_ne h3
      rw [show (true && (decide (r.a = q.a) && (decide (r.b = q.b) && (decide (r.c = q.c) && decide (r.d = q.d))))) = false by simp [h3]]
      clear h0 h1 h2 h3
      go_enter Try.func25, Try.ntmps25
      go_wp2_with (go_at_call 21; refine (k _ (hT.call ((Below.refl _ _).alloc (Nat.le_refl _) _))).mono ?_; rintro e w1 ⟨rfl, hb1⟩; have hz1 := hb1.size; simp only [World.size_alloc] at hz1; have hlt1 : w.heap.size < w1.heap.size := hz1; have hne1 : w.heap.size ≠ w1.heap.size := (by omega); have hB1 : Below w.heap.size w w1 := ((Below.refl w.heap.size w).alloc (Nat.le_refl _) _).trans (hb1.mono (by simp only [World.size_alloc]; omega)); obtain ⟨p0, p1, p2, p3, p4⟩ := pt_cells n q _ (by simpa only [World.size_alloc] using hb1); clear hb1)
      go_ret
      exact ⟨rfl, (by repeat' (first | (with_reducible exact hB1) | (with_reducible refine Below.alloc ?_ ?_ _) | (with_reducible refine Below.setCell ?_ ?_ _) | (simp only [World.size_alloc]; omega) | omega))⟩
    · obtain ⟨i0, n0⟩ := u_eq h0
      obtain ⟨i1, n1⟩ := u_eq h1
      obtain ⟨i2, n2⟩ := u_eq h2
      obtain ⟨i3, n3⟩ := u_eq h3
      rw [show (true && (decide (r.a = q.a) && (decide (r.b = q.b) && (decide (r.c = q.c) && decide (r.d = q.d))))) = true by simp [h0, h1, h2, h3]]
      clear h0 h1 h2 h3
      go_enter Try.func25, Try.ntmps25
      go_wp2_with (go_at_call 21; refine (k _ (hT.call ((Below.refl _ _).alloc (Nat.le_refl _) _))).mono ?_; rintro e w1 ⟨rfl, hb1⟩; have hz1 := hb1.size; simp only [World.size_alloc] at hz1; have hlt1 : w.heap.size < w1.heap.size := hz1; have hne1 : w.heap.size ≠ w1.heap.size := (by omega); have hB1 : Below w.heap.size w w1 := ((Below.refl w.heap.size w).alloc (Nat.le_refl _) _).trans (hb1.mono (by simp only [World.size_alloc]; omega)); obtain ⟨p0, p1, p2, p3, p4⟩ := pt_cells n q _ (by simpa only [World.size_alloc] using hb1); clear hb1)
      go_ret
      exact ⟨rfl, (by repeat' (first | (with_reducible exact hB1) | (with_reducible refine Below.alloc ?_ ?_ _) | (with_reducible refine Below.setCell ?_ ?_ _) | (simp only [World.size_alloc]; omega) | omega))⟩
end Go.Proofs.Ytkdgdmicnfgdjaa
