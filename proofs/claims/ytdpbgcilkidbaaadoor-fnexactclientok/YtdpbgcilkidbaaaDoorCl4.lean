/-
  What was accepted, or none: on both sides.
-/
import Derived.Test.YtdpbgcilkidbaaaDoorCl3
namespace Go.Proofs.YtdpbgcilkidbaaaDoor
open Go.RowKit

/-- No point. -/
def nop (s : Int) (q : Qd) : Bool := decide (s = 0 ∧ q.a.toNat = 0 ∧ q.b.toNat = 0 ∧ q.c.toNat = 0 ∧ q.d.toNat = 0)
/-- A point that was accepted, or none. -/
def pok (s : Int) (q : Qd) : Bool := decide (1 ≤ s ∧ s ≤ 256) || nop s q
set_option maxRecDepth 20000 in
set_option maxHeartbeats 1000000 in
theorem pins_is (s : Int) (q : Qd) (w : World) : Calls Tryd.prog 16 #[.agg #[.int .i64 s, .int .u64 ((q.a).toNat : Int), .int .u64 ((q.b).toNat : Int), .int .u64 ((q.c).toNat : Int), .int .u64 ((q.d).toNat : Int)]] w fun e w' => e = .returned (.bool (pok s q)) ∧ Below w.heap.size w w' := by
  have ci := fun V : World => in_is s 1 256 V
  by_cases h1 : 1 ≤ s ∧ s ≤ 256
  · have e1 : (decide (1 ≤ s) && decide (s ≤ 256)) = true := by rw [decide_eq_true h1.1, decide_eq_true h1.2]; rfl
    have e : pok s q = true := by unfold pok; rw [decide_eq_true h1]; rfl
    rw [e1] at ci
    go_enter Tryd.func16, Tryd.ntmps16
    go_wp2_with (go_at_call 15; refine (ci _).mono ?_; rintro e w1 ⟨rfl, hw⟩; subst hw)
    go_ret
    exact ⟨by rw [e]; rfl, (by repeat' (first | (with_reducible exact Below.refl _ _) | (with_reducible assumption) | (with_reducible refine below_drewN ?_ _) | (with_reducible refine Below.setCell ?_ ?_ _) | (with_reducible refine Below.alloc ?_ ?_ _) | (with_reducible refine Below.drew ?_) | go_size))⟩
  · have e1 : (decide (1 ≤ s) && decide (s ≤ 256)) = false := by rw [Bool.and_eq_false_iff, decide_eq_false_iff_not, decide_eq_false_iff_not]; omega
    rw [e1] at ci
    obtain ⟨a, b, c, d⟩ := q
    have e : pok s ⟨a, b, c, d⟩ = nop s ⟨a, b, c, d⟩ := by unfold pok; rw [decide_eq_false h1, Bool.false_or]
    rw [e]
    clear h1 e1 e
    by_cases h0 : s = 0
    · subst h0
      go_enter Tryd.func16, Tryd.ntmps16
      go_wp2_with (go_at_call 15; refine (ci _).mono ?_; rintro e w1 ⟨rfl, hw⟩; subst hw)
      all_goals
        go_ret
        exact ⟨by simp_all [nop], (by repeat' (first | (with_reducible exact Below.refl _ _) | (with_reducible assumption) | (with_reducible refine below_drewN ?_ _) | (with_reducible refine Below.setCell ?_ ?_ _) | (with_reducible refine Below.alloc ?_ ?_ _) | (with_reducible refine Below.drew ?_) | go_size))⟩
    · go_enter Tryd.func16, Tryd.ntmps16
      go_wp2_with (go_at_call 15; refine (ci _).mono ?_; rintro e w1 ⟨rfl, hw⟩; subst hw)
      go_ret
      exact ⟨by simp_all [nop], (by repeat' (first | (with_reducible exact Below.refl _ _) | (with_reducible assumption) | (with_reducible refine below_drewN ?_ _) | (with_reducible refine Below.setCell ?_ ?_ _) | (with_reducible refine Below.alloc ?_ ?_ _) | (with_reducible refine Below.drew ?_) | go_size))⟩
set_option maxRecDepth 20000 in
set_option maxHeartbeats 1000000 in
theorem pinOk_is (s : Int) (q : Qd) (w : World) : Calls Tryd.prog 26 #[.agg #[.int .i64 s, .int .u64 ((q.a).toNat : Int), .int .u64 ((q.b).toNat : Int), .int .u64 ((q.c).toNat : Int), .int .u64 ((q.d).toNat : Int)]] w fun e w' => e = .returned (.bool (pok s q)) ∧ Below w.heap.size w w' := by
  by_cases h0 : s = 0
  · subst h0
    obtain ⟨a, b, c, d⟩ := q
    go_enter Tryd.func26, Tryd.ntmps26
    go_wp2_with fail
    all_goals
      go_ret
      exact ⟨by simp_all [pok, nop], (by repeat' (first | (with_reducible exact Below.refl _ _) | (with_reducible assumption) | (with_reducible refine below_drewN ?_ _) | (with_reducible refine Below.setCell ?_ ?_ _) | (with_reducible refine Below.alloc ?_ ?_ _) | (with_reducible refine Below.drew ?_) | go_size))⟩
  · have e0 : nop s q = false := decide_eq_false (fun h => h0 h.1)
    have e : pok s q = decide (1 ≤ s ∧ s ≤ 256) := by unfold pok; rw [e0, Bool.or_false]
    rw [e]
    by_cases h1 : 1 ≤ s
    · by_cases h2 : s ≤ 256
      · rw [decide_eq_true ⟨h1, h2⟩]
        go_enter Tryd.func26, Tryd.ntmps26
        go_wp2_with fail
        go_ret
        exact ⟨rfl, (by repeat' (first | (with_reducible exact Below.refl _ _) | (with_reducible assumption) | (with_reducible refine below_drewN ?_ _) | (with_reducible refine Below.setCell ?_ ?_ _) | (with_reducible refine Below.alloc ?_ ?_ _) | (with_reducible refine Below.drew ?_) | go_size))⟩
      · rw [decide_eq_false (fun h => h2 h.2)]
        go_enter Tryd.func26, Tryd.ntmps26
        go_wp2_with fail
        go_ret
        exact ⟨rfl, (by repeat' (first | (with_reducible exact Below.refl _ _) | (with_reducible assumption) | (with_reducible refine below_drewN ?_ _) | (with_reducible refine Below.setCell ?_ ?_ _) | (with_reducible refine Below.alloc ?_ ?_ _) | (with_reducible refine Below.drew ?_) | go_size))⟩
    · rw [decide_eq_false (fun h => h1 h.1)]
      go_enter Tryd.func26, Tryd.ntmps26
      go_wp2_with fail
      go_ret
      exact ⟨rfl, (by repeat' (first | (with_reducible exact Below.refl _ _) | (with_reducible assumption) | (with_reducible refine below_drewN ?_ _) | (with_reducible refine Below.setCell ?_ ?_ _) | (with_reducible refine Below.alloc ?_ ?_ _) | (with_reducible refine Below.drew ?_) | go_size))⟩
set_option maxRecDepth 20000 in
set_option maxHeartbeats 1000000 in
theorem takes_is (a b c d x : Int) (w : World) : Calls Tryd.prog 27 #[.agg #[.int .i64 a, .int .i64 b, .int .i64 c, .int .i64 d], .int .i64 x] w fun e w' => e = .returned (.bool (decide (b ≤ x ∧ x ≤ c))) ∧ Below w.heap.size w w' := by
  by_cases h1 : b ≤ x
  · by_cases h2 : x ≤ c
    · rw [decide_eq_true ⟨h1, h2⟩]
      go_enter Tryd.func27, Tryd.ntmps27
      go_wp2_with fail
      go_ret
      exact ⟨rfl, (by repeat' (first | (with_reducible exact Below.refl _ _) | (with_reducible assumption) | (with_reducible refine below_drewN ?_ _) | (with_reducible refine Below.setCell ?_ ?_ _) | (with_reducible refine Below.alloc ?_ ?_ _) | (with_reducible refine Below.drew ?_) | go_size))⟩
    · rw [decide_eq_false (fun h => h2 h.2)]
      go_enter Tryd.func27, Tryd.ntmps27
      go_wp2_with fail
      go_ret
      exact ⟨rfl, (by repeat' (first | (with_reducible exact Below.refl _ _) | (with_reducible assumption) | (with_reducible refine below_drewN ?_ _) | (with_reducible refine Below.setCell ?_ ?_ _) | (with_reducible refine Below.alloc ?_ ?_ _) | (with_reducible refine Below.drew ?_) | go_size))⟩
  · rw [decide_eq_false (fun h => h1 h.1)]
    go_enter Tryd.func27, Tryd.ntmps27
    go_wp2_with fail
    go_ret
    exact ⟨rfl, (by repeat' (first | (with_reducible exact Below.refl _ _) | (with_reducible assumption) | (with_reducible refine below_drewN ?_ _) | (with_reducible refine Below.setCell ?_ ?_ _) | (with_reducible refine Below.alloc ?_ ?_ _) | (with_reducible refine Below.drew ?_) | go_size))⟩
end Go.Proofs.YtdpbgcilkidbaaaDoor
