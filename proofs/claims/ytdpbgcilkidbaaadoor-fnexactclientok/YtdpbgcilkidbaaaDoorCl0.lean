/-
  A client that knows nothing yet, on both sides.
-/
import Derived.Test.YtdpbgcilkidbaaaDoorSc
import Derived.Test.YtdpbgcilkidbaaaDoorInts
import Derived.Deep.RegionHeld3
namespace Go.Proofs.YtdpbgcilkidbaaaDoor
open Go.RowKit

set_option maxRecDepth 20000 in
theorem agg_cli : AggTy 36 15 := ⟨⟨_, Tryd.underlying36, rfl⟩, by kernel_rfl⟩
set_option maxRecDepth 20000 in
theorem agg_pnt : AggTy 34 5 := ⟨⟨_, Tryd.underlying34, rfl⟩, by kernel_rfl⟩
/-- So many acknowledgements are enough out of so many witnesses. -/
def nok (n m : Int) : Bool := decide (1 ≤ m ∧ m ≤ 7 ∧ 1 ≤ n ∧ n ≤ m ∧ m < 2 * n)
theorem needOk_is (n m : Int) (w : World) : Calls Tryd.prog 25 #[.int .i64 n, .int .i64 m] w fun e w' => e = .returned (.bool (nok n m)) ∧ w' = w := by
  unfold nok
  by_cases h1 : 1 ≤ m
  · by_cases h2 : m ≤ 7
    · by_cases h3 : 1 ≤ n
      · by_cases h4 : n ≤ m
        · have hw : IntKind.i64.wrap (2 * n) = 2 * n := IntWalk.i64_in _ (by omega)
          by_cases h5 : m < 2 * n
          · rw [decide_eq_true ⟨h1, h2, h3, h4, h5⟩]
            go_enter Tryd.func25, Tryd.ntmps25
            go_wp2
            go_ret
            exact ⟨rfl, rfl⟩
          · rw [decide_eq_false (fun h => h5 h.2.2.2.2)]
            go_enter Tryd.func25, Tryd.ntmps25
            go_wp2
            go_ret
            exact ⟨rfl, rfl⟩
        · rw [decide_eq_false (fun h => h4 h.2.2.2.1)]
          go_enter Tryd.func25, Tryd.ntmps25
          go_wp2
          go_ret
          exact ⟨rfl, rfl⟩
      · rw [decide_eq_false (fun h => h3 h.2.2.1)]
        go_enter Tryd.func25, Tryd.ntmps25
        go_wp2
        go_ret
        exact ⟨rfl, rfl⟩
    · rw [decide_eq_false (fun h => h2 h.2.1)]
      go_enter Tryd.func25, Tryd.ntmps25
      go_wp2
      go_ret
      exact ⟨rfl, rfl⟩
  · rw [decide_eq_false (fun h => h1 h.1)]
    go_enter Tryd.func25, Tryd.ntmps25
    go_wp2
    go_ret
    exact ⟨rfl, rfl⟩
theorem pinOk_zero (w : World) : Calls Tryd.prog 26 #[.agg #[.int .i64 0, .int .u64 0, .int .u64 0, .int .u64 0, .int .u64 0]] w fun e w' => e = .returned (.bool true) ∧ Below w.heap.size w w' := by
  go_enter Tryd.func26, Tryd.ntmps26
  go_wp2
  go_ret
  exact ⟨rfl, (by repeat' (first | (with_reducible exact Below.refl _ _) | (with_reducible assumption) | (with_reducible refine below_drewN ?_ _) | (with_reducible refine Below.setCell ?_ ?_ _) | (with_reducible refine Below.alloc ?_ ?_ _) | (with_reducible refine Below.drew ?_) | go_size))⟩
theorem pins_zero (w : World) : Calls Tryd.prog 16 #[.agg #[.int .i64 0, .int .u64 0, .int .u64 0, .int .u64 0, .int .u64 0]] w fun e w' => e = .returned (.bool true) ∧ Below w.heap.size w w' := by
  have ci := fun V : World => in_is 0 1 256 V
  go_enter Tryd.func16, Tryd.ntmps16
  go_wp2_with (go_at_call 15; refine (ci _).mono ?_; rintro e w1 ⟨rfl, hw⟩; subst hw)
  go_ret
  exact ⟨rfl, (by repeat' (first | (with_reducible exact Below.refl _ _) | (with_reducible assumption) | (with_reducible refine below_drewN ?_ _) | (with_reducible refine Below.setCell ?_ ?_ _) | (with_reducible refine Below.alloc ?_ ?_ _) | (with_reducible refine Below.drew ?_) | go_size))⟩
set_option maxRecDepth 20000 in
set_option maxHeartbeats 1000000 in
theorem cok_zero (n m : Int) (w : World) : Calls Tryd.prog 6 #[.agg #[.int .i64 n, .int .i64 m, .int .i64 0, .int .i64 0, .int .i64 0, .int .u64 0, .int .u64 0, .int .u64 0, .int .u64 0, .slice none 0 0, .int .i64 0, .int .u64 0, .int .u64 0, .int .u64 0, .int .u64 0]] w fun e w' => e = .returned (.bool (nok n m)) ∧ Below w.heap.size w w' := by
  have c1 := fun (V : World) => in_is m 1 7 V
  have c2 := fun (V : World) => in_is n 1 m V
  have c3 := fun (V : World) => in_is 0 0 1000000 V
  have cp := fun V : World => pins_zero V
  have A0 := Lies.new w [.int .i64 n, .int .i64 m, .int .i64 0, .int .i64 0, .int .i64 0, .int .u64 0, .int .u64 0, .int .u64 0, .int .u64 0, .slice none 0 0, .int .i64 0, .int .u64 0, .int .u64 0, .int .u64 0, .int .u64 0] 36
  have z0 : Below w.heap.size w (w.alloc (.cells #[.int .i64 n, .int .i64 m, .int .i64 0, .int .i64 0, .int .i64 0, .int .u64 0, .int .u64 0, .int .u64 0, .int .u64 0, .slice none 0 0, .int .i64 0, .int .u64 0, .int .u64 0, .int .u64 0, .int .u64 0] 36)) := (by repeat' (first | (with_reducible exact Below.refl _ _) | (with_reducible assumption) | (with_reducible refine below_drewN ?_ _) | (with_reducible refine Below.setCell ?_ ?_ _) | (with_reducible refine Below.alloc ?_ ?_ _) | (with_reducible refine Below.drew ?_) | go_size))
  have hAz : w.heap.size < (w.alloc (.cells #[.int .i64 n, .int .i64 m, .int .i64 0, .int .i64 0, .int .i64 0, .int .u64 0, .int .u64 0, .int .u64 0, .int .u64 0, .slice none 0 0, .int .i64 0, .int .u64 0, .int .u64 0, .int .u64 0, .int .u64 0] 36)).heap.size := by simp
  have A0 : Lies w.heap.size 0 [.int .i64 n, .int .i64 m, .int .i64 0, .int .i64 0, .int .i64 0, .int .u64 0, .int .u64 0, .int .u64 0, .int .u64 0, .slice none 0 0, .int .i64 0, .int .u64 0, .int .u64 0, .int .u64 0, .int .u64 0] (w.alloc (.cells #[.int .i64 n, .int .i64 m, .int .i64 0, .int .i64 0, .int .i64 0, .int .u64 0, .int .u64 0, .int .u64 0, .int .u64 0, .slice none 0 0, .int .i64 0, .int .u64 0, .int .u64 0, .int .u64 0, .int .u64 0] 36)) := A0
  unfold nok
  go_enter Tryd.func6, Tryd.ntmps6
  go_upto_region 1 with fail
  generalize w.alloc (.cells #[.int .i64 n, .int .i64 m, .int .i64 0, .int .i64 0, .int .i64 0, .int .u64 0, .int .u64 0, .int .u64 0, .int .u64 0, .slice none 0 0, .int .i64 0, .int .u64 0, .int .u64 0, .int .u64 0, .int .u64 0] 36) = W at A0 z0 hAz ⊢
  have HA : Hid (Lies w.heap.size 0 [.int .i64 n, .int .i64 m, .int .i64 0, .int .i64 0, .int .i64 0, .int .u64 0, .int .u64 0, .int .u64 0, .int .u64 0, .slice none 0 0, .int .i64 0, .int .u64 0, .int .u64 0, .int .u64 0, .int .u64 0] W) := A0
  have a0 := A0 0 _ rfl
  have a1 := A0 1 _ rfl
  have a2 := A0 2 _ rfl
  have p0 := A0 10 _ rfl
  have p1 := A0 11 _ rfl
  have p2 := A0 12 _ rfl
  have p3 := A0 13 _ rfl
  have p4 := A0 14 _ rfl
  simp only [Nat.zero_add] at a0 a1 a2 p0 p1 p2 p3 p4
  clear A0
  by_cases hm : 1 ≤ m ∧ m ≤ 7
  · have e1 : (decide (1 ≤ m) && decide (m ≤ 7)) = true := by rw [decide_eq_true hm.1, decide_eq_true hm.2]; rfl
    rw [e1] at c1
    by_cases hn : 1 ≤ n ∧ n ≤ m
    · have e2 : (decide (1 ≤ n) && decide (n ≤ m)) = true := by rw [decide_eq_true hn.1, decide_eq_true hn.2]; rfl
      rw [e2] at c2
      have hw : IntKind.i64.wrap (2 * n) = 2 * n := IntWalk.i64_in _ (by omega)
      by_cases h5 : m < 2 * n
      · have e : decide (1 ≤ m ∧ m ≤ 7 ∧ 1 ≤ n ∧ n ≤ m ∧ m < 2 * n) = true := decide_eq_true ⟨hm.1, hm.2, hn.1, hn.2, h5⟩
        have h6 : ¬ 2 * n ≤ m := by omega
        clear hm hn e1 e2 h5
        go_wp2_with (first
          | (with_reducible refine wpl_load agg_pnt w.heap.size 4 [.int .i64 0, .int .u64 0, .int .u64 0, .int .u64 0, .int .u64 0] (by kernel_rfl) ?_ AG1 ?_; · (first | (simp [Act.eval]; done) | (simp [Act.eval, Act.put]; done)))
          | (go_at_call 16; refine (cp _).mono ?_; rintro e w1 ⟨rfl, b1⟩; have z1 := below_after z0 b1 z0.size; have A1 := HA.out.call b1 hAz; have k0 := A1 0 _ rfl; have k2 := A1 2 _ rfl; have k3 := A1 3 _ rfl; have k9 := A1 9 _ rfl; have AG1 : Lies w.heap.size 4 [.int .i64 0, .int .u64 0, .int .u64 0, .int .u64 0, .int .u64 0] w1 := A1.part 4 5; simp only [Nat.zero_add] at k0 k2 k3 k9; clear A1 HA a0 a1 a2 p0 p1 p2 p3 p4)
          | (go_at_call_of 15 (Value.int IntKind.i64 1000000); refine (c3 _).mono ?_; rintro e w1 ⟨rfl, hw1⟩; subst hw1)
          | (go_at_call_of 15 (Value.int IntKind.i64 7); refine (c1 _).mono ?_; rintro e w1 ⟨rfl, hw1⟩; subst hw1)
          | (go_at_call 15; refine (c2 _).mono ?_; rintro e w1 ⟨rfl, hw1⟩; subst hw1))
        go_ret
        exact ⟨by rw [e]; rfl, z1⟩
      · have e : decide (1 ≤ m ∧ m ≤ 7 ∧ 1 ≤ n ∧ n ≤ m ∧ m < 2 * n) = false := decide_eq_false (fun h => h5 h.2.2.2.2)
        have h6 : 2 * n ≤ m := by omega
        clear hm hn e1 e2 h5
        go_wp2_with (first
          | (with_reducible refine wpl_load agg_pnt w.heap.size 4 [.int .i64 0, .int .u64 0, .int .u64 0, .int .u64 0, .int .u64 0] (by kernel_rfl) ?_ AG1 ?_; · (first | (simp [Act.eval]; done) | (simp [Act.eval, Act.put]; done)))
          | (go_at_call 16; refine (cp _).mono ?_; rintro e w1 ⟨rfl, b1⟩; have z1 := below_after z0 b1 z0.size; have A1 := HA.out.call b1 hAz; have k0 := A1 0 _ rfl; have k2 := A1 2 _ rfl; have k3 := A1 3 _ rfl; have k9 := A1 9 _ rfl; have AG1 : Lies w.heap.size 4 [.int .i64 0, .int .u64 0, .int .u64 0, .int .u64 0, .int .u64 0] w1 := A1.part 4 5; simp only [Nat.zero_add] at k0 k2 k3 k9; clear A1 HA a0 a1 a2 p0 p1 p2 p3 p4)
          | (go_at_call_of 15 (Value.int IntKind.i64 1000000); refine (c3 _).mono ?_; rintro e w1 ⟨rfl, hw1⟩; subst hw1)
          | (go_at_call_of 15 (Value.int IntKind.i64 7); refine (c1 _).mono ?_; rintro e w1 ⟨rfl, hw1⟩; subst hw1)
          | (go_at_call 15; refine (c2 _).mono ?_; rintro e w1 ⟨rfl, hw1⟩; subst hw1))
        go_ret
        exact ⟨by rw [e]; rfl, z0⟩
    · have e2 : (decide (1 ≤ n) && decide (n ≤ m)) = false := by rw [← Bool.decide_and]; exact decide_eq_false hn
      rw [e2] at c2
      have e : decide (1 ≤ m ∧ m ≤ 7 ∧ 1 ≤ n ∧ n ≤ m ∧ m < 2 * n) = false := decide_eq_false (fun h => hn ⟨h.2.2.1, h.2.2.2.1⟩)
      clear hm hn e1 e2
      go_wp2_with (first
        | (with_reducible refine wpl_load agg_pnt w.heap.size 4 [.int .i64 0, .int .u64 0, .int .u64 0, .int .u64 0, .int .u64 0] (by kernel_rfl) ?_ AG1 ?_; · (first | (simp [Act.eval]; done) | (simp [Act.eval, Act.put]; done)))
        | (go_at_call 16; refine (cp _).mono ?_; rintro e w1 ⟨rfl, b1⟩; have z1 := below_after z0 b1 z0.size; have A1 := HA.out.call b1 hAz; have k0 := A1 0 _ rfl; have k2 := A1 2 _ rfl; have k3 := A1 3 _ rfl; have k9 := A1 9 _ rfl; have AG1 : Lies w.heap.size 4 [.int .i64 0, .int .u64 0, .int .u64 0, .int .u64 0, .int .u64 0] w1 := A1.part 4 5; simp only [Nat.zero_add] at k0 k2 k3 k9; clear A1 HA a0 a1 a2 p0 p1 p2 p3 p4)
        | (go_at_call_of 15 (Value.int IntKind.i64 1000000); refine (c3 _).mono ?_; rintro e w1 ⟨rfl, hw1⟩; subst hw1)
        | (go_at_call_of 15 (Value.int IntKind.i64 7); refine (c1 _).mono ?_; rintro e w1 ⟨rfl, hw1⟩; subst hw1)
        | (go_at_call 15; refine (c2 _).mono ?_; rintro e w1 ⟨rfl, hw1⟩; subst hw1))
      go_ret
      exact ⟨by rw [e]; rfl, z0⟩
  · have e1 : (decide (1 ≤ m) && decide (m ≤ 7)) = false := by rw [← Bool.decide_and]; exact decide_eq_false hm
    rw [e1] at c1
    have e : decide (1 ≤ m ∧ m ≤ 7 ∧ 1 ≤ n ∧ n ≤ m ∧ m < 2 * n) = false := decide_eq_false (fun h => hm ⟨h.1, h.2.1⟩)
    clear hm e1
    go_wp2_with (first
      | (with_reducible refine wpl_load agg_pnt w.heap.size 4 [.int .i64 0, .int .u64 0, .int .u64 0, .int .u64 0, .int .u64 0] (by kernel_rfl) ?_ AG1 ?_; · (first | (simp [Act.eval]; done) | (simp [Act.eval, Act.put]; done)))
      | (go_at_call 16; refine (cp _).mono ?_; rintro e w1 ⟨rfl, b1⟩; have z1 := below_after z0 b1 z0.size; have A1 := HA.out.call b1 hAz; have k0 := A1 0 _ rfl; have k2 := A1 2 _ rfl; have k3 := A1 3 _ rfl; have k9 := A1 9 _ rfl; have AG1 : Lies w.heap.size 4 [.int .i64 0, .int .u64 0, .int .u64 0, .int .u64 0, .int .u64 0] w1 := A1.part 4 5; simp only [Nat.zero_add] at k0 k2 k3 k9; clear A1 HA a0 a1 a2 p0 p1 p2 p3 p4)
      | (go_at_call_of 15 (Value.int IntKind.i64 1000000); refine (c3 _).mono ?_; rintro e w1 ⟨rfl, hw1⟩; subst hw1)
      | (go_at_call_of 15 (Value.int IntKind.i64 7); refine (c1 _).mono ?_; rintro e w1 ⟨rfl, hw1⟩; subst hw1)
      | (go_at_call 15; refine (c2 _).mono ?_; rintro e w1 ⟨rfl, hw1⟩; subst hw1))
    go_ret
    exact ⟨by rw [e]; rfl, z0⟩
end Go.Proofs.YtdpbgcilkidbaaaDoor
