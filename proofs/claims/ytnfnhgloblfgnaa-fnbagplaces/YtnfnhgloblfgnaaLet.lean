/-
  Letters: whether one is ok, by both; a letter measured and copied.
-/
import Derived.Test.YtnfnhgloblfgnaaInts
namespace Go.Proofs.Ytnfnhgloblfgnaa
open Go.RowKit

/-- A letter that is ok: between the nodes f and t, of n bytes. -/
def letOk (f t : Int) (n : Nat) : Bool := decide (0 ≤ f ∧ f ≤ 20) && decide (0 ≤ t ∧ t ≤ 20) && decide (n ≤ 600)

theorem node_is (n : Int) (w : World) : Calls Try.prog 45 #[.int .i64 n] w fun e w' => e = .returned (.bool (decide (0 ≤ n ∧ n ≤ 20))) ∧ w' = w := by
  by_cases h1 : 0 ≤ n
  · have e : decide (0 ≤ n ∧ n ≤ 20) = decide (n ≤ 20) := by simp [h1]
    rw [e]
    clear e
    go_enter Try.func45, Try.ntmps45
    go_wp2
    go_ret
    exact ⟨rfl, rfl⟩
  · have e : decide (0 ≤ n ∧ n ≤ 20) = false := by simp [h1]
    rw [e]
    clear e
    go_enter Try.func45, Try.ntmps45
    go_wp2
    go_ret
    exact ⟨rfl, rfl⟩
theorem in20_is (n : Int) (w : World) : Calls Try.prog 21 #[.int .i64 n, .int .i64 0, .int .i64 20] w fun e w' => e = .returned (.bool (decide (0 ≤ n ∧ n ≤ 20))) ∧ w' = w := by
  have := in_is n 0 20 w
  rwa [← Bool.decide_and] at this
set_option maxRecDepth 20000 in
set_option maxHeartbeats 1000000 in
theorem letok_impl (f t : Int) (s : ByteArray) (hs : s.size ≤ maxLen) (w : World) :
    Calls Try.prog 33 #[.agg #[.int .i64 f, .int .i64 t, .string s]] w fun e w' => e = .returned (.bool (letOk f t s.size)) ∧ Below w.heap.size w w' := by
  unfold maxLen at hs
  have c1 := fun W : World => node_is f W
  have c2 := fun W : World => node_is t W
  unfold letOk
  generalize decide (0 ≤ f ∧ f ≤ 20) = a at c1 ⊢
  generalize decide (0 ≤ t ∧ t ≤ 20) = b at c2 ⊢
  cases a with
  | false =>
    go_enter Try.func33, Try.ntmps33
    go_wp2_with (go_at_call 45; refine (c1 _).mono ?_; rintro e w1 ⟨rfl, hw⟩; replace hw := hw.symm; subst hw)
    go_ret
    exact ⟨rfl, (by repeat' (first | (with_reducible exact Below.refl _ _) | (with_reducible assumption) | (with_reducible refine below_drewN ?_ _) | (with_reducible refine Below.setCell ?_ ?_ _) | (with_reducible refine Below.alloc ?_ ?_ _) | (with_reducible refine Below.drew ?_) | go_size))⟩
  | true =>
    cases b with
    | false =>
      go_enter Try.func33, Try.ntmps33
      go_wp2_with (first
        | (go_at_call_of 45 (Value.int IntKind.i64 f); refine (c1 _).mono ?_; rintro e w1 ⟨rfl, hw⟩; replace hw := hw.symm; subst hw)
        | (go_at_call 45; refine (c2 _).mono ?_; rintro e w1 ⟨rfl, hw⟩; replace hw := hw.symm; subst hw))
      go_ret
      exact ⟨rfl, (by repeat' (first | (with_reducible exact Below.refl _ _) | (with_reducible assumption) | (with_reducible refine below_drewN ?_ _) | (with_reducible refine Below.setCell ?_ ?_ _) | (with_reducible refine Below.alloc ?_ ?_ _) | (with_reducible refine Below.drew ?_) | go_size))⟩
    | true =>
      go_enter Try.func33, Try.ntmps33
      go_wp2_with (first
        | (go_at_call_of 45 (Value.int IntKind.i64 f); refine (c1 _).mono ?_; rintro e w1 ⟨rfl, hw⟩; replace hw := hw.symm; subst hw)
        | (go_at_call 45; refine (c2 _).mono ?_; rintro e w1 ⟨rfl, hw⟩; replace hw := hw.symm; subst hw))
      go_ret
      exact ⟨by simp; omega, (by repeat' (first | (with_reducible exact Below.refl _ _) | (with_reducible assumption) | (with_reducible refine below_drewN ?_ _) | (with_reducible refine Below.setCell ?_ ?_ _) | (with_reducible refine Below.alloc ?_ ?_ _) | (with_reducible refine Below.drew ?_) | go_size))⟩
set_option maxRecDepth 20000 in
set_option maxHeartbeats 1000000 in
theorem letok_spec (f t : Int) (s : ByteArray) (hs : s.size ≤ maxLen) (w : World) :
    Calls Try.prog 22 #[.agg #[.int .i64 f, .int .i64 t, .string s]] w fun e w' => e = .returned (.bool (letOk f t s.size)) ∧ Below w.heap.size w w' := by
  unfold maxLen at hs
  have c1 := fun W : World => in20_is f W
  have c2 := fun W : World => in20_is t W
  unfold letOk
  generalize decide (0 ≤ f ∧ f ≤ 20) = a at c1 ⊢
  generalize decide (0 ≤ t ∧ t ≤ 20) = b at c2 ⊢
  cases a with
  | false =>
    go_enter Try.func22, Try.ntmps22
    go_wp2_with (go_at_call 21; refine (c1 _).mono ?_; rintro e w1 ⟨rfl, hw⟩; replace hw := hw.symm; subst hw)
    go_ret
    exact ⟨rfl, (by repeat' (first | (with_reducible exact Below.refl _ _) | (with_reducible assumption) | (with_reducible refine below_drewN ?_ _) | (with_reducible refine Below.setCell ?_ ?_ _) | (with_reducible refine Below.alloc ?_ ?_ _) | (with_reducible refine Below.drew ?_) | go_size))⟩
  | true =>
    cases b with
    | false =>
      go_enter Try.func22, Try.ntmps22
      go_wp2_with (first
        | (go_at_call_of 21 (Value.int IntKind.i64 f); refine (c1 _).mono ?_; rintro e w1 ⟨rfl, hw⟩; replace hw := hw.symm; subst hw)
        | (go_at_call 21; refine (c2 _).mono ?_; rintro e w1 ⟨rfl, hw⟩; replace hw := hw.symm; subst hw))
      go_ret
      exact ⟨rfl, (by repeat' (first | (with_reducible exact Below.refl _ _) | (with_reducible assumption) | (with_reducible refine below_drewN ?_ _) | (with_reducible refine Below.setCell ?_ ?_ _) | (with_reducible refine Below.alloc ?_ ?_ _) | (with_reducible refine Below.drew ?_) | go_size))⟩
    | true =>
      go_enter Try.func22, Try.ntmps22
      go_wp2_with (first
        | (go_at_call_of 21 (Value.int IntKind.i64 f); refine (c1 _).mono ?_; rintro e w1 ⟨rfl, hw⟩; replace hw := hw.symm; subst hw)
        | (go_at_call 21; refine (c2 _).mono ?_; rintro e w1 ⟨rfl, hw⟩; replace hw := hw.symm; subst hw))
      go_ret
      exact ⟨by simp; omega, (by repeat' (first | (with_reducible exact Below.refl _ _) | (with_reducible assumption) | (with_reducible refine below_drewN ?_ _) | (with_reducible refine Below.setCell ?_ ?_ _) | (with_reducible refine Below.alloc ?_ ?_ _) | (with_reducible refine Below.drew ?_) | go_size))⟩
/-- A letter in the block B. -/
def Le (B : Nat) (f t : Int) (s : ByteArray) (W : World) : Prop := B < W.heap.size ∧ W.cell? ⟨B, 0, none⟩ = some (.int .i64 f) ∧ W.cell? ⟨B, 1, none⟩ = some (.int .i64 t) ∧ W.cell? ⟨B, 2, none⟩ = some (.string s)
theorem Le.new (W : World) (f t : Int) (s : ByteArray) (y : TypeId) : Le W.heap.size f t s (W.alloc (.cells #[.int .i64 f, .int .i64 t, .string s] y)) := by
  refine ⟨by simp, ?_, ?_, ?_⟩ <;> simp [go_sem]
theorem Le.call {B : Nat} {f t : Int} {s : ByteArray} {W W' : World} (h : Le B f t s W) (hb : Below W.heap.size W W') : Le B f t s W' :=
  ⟨Nat.lt_of_lt_of_le h.1 hb.size, (hb.cell h.1).trans h.2.1, (hb.cell h.1).trans h.2.2.1, (hb.cell h.1).trans h.2.2.2⟩
set_option maxRecDepth 20000 in
set_option maxHeartbeats 1000000 in
theorem tolet_is (f t : Int) (s : ByteArray) (w : World) :
    Calls Try.prog 40 #[.agg #[.int .i64 f, .int .i64 t, .string s]] w fun e w' => e = .returned (.agg #[.int .i64 f, .int .i64 t, .string s]) ∧ Below w.heap.size w w' := by
  go_enter Try.func40, Try.ntmps40
  go_wp2_with fail
  exact bodyPost_ret (v := .agg #[.int .i64 f, .int .i64 t, .string s]) (by simp [results, Try.results40, go_sem]) rfl ⟨rfl, (by repeat' (first | (with_reducible exact Below.refl _ _) | (with_reducible assumption) | (with_reducible refine below_drewN ?_ _) | (with_reducible refine Below.setCell ?_ ?_ _) | (with_reducible refine Below.alloc ?_ ?_ _) | (with_reducible refine Below.drew ?_) | go_size))⟩
theorem szlet_is (f t : Int) (s : ByteArray) (hs : s.size ≤ maxLen) (m : Int) (hm : 0 ≤ m ∧ m ≤ 1048576) (w : World) :
    Calls Try.prog 39 #[.agg #[.int .i64 f, .int .i64 t, .string s], .int .i64 m] w fun e w' => e = .returned (.int .i64 (if m - s.size < 0 then -1 else m - s.size)) ∧ Below w.heap.size w w' := by
  unfold maxLen at hs
  have hw1 : IntKind.i64.wrap (m - (s.size : Int)) = m - (s.size : Int) := IntWalk.i64_in _ (by omega)
  by_cases hb : m - (s.size : Int) < 0
  · rw [if_pos hb]
    go_enter Try.func39, Try.ntmps39
    go_wp2
    go_ret
    exact ⟨rfl, (by repeat' (first | (with_reducible exact Below.refl _ _) | (with_reducible assumption) | (with_reducible refine below_drewN ?_ _) | (with_reducible refine Below.setCell ?_ ?_ _) | (with_reducible refine Below.alloc ?_ ?_ _) | (with_reducible refine Below.drew ?_) | go_size))⟩
  · rw [if_neg hb]
    go_enter Try.func39, Try.ntmps39
    go_wp2
    go_ret
    exact ⟨rfl, (by repeat' (first | (with_reducible exact Below.refl _ _) | (with_reducible assumption) | (with_reducible refine below_drewN ?_ _) | (with_reducible refine Below.setCell ?_ ?_ _) | (with_reducible refine Below.alloc ?_ ?_ _) | (with_reducible refine Below.drew ?_) | go_size))⟩
end Go.Proofs.Ytnfnhgloblfgnaa
