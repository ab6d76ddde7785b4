/-
  l1Many, walked.
-/
import Derived.Test.YtnaaeooieljkmaaRd2
namespace Go.Proofs.Ytnaaeooieljkmaa
open Go.RowKit

theorem add_ok2 (x y : ByteArray) (hx : x.size ≤ 1000000) (hy : y.size ≤ 1000000) (W : World) : (Op.stringOp .add x y).run Try.prog W = .ok (.string (x ++ y)) W := run_string_add_sum W x y (by omega)
theorem half_sum (n s o N : Nat) (h : o + n * s = N) (hm : n % 2 = 1) : (o + s) + n / 2 * (s + s) = N := by
  have e : n = 2 * (n / 2) + 1 := by omega
  rw [e, Nat.add_mul, Nat.one_mul] at h
  rw [← h, Nat.mul_add, Nat.mul_comm 2 (n / 2), Nat.mul_assoc, Nat.two_mul, Nat.mul_add]
  omega
theorem half_sum0 (n s o N : Nat) (h : o + n * s = N) (hm : n % 2 = 0) : o + n / 2 * (s + s) = N := by
  have e : n = 2 * (n / 2) := by omega
  rw [e] at h
  rw [← h, Nat.mul_add, Nat.mul_comm 2 (n / 2), Nat.mul_assoc, Nat.two_mul, Nat.mul_add]

set_option maxRecDepth 20000 in
set_option maxHeartbeats 1000000 in
theorem many_is (s0 : ByteArray) (h1 : s0.size = 1) (N : Nat) (hN : N ≤ 100000) (W : World) :
    Calls Try.prog 17 #[.string s0, .int .i64 (N : Int)] W fun e w' => ∃ S : ByteArray, S.size ≤ 100000 ∧ e = .returned (.string S) ∧ w' = W := by
  go_enter Try.func17, Try.ntmps17
  go_wp2_with fail
  go_loopw [0, 1, 5] (fun s n o wr => ∃ (x y : ByteArray) (k : Nat), s = .string x ∧ n = .int .i64 (k : Int) ∧ o = .string y ∧ Hid (y.size + k * x.size = N ∧ 1 ≤ x.size ∧ x.size ≤ 200000) ∧ k ≤ 100000 ∧ Hid (W = wr)) (fun _ n _ _ => (intOf n).toNat)
  case atStart => exact ⟨s0, ByteArray.mk #[], N, rfl, rfl, rfl, ⟨by rw [h1]; show 0 + N * 1 = N; omega, by omega, by omega⟩, hN, rfl⟩
  case round =>
    obtain ⟨x, y, k, rfl, rfl, rfl, HI, hk, HW⟩ := hrel
    have hw := HW.out
    subst hw
    by_cases hlt : 0 < k
    · have hltI : (0 : Int) < (k : Int) := by omega
      obtain ⟨i1, i2, i3⟩ := HI.out
      have hxk : x.size ≤ k * x.size := Nat.le_mul_of_pos_left _ hlt
      have a2 := fun W : World => add_ok2 x x (by omega) (by omega) W
      have a1 := fun W : World => add_ok2 y x (by omega) (by omega) W
      have hdd : (x ++ x).size = x.size + x.size := ByteArray.size_append
      have hyy : (y ++ x).size = y.size + x.size := ByteArray.size_append
      have hdiv : (k : Int).tdiv 2 = ((k / 2 : Nat) : Int) := by rw [Int.tdiv_eq_ediv_of_nonneg (by omega)]; omega
      by_cases hm : k % 2 = 1
      · have hmI : ((k : Int).tmod 2 == 1) = true := by rw [Int.tmod_eq_emod_of_nonneg (by omega)]; rw [beq_iff_eq]; omega
        have hmI2 : ((k : Int) % 2 == 1) = true := by rw [beq_iff_eq]; omega
        have HN : Hid ((y ++ x).size + k / 2 * (x ++ x).size = N ∧ 1 ≤ (x ++ x).size ∧ (x ++ x).size ≤ 200000) := by
          refine ⟨?_, by omega, by omega⟩
          rw [hyy, hdd]
          exact half_sum k x.size y.size N i1 hm
        clear i1 i2 i3 hxk hdd hyy
        go_wp2_with fail
        go_roundw
        case rel => exact ⟨x ++ x, y ++ x, k / 2, rfl, congrArg (Value.int IntKind.i64) (by omega), rfl, HN, by omega, trivial⟩
        case measure => simp only [intOf]; omega
      · have hmI : ((k : Int).tmod 2 == 1) = false := by rw [Int.tmod_eq_emod_of_nonneg (by omega)]; rw [beq_eq_false_iff_ne]; omega
        have hmI2 : ((k : Int) % 2 == 1) = false := by rw [beq_eq_false_iff_ne]; omega
        have HN : Hid (y.size + k / 2 * (x ++ x).size = N ∧ 1 ≤ (x ++ x).size ∧ (x ++ x).size ≤ 200000) := by
          refine ⟨?_, by omega, by omega⟩
          rw [hdd]
          exact half_sum0 k x.size y.size N i1 (by omega)
        clear i1 i2 i3 hxk hdd hyy
        go_wp2_with fail
        go_roundw
        case rel => exact ⟨x ++ x, y, k / 2, rfl, congrArg (Value.int IntKind.i64) (by omega), rfl, HN, by omega, trivial⟩
        case measure => simp only [intOf]; omega
    · have hge : ¬ (0 : Int) < (k : Int) := by omega
      have HZ : Hid (y.size ≤ 100000) := by
        have := HI.out.1
        show _ ≤ _
        omega
      go_wp2
      go_ret
      exact ⟨y, HZ.out, rfl, rfl⟩
end Go.Proofs.Ytnaaeooieljkmaa
