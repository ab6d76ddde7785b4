/-
  l1Many, walked.
-/
import Derived.Test.YtegihccdpohnnaaRd2
namespace Go.Proofs.Ytegihccdpohnnaa
open Go.RowKit

theorem add_ok2 (x y : ByteArray) (hx : x.size ≤ 1000000) (hy : y.size ≤ 1000000) (W : World) : (Op.stringOp .add x y).run Try.prog W = .ok (.string (x ++ y)) W := run_string_add_sum W x y (by omega)
theorem half_sum (n s o N : Nat) (h : o + n * s = N) (hm : n % 2 = 1) : (o + s) + n / 2 * (s + s) = N := by
  have e : n = 2 * (n / 2) + 1 := by omega
  rw [e, Nat.add_mul, Nat.one_mul] at h
  rw [← h, Nat.mul_add, Nat.mul_comm 2 (n / 2), Nat.mul_assoc, Nat.two_mul, Nat.mul_add]
  omega
theorem half_sum0 (n s o N : Nat) (h : o + n * s = N) (hm : n % 2 = 0) : o + n / 2 * (s + s) = N := by
  have e : n = 2 * (n / 2) := by omega
  rw [e] at h
  rw [← h, Nat.mul_add, Nat.mul_comm 2 (n / 2), Nat.mul_assoc, Nat.two_mul, Nat.mul_add]

end Go.Proofs.Ytegihccdpohnnaa
