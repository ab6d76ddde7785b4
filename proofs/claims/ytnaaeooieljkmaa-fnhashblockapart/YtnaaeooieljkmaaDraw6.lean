/-
  The laws' at: a byte of a code.
-/
import Derived.Test.YtnaaeooieljkmaaDraw5
namespace Go.Proofs.Ytnaaeooieljkmaa
open Go.RowKit

theorem u8_nat (z : Int) : ∃ x : Nat, x < 256 ∧ IntKind.u8.wrap z = (x : Int) := by
  refine ⟨(z % 256).toNat, by omega, ?_⟩
  rw [IntKind.wrap_u8]
  omega

set_option maxRecDepth 20000 in
set_option maxHeartbeats 400000 in
theorem at_none (W : World) (oa : Option Addr) (n cap : Nat) (hn : n = 0) (i : Nat) (hi : i ≤ 1000) :
    Calls Try.prog 10 #[.slice oa n cap, .int .i64 (i : Int)] W fun e w' => ∃ x : Nat, x < 256 ∧ e = .returned (.int .u8 (x : Int)) ∧ Below W.heap.size W w' := by
  subst hn
  have hw37 : IntKind.i64.wrap ((i : Int) * 37) = (i : Int) * 37 := IntWalk.i64_in _ (by omega)
  obtain ⟨z, hz, hzw⟩ := u8_nat ((i : Int) * 37)
  go_enter Try.func10, Try.ntmps10
  go_wp2_with fail
  go_ret
  exact ⟨z, hz, rfl, Below.refl _ _⟩

set_option maxRecDepth 20000 in
set_option maxHeartbeats 400000 in
theorem at_in (W : World) (a : Addr) (n cap : Nat) (i : Nat) (hi : i ≤ 1000) (h6 : i < n) (x : Nat) (hx : x < 256) (hc : W.cell? (a.add i) = some (.int .u8 (x : Int))) :
    Calls Try.prog 10 #[.slice (some a) n cap, .int .i64 (i : Int)] W fun e w' => ∃ x : Nat, x < 256 ∧ e = .returned (.int .u8 (x : Int)) ∧ Below W.heap.size W w' := by
  have h0I : ((n : Int) == 0) = false := by rw [beq_eq_false_iff_ne]; omega
  have hi0 : (0 : Int) ≤ (i : Int) := by omega
  have h6I : (i : Int) < (n : Int) := by omega
  have hwp := (wrap_small i (by omega)).2
  have hwp2 := (wrap_small i (by omega)).1
  go_enter Try.func10, Try.ntmps10
  go_wp2_with fail
  go_ret
  exact ⟨x, hx, rfl, Below.refl _ _⟩

end Go.Proofs.Ytnaaeooieljkmaa
