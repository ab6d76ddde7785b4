/-
  TreeSplit and PeaksCount, walked.
-/
import Derived.Test.YtgpbodanaeelaaaRows
import Derived.Test.YtgpbodanaeelaaaJoinB5
import Derived.Test.YtgpbodanaeelaaaKit
import Derived.Deep.QuietTactic
import Derived.BigQuiet
import Derived.Deep.RegionWith
import Derived.Deep.RegionHeld3
import Derived.Deep.CutRange
import Derived.Deep.DeepCutAuto
import Derived.Deep.CutBlock
namespace Go.Proofs.Ytgpbodanaeelaaa
open Go.RowKit

/-- A number between two others. -/
theorem in_is (n lo hi : Int) (w : World) : Calls Try.prog 31 #[.int .i64 n, .int .i64 lo, .int .i64 hi] w fun e w' => e = .returned (.bool (decide (lo ≤ n) && decide (n ≤ hi))) ∧ w' = w := by
  by_cases h1 : lo ≤ n
  · go_enter Try.func31, Try.ntmps31
    go_wp2
    go_ret
    simp [h1]
  · go_enter Try.func31, Try.ntmps31
    go_wp2
    go_ret
    simp
    omega

/-- The greatest power of two below n (n from 2 on). -/
def sp (n : Nat) : Nat := 2 ^ Nat.log2 (n - 1)

theorem sp_out (n : Int) (h : n < 2 ∨ 256 < n) (w : World) : Calls Try.prog 21 #[.int .i64 n] w fun e w' => e = .returned (.int .i64 0) ∧ w' = w := by
  have hc : (decide ((2 : Int) ≤ n) && decide (n ≤ 256)) = false := by rw [Bool.and_eq_false_iff, decide_eq_false_iff_not, decide_eq_false_iff_not]; omega
  go_enter Try.func21, Try.ntmps21
  go_wp2_with (go_at_call 31; refine (in_is _ _ _ _).mono ?_; rw [hc]; rintro e w1 ⟨rfl, rfl⟩)
  go_ret
  exact ⟨rfl, rfl⟩
theorem sp_spec (n : Nat) (h2 : 2 ≤ n) (h256 : n ≤ 256) (w : World) : Calls Try.prog 21 #[.int .i64 (n : Int)] w fun e w' => e = .returned (.int .i64 (sp n : Int)) ∧ w' = w := by
  have hc : (decide ((2 : Int) ≤ (n : Int)) && decide ((n : Int) ≤ 256)) = true := by rw [Bool.and_eq_true, decide_eq_true_iff, decide_eq_true_iff]; omega
  go_enter Try.func21, Try.ntmps21
  go_wp2_with (go_at_call 31; refine (in_is _ _ _ _).mono ?_; rw [hc]; rintro e w1 ⟨rfl, rfl⟩)
  go_loopw [3] (fun v wr => ∃ j m : Nat, v = .int .i64 (m : Int) ∧ Hid (m = 2 ^ j) ∧ m < n ∧ wr = w1) (fun v _ => n - (intOf v).toNat)
  case atStart => exact ⟨0, 1, rfl, rfl, by omega, rfl⟩
  case round =>
    obtain ⟨j, m, rfl, HM, hm, rfl⟩ := hrel
    have hpos : 0 < m := by rw [HM.out]; exact Nat.two_pow_pos j
    by_cases hlt : 2 * m < n
    · have hltI : (2 : Int) * (m : Int) < (n : Int) := by omega
      go_wp2
      go_roundw
      case rel => exact ⟨j + 1, 2 * m, by go_num, (by show _ = _; rw [HM.out, Nat.pow_succ]; omega), hlt, trivial⟩
      case measure => simp [intOf]; omega
    · have hltI : ¬ (2 : Int) * (m : Int) < (n : Int) := by omega
      have hs : sp n = m := by
        unfold sp
        have e : Nat.log2 (n - 1) = j := (Nat.log2_eq_iff (by omega)).2 ⟨by rw [← HM.out]; omega, by rw [Nat.pow_succ, ← HM.out]; omega⟩
        rw [e, HM.out]
      have HS : Hid (sp n = m) := hs
      clear hs
      go_wp2
      go_ret
      exact ⟨by rw [HS.out]; rfl, rfl⟩
set_option maxRecDepth 1000000 in
theorem tab_is (i : Nat) (h : i < ((⟨List.toArray (List.append (List.append (0 :: 1 :: 2 :: 2 :: 3 :: 3 :: 3 :: 3 :: 4 :: 4 :: 4 :: 4 :: 4 :: 4 :: 4 :: 4 :: 5 :: 5 :: 5 :: 5 :: 5 :: 5 :: 5 :: 5 :: 5 :: 5 :: 5 :: 5 :: 5 :: 5 :: 5 :: 5 :: 6 :: 6 :: 6 :: 6 :: 6 :: 6 :: 6 :: 6 :: 6 :: 6 :: 6 :: 6 :: 6 :: 6 :: 6 :: 6 :: 6 :: 6 :: 6 :: 6 :: 6 :: 6 :: 6 :: 6 :: 6 :: 6 :: 6 :: 6 :: 6 :: 6 :: 6 :: 6 :: []) (7 :: 7 :: 7 :: 7 :: 7 :: 7 :: 7 :: 7 :: 7 :: 7 :: 7 :: 7 :: 7 :: 7 :: 7 :: 7 :: 7 :: 7 :: 7 :: 7 :: 7 :: 7 :: 7 :: 7 :: 7 :: 7 :: 7 :: 7 :: 7 :: 7 :: 7 :: 7 :: 7 :: 7 :: 7 :: 7 :: 7 :: 7 :: 7 :: 7 :: 7 :: 7 :: 7 :: 7 :: 7 :: 7 :: 7 :: 7 :: 7 :: 7 :: 7 :: 7 :: 7 :: 7 :: 7 :: 7 :: 7 :: 7 :: 7 :: 7 :: 7 :: 7 :: 7 :: 7 :: [])) (List.append (8 :: 8 :: 8 :: 8 :: 8 :: 8 :: 8 :: 8 :: 8 :: 8 :: 8 :: 8 :: 8 :: 8 :: 8 :: 8 :: 8 :: 8 :: 8 :: 8 :: 8 :: 8 :: 8 :: 8 :: 8 :: 8 :: 8 :: 8 :: 8 :: 8 :: 8 :: 8 :: 8 :: 8 :: 8 :: 8 :: 8 :: 8 :: 8 :: 8 :: 8 :: 8 :: 8 :: 8 :: 8 :: 8 :: 8 :: 8 :: 8 :: 8 :: 8 :: 8 :: 8 :: 8 :: 8 :: 8 :: 8 :: 8 :: 8 :: 8 :: 8 :: 8 :: 8 :: 8 :: []) (8 :: 8 :: 8 :: 8 :: 8 :: 8 :: 8 :: 8 :: 8 :: 8 :: 8 :: 8 :: 8 :: 8 :: 8 :: 8 :: 8 :: 8 :: 8 :: 8 :: 8 :: 8 :: 8 :: 8 :: 8 :: 8 :: 8 :: 8 :: 8 :: 8 :: 8 :: 8 :: 8 :: 8 :: 8 :: 8 :: 8 :: 8 :: 8 :: 8 :: 8 :: 8 :: 8 :: 8 :: 8 :: 8 :: 8 :: 8 :: 8 :: 8 :: 8 :: 8 :: 8 :: 8 :: 8 :: 8 :: 8 :: 8 :: 8 :: 8 :: 8 :: 8 :: 8 :: 8 :: [])))⟩ : ByteArray) : ByteArray).size) : ((((⟨List.toArray (List.append (List.append (0 :: 1 :: 2 :: 2 :: 3 :: 3 :: 3 :: 3 :: 4 :: 4 :: 4 :: 4 :: 4 :: 4 :: 4 :: 4 :: 5 :: 5 :: 5 :: 5 :: 5 :: 5 :: 5 :: 5 :: 5 :: 5 :: 5 :: 5 :: 5 :: 5 :: 5 :: 5 :: 6 :: 6 :: 6 :: 6 :: 6 :: 6 :: 6 :: 6 :: 6 :: 6 :: 6 :: 6 :: 6 :: 6 :: 6 :: 6 :: 6 :: 6 :: 6 :: 6 :: 6 :: 6 :: 6 :: 6 :: 6 :: 6 :: 6 :: 6 :: 6 :: 6 :: 6 :: 6 :: []) (7 :: 7 :: 7 :: 7 :: 7 :: 7 :: 7 :: 7 :: 7 :: 7 :: 7 :: 7 :: 7 :: 7 :: 7 :: 7 :: 7 :: 7 :: 7 :: 7 :: 7 :: 7 :: 7 :: 7 :: 7 :: 7 :: 7 :: 7 :: 7 :: 7 :: 7 :: 7 :: 7 :: 7 :: 7 :: 7 :: 7 :: 7 :: 7 :: 7 :: 7 :: 7 :: 7 :: 7 :: 7 :: 7 :: 7 :: 7 :: 7 :: 7 :: 7 :: 7 :: 7 :: 7 :: 7 :: 7 :: 7 :: 7 :: 7 :: 7 :: 7 :: 7 :: 7 :: 7 :: [])) (List.append (8 :: 8 :: 8 :: 8 :: 8 :: 8 :: 8 :: 8 :: 8 :: 8 :: 8 :: 8 :: 8 :: 8 :: 8 :: 8 :: 8 :: 8 :: 8 :: 8 :: 8 :: 8 :: 8 :: 8 :: 8 :: 8 :: 8 :: 8 :: 8 :: 8 :: 8 :: 8 :: 8 :: 8 :: 8 :: 8 :: 8 :: 8 :: 8 :: 8 :: 8 :: 8 :: 8 :: 8 :: 8 :: 8 :: 8 :: 8 :: 8 :: 8 :: 8 :: 8 :: 8 :: 8 :: 8 :: 8 :: 8 :: 8 :: 8 :: 8 :: 8 :: 8 :: 8 :: 8 :: []) (8 :: 8 :: 8 :: 8 :: 8 :: 8 :: 8 :: 8 :: 8 :: 8 :: 8 :: 8 :: 8 :: 8 :: 8 :: 8 :: 8 :: 8 :: 8 :: 8 :: 8 :: 8 :: 8 :: 8 :: 8 :: 8 :: 8 :: 8 :: 8 :: 8 :: 8 :: 8 :: 8 :: 8 :: 8 :: 8 :: 8 :: 8 :: 8 :: 8 :: 8 :: 8 :: 8 :: 8 :: 8 :: 8 :: 8 :: 8 :: 8 :: 8 :: 8 :: 8 :: 8 :: 8 :: 8 :: 8 :: 8 :: 8 :: 8 :: 8 :: 8 :: 8 :: 8 :: 8 :: [])))⟩ : ByteArray) : ByteArray)[i]'h).toNat : Int) = (if i = 0 then 0 else Nat.log2 i + 1 : Nat) := by
  have key : ∀ i : Fin 256, (((⟨List.toArray (List.append (List.append (0 :: 1 :: 2 :: 2 :: 3 :: 3 :: 3 :: 3 :: 4 :: 4 :: 4 :: 4 :: 4 :: 4 :: 4 :: 4 :: 5 :: 5 :: 5 :: 5 :: 5 :: 5 :: 5 :: 5 :: 5 :: 5 :: 5 :: 5 :: 5 :: 5 :: 5 :: 5 :: 6 :: 6 :: 6 :: 6 :: 6 :: 6 :: 6 :: 6 :: 6 :: 6 :: 6 :: 6 :: 6 :: 6 :: 6 :: 6 :: 6 :: 6 :: 6 :: 6 :: 6 :: 6 :: 6 :: 6 :: 6 :: 6 :: 6 :: 6 :: 6 :: 6 :: 6 :: 6 :: []) (7 :: 7 :: 7 :: 7 :: 7 :: 7 :: 7 :: 7 :: 7 :: 7 :: 7 :: 7 :: 7 :: 7 :: 7 :: 7 :: 7 :: 7 :: 7 :: 7 :: 7 :: 7 :: 7 :: 7 :: 7 :: 7 :: 7 :: 7 :: 7 :: 7 :: 7 :: 7 :: 7 :: 7 :: 7 :: 7 :: 7 :: 7 :: 7 :: 7 :: 7 :: 7 :: 7 :: 7 :: 7 :: 7 :: 7 :: 7 :: 7 :: 7 :: 7 :: 7 :: 7 :: 7 :: 7 :: 7 :: 7 :: 7 :: 7 :: 7 :: 7 :: 7 :: 7 :: 7 :: [])) (List.append (8 :: 8 :: 8 :: 8 :: 8 :: 8 :: 8 :: 8 :: 8 :: 8 :: 8 :: 8 :: 8 :: 8 :: 8 :: 8 :: 8 :: 8 :: 8 :: 8 :: 8 :: 8 :: 8 :: 8 :: 8 :: 8 :: 8 :: 8 :: 8 :: 8 :: 8 :: 8 :: 8 :: 8 :: 8 :: 8 :: 8 :: 8 :: 8 :: 8 :: 8 :: 8 :: 8 :: 8 :: 8 :: 8 :: 8 :: 8 :: 8 :: 8 :: 8 :: 8 :: 8 :: 8 :: 8 :: 8 :: 8 :: 8 :: 8 :: 8 :: 8 :: 8 :: 8 :: 8 :: []) (8 :: 8 :: 8 :: 8 :: 8 :: 8 :: 8 :: 8 :: 8 :: 8 :: 8 :: 8 :: 8 :: 8 :: 8 :: 8 :: 8 :: 8 :: 8 :: 8 :: 8 :: 8 :: 8 :: 8 :: 8 :: 8 :: 8 :: 8 :: 8 :: 8 :: 8 :: 8 :: 8 :: 8 :: 8 :: 8 :: 8 :: 8 :: 8 :: 8 :: 8 :: 8 :: 8 :: 8 :: 8 :: 8 :: 8 :: 8 :: 8 :: 8 :: 8 :: 8 :: 8 :: 8 :: 8 :: 8 :: 8 :: 8 :: 8 :: 8 :: 8 :: 8 :: 8 :: 8 :: [])))⟩ : ByteArray) : ByteArray)[i.val]'(by have := i.isLt; exact this)).toNat = (if i.val = 0 then 0 else Nat.log2 i.val + 1 : Nat) := by decide +kernel
  exact congrArg Int.ofNat (key ⟨i, h⟩)
def bl (x : Nat) : Nat := if x = 0 then 0 else Nat.log2 x + 1
theorem bl_le (x : Nat) (h : x < 256) : bl x ≤ 8 := by
  unfold bl
  split
  · omega
  · rename_i h0
    have := (Nat.log2_lt h0).2 (show x < 2 ^ 8 from h)
    omega
set_option maxRecDepth 1000000 in
set_option maxHeartbeats 1000000 in
theorem len_is (x : Nat) (hx : x < 256) (w : World) : Calls Try.prog 53 #[.int .u64 (x : Int)] w fun e w' => e = .returned (.int .i64 (bl x : Int)) ∧ w' = w := by
  have h1 : ¬ (4294967296 : Int) ≤ (x : Int) := by omega
  have h2 : ¬ (65536 : Int) ≤ (x : Int) := by omega
  have h3 : ¬ (256 : Int) ≤ (x : Int) := by omega
  have h4 : (x : Int) % 256 = (x : Int) := by omega
  have h5 : IntKind.u8.wrap (x : Int) = (x : Int) := by rw [IntKind.wrap_u8]; omega
  have h6 : (0 : Int) ≤ (x : Int) := by omega
  have hle := bl_le x hx
  obtain ⟨b, hb⟩ : ∃ b, b = bl x := ⟨_, rfl⟩
  have HB : Hid (b = if x = 0 then 0 else Nat.log2 x + 1) := hb
  rw [← hb] at hle ⊢
  clear hb
  go_enter Try.func53, Try.ntmps53
  have hv := tab_is
  have hs : ((⟨List.toArray (List.append (List.append (0 :: 1 :: 2 :: 2 :: 3 :: 3 :: 3 :: 3 :: 4 :: 4 :: 4 :: 4 :: 4 :: 4 :: 4 :: 4 :: 5 :: 5 :: 5 :: 5 :: 5 :: 5 :: 5 :: 5 :: 5 :: 5 :: 5 :: 5 :: 5 :: 5 :: 5 :: 5 :: 6 :: 6 :: 6 :: 6 :: 6 :: 6 :: 6 :: 6 :: 6 :: 6 :: 6 :: 6 :: 6 :: 6 :: 6 :: 6 :: 6 :: 6 :: 6 :: 6 :: 6 :: 6 :: 6 :: 6 :: 6 :: 6 :: 6 :: 6 :: 6 :: 6 :: 6 :: 6 :: []) (7 :: 7 :: 7 :: 7 :: 7 :: 7 :: 7 :: 7 :: 7 :: 7 :: 7 :: 7 :: 7 :: 7 :: 7 :: 7 :: 7 :: 7 :: 7 :: 7 :: 7 :: 7 :: 7 :: 7 :: 7 :: 7 :: 7 :: 7 :: 7 :: 7 :: 7 :: 7 :: 7 :: 7 :: 7 :: 7 :: 7 :: 7 :: 7 :: 7 :: 7 :: 7 :: 7 :: 7 :: 7 :: 7 :: 7 :: 7 :: 7 :: 7 :: 7 :: 7 :: 7 :: 7 :: 7 :: 7 :: 7 :: 7 :: 7 :: 7 :: 7 :: 7 :: 7 :: 7 :: [])) (List.append (8 :: 8 :: 8 :: 8 :: 8 :: 8 :: 8 :: 8 :: 8 :: 8 :: 8 :: 8 :: 8 :: 8 :: 8 :: 8 :: 8 :: 8 :: 8 :: 8 :: 8 :: 8 :: 8 :: 8 :: 8 :: 8 :: 8 :: 8 :: 8 :: 8 :: 8 :: 8 :: 8 :: 8 :: 8 :: 8 :: 8 :: 8 :: 8 :: 8 :: 8 :: 8 :: 8 :: 8 :: 8 :: 8 :: 8 :: 8 :: 8 :: 8 :: 8 :: 8 :: 8 :: 8 :: 8 :: 8 :: 8 :: 8 :: 8 :: 8 :: 8 :: 8 :: 8 :: 8 :: []) (8 :: 8 :: 8 :: 8 :: 8 :: 8 :: 8 :: 8 :: 8 :: 8 :: 8 :: 8 :: 8 :: 8 :: 8 :: 8 :: 8 :: 8 :: 8 :: 8 :: 8 :: 8 :: 8 :: 8 :: 8 :: 8 :: 8 :: 8 :: 8 :: 8 :: 8 :: 8 :: 8 :: 8 :: 8 :: 8 :: 8 :: 8 :: 8 :: 8 :: 8 :: 8 :: 8 :: 8 :: 8 :: 8 :: 8 :: 8 :: 8 :: 8 :: 8 :: 8 :: 8 :: 8 :: 8 :: 8 :: 8 :: 8 :: 8 :: 8 :: 8 :: 8 :: 8 :: 8 :: [])))⟩ : ByteArray) : ByteArray).size = 256 := by decide +kernel
  generalize (⟨List.toArray (List.append (List.append (0 :: 1 :: 2 :: 2 :: 3 :: 3 :: 3 :: 3 :: 4 :: 4 :: 4 :: 4 :: 4 :: 4 :: 4 :: 4 :: 5 :: 5 :: 5 :: 5 :: 5 :: 5 :: 5 :: 5 :: 5 :: 5 :: 5 :: 5 :: 5 :: 5 :: 5 :: 5 :: 6 :: 6 :: 6 :: 6 :: 6 :: 6 :: 6 :: 6 :: 6 :: 6 :: 6 :: 6 :: 6 :: 6 :: 6 :: 6 :: 6 :: 6 :: 6 :: 6 :: 6 :: 6 :: 6 :: 6 :: 6 :: 6 :: 6 :: 6 :: 6 :: 6 :: 6 :: 6 :: []) (7 :: 7 :: 7 :: 7 :: 7 :: 7 :: 7 :: 7 :: 7 :: 7 :: 7 :: 7 :: 7 :: 7 :: 7 :: 7 :: 7 :: 7 :: 7 :: 7 :: 7 :: 7 :: 7 :: 7 :: 7 :: 7 :: 7 :: 7 :: 7 :: 7 :: 7 :: 7 :: 7 :: 7 :: 7 :: 7 :: 7 :: 7 :: 7 :: 7 :: 7 :: 7 :: 7 :: 7 :: 7 :: 7 :: 7 :: 7 :: 7 :: 7 :: 7 :: 7 :: 7 :: 7 :: 7 :: 7 :: 7 :: 7 :: 7 :: 7 :: 7 :: 7 :: 7 :: 7 :: [])) (List.append (8 :: 8 :: 8 :: 8 :: 8 :: 8 :: 8 :: 8 :: 8 :: 8 :: 8 :: 8 :: 8 :: 8 :: 8 :: 8 :: 8 :: 8 :: 8 :: 8 :: 8 :: 8 :: 8 :: 8 :: 8 :: 8 :: 8 :: 8 :: 8 :: 8 :: 8 :: 8 :: 8 :: 8 :: 8 :: 8 :: 8 :: 8 :: 8 :: 8 :: 8 :: 8 :: 8 :: 8 :: 8 :: 8 :: 8 :: 8 :: 8 :: 8 :: 8 :: 8 :: 8 :: 8 :: 8 :: 8 :: 8 :: 8 :: 8 :: 8 :: 8 :: 8 :: 8 :: 8 :: []) (8 :: 8 :: 8 :: 8 :: 8 :: 8 :: 8 :: 8 :: 8 :: 8 :: 8 :: 8 :: 8 :: 8 :: 8 :: 8 :: 8 :: 8 :: 8 :: 8 :: 8 :: 8 :: 8 :: 8 :: 8 :: 8 :: 8 :: 8 :: 8 :: 8 :: 8 :: 8 :: 8 :: 8 :: 8 :: 8 :: 8 :: 8 :: 8 :: 8 :: 8 :: 8 :: 8 :: 8 :: 8 :: 8 :: 8 :: 8 :: 8 :: 8 :: 8 :: 8 :: 8 :: 8 :: 8 :: 8 :: 8 :: 8 :: 8 :: 8 :: 8 :: 8 :: 8 :: 8 :: [])))⟩ : ByteArray) = T at hv hs ⊢
  have HV : Hid (∀ (i : Nat) (h : i < T.size), ((T[i]'h).toNat : Int) = (if i = 0 then 0 else Nat.log2 i + 1 : Nat)) := hv
  clear hv
  generalize hy : (x : Int) = y at *
  have HY : Hid ((x : Int) = y) := hy
  clear hy
  go_wp2_with fail
  go_ret
  refine ⟨congrArg Ending.returned (congrArg (Value.int IntKind.i64) ?_), rfl⟩
  have e : y.toNat = x := by have := HY.out; omega
  have ht : ∀ h, ((T[y.toNat]'h).toNat : Int) = (b : Int) := fun h => by
    rw [HV.out y.toNat h, e, ← HB.out]
  show wrap64 (wrap64 ((T[y.toNat]'_).toNat : Int)) = _
  rw [ht]
  unfold wrap64
  omega
theorem len0_is (x : Nat) (hx : x < 256) (w : World) : Calls Try.prog 37 #[.int .u64 (x : Int)] w fun e w' => e = .returned (.int .i64 (bl x : Int)) ∧ w' = w := by
  go_enter Try.func37, Try.ntmps37
  go_wp2_with (go_at_call 53; refine (len_is x hx _).mono ?_; rintro e w1 ⟨rfl, rfl⟩)
  go_ret
  exact ⟨rfl, rfl⟩
theorem sp_out_impl (n : Int) (h : n < 2 ∨ 256 < n) (w : World) : Calls Try.prog 20 #[.int .i64 n] w fun e w' => e = .returned (.int .i64 0) ∧ w' = w := by
  by_cases h1 : n < 2
  · go_enter Try.func20, Try.ntmps20
    go_wp2
    go_ret
    exact ⟨rfl, rfl⟩
  · have h2 : 256 < n := by omega
    go_enter Try.func20, Try.ntmps20
    go_wp2
    go_ret
    exact ⟨rfl, rfl⟩
set_option maxHeartbeats 1000000 in
theorem sp_impl (n : Nat) (h2 : 2 ≤ n) (h256 : n ≤ 256) (w : World) : Calls Try.prog 20 #[.int .i64 (n : Int)] w fun e w' => e = .returned (.int .i64 (sp n : Int)) ∧ w' = w := by
  have hI2 : ¬ (n : Int) < 2 := by omega
  have hI256 : ¬ 256 < (n : Int) := by omega
  obtain ⟨x, hx⟩ : ∃ x, n = x + 1 := ⟨n - 1, by omega⟩
  subst hx
  have hw1 : IntKind.i64.wrap ((x + 1 : Nat) - 1 : Int) = (x : Int) := by rw [IntWalk.i64_in _ (by omega)]; omega
  have hw2 : (((x + 1 : Nat) : Int) - 1) = (x : Int) := by omega
  have hb : bl x = Nat.log2 x + 1 := by unfold bl; rw [if_neg (by omega)]
  have hl : Nat.log2 x < 8 := (Nat.log2_lt (by omega)).2 (by omega)
  have HS : Hid (sp (x + 1) = 2 ^ Nat.log2 x) := by show _ = _; unfold sp; rw [Nat.add_sub_cancel]
  go_enter Try.func20, Try.ntmps20
  go_wp2_with (go_at_call 37; refine (len0_is x (by omega) _).mono ?_; rw [hb]; rintro e w1 ⟨rfl, rfl⟩)
  go_ret
  refine ⟨congrArg Ending.returned (congrArg (Value.int IntKind.i64) ?_), rfl⟩
  rw [HS.out]
  have hp : 2 ^ Nat.log2 x ≤ x := Nat.log2_self_le (by omega)
  have hc : ((2 ^ Nat.log2 x : Nat) : Int) = (2 : Int) ^ Nat.log2 x := by simp
  show wrap64 ((2 : Int) ^ Nat.log2 x) = _
  rw [← hc]
  clear hc
  generalize 2 ^ Nat.log2 x = p at hp ⊢
  unfold wrap64
  omega

/-- How many binary ones. -/
def pcF : Nat → Nat → Nat
  | 0, _ => 0
  | f + 1, n => n % 2 + pcF f (n / 2)
def pc (n : Nat) : Nat := pcF 9 n
theorem pcF_zero : ∀ f, pcF f 0 = 0
  | 0 => rfl
  | f + 1 => by simp [pcF, pcF_zero f]
theorem pcF_le : ∀ f n, pcF f n ≤ f
  | 0, _ => Nat.le_refl 0
  | f + 1, n => by
    have := pcF_le f (n / 2)
    simp only [pcF]
    omega
set_option maxHeartbeats 1000000 in
theorem ones_is (x : Nat) (hx : x ≤ 256) (w : World) : Calls Try.prog 47 #[.int .u64 (x : Int)] w fun e w' => e = .returned (.int .i64 (pc x : Int)) ∧ w' = w := by
  go_enter Try.func47, Try.ntmps47
  generalize hy : (x : Int) = y
  have HY : Hid ((x : Int) = y) := hy
  clear hy
  go_wp2_with fail
  go_ret
  refine ⟨congrArg Ending.returned (congrArg (Value.int IntKind.i64) ?_), rfl⟩
  have hy := HY.out
  subst hy
  clear HY
  revert hx
  revert x
  decide +kernel
theorem pc_out (n : Int) (h : n < 0 ∨ 256 < n) (w : World) : Calls Try.prog 10 #[.int .i64 n] w fun e w' => e = .returned (.int .i64 0) ∧ w' = w := by
  have hc : (decide ((0 : Int) ≤ n) && decide (n ≤ 256)) = false := by rw [Bool.and_eq_false_iff, decide_eq_false_iff_not, decide_eq_false_iff_not]; omega
  go_enter Try.func10, Try.ntmps10
  go_wp2_with (go_at_call 31; refine (in_is _ _ _ _).mono ?_; rw [hc]; rintro e w1 ⟨rfl, rfl⟩)
  go_ret
  exact ⟨rfl, rfl⟩
set_option maxHeartbeats 1000000 in
theorem pc_spec (n : Nat) (h256 : n ≤ 256) (w : World) : Calls Try.prog 10 #[.int .i64 (n : Int)] w fun e w' => e = .returned (.int .i64 (pc n : Int)) ∧ w' = w := by
  have hc : (decide ((0 : Int) ≤ (n : Int)) && decide ((n : Int) ≤ 256)) = true := by rw [Bool.and_eq_true, decide_eq_true_iff, decide_eq_true_iff]; omega
  go_enter Try.func10, Try.ntmps10
  go_wp2_with (go_at_call 31; refine (in_is _ _ _ _).mono ?_; rw [hc]; rintro e w1 ⟨rfl, rfl⟩)
  go_loopw [0, 3] (fun v c wr => ∃ f m k : Nat, v = .int .i64 (m : Int) ∧ c = .int .i64 (k : Int) ∧ Hid (k + pcF f m = pc n ∧ m < 2 ^ f ∧ f ≤ 9) ∧ k ≤ 9 ∧ m ≤ 256 ∧ Hid (wr = w1)) (fun v _ _ => (intOf v).toNat)
  case atStart => exact ⟨9, n, 0, rfl, rfl, ⟨by simp [pc], by omega, by omega⟩, by omega, by omega, rfl⟩
  case round =>
    obtain ⟨f, m, k, rfl, rfl, HM, hk, hm, HW⟩ := hrel
    have hwr := HW.out
    subst hwr
    by_cases hlt : 0 < m
    · have hltI : (0 : Int) < (m : Int) := by omega
      have hmod : (m : Int).tmod 2 = ((m % 2 : Nat) : Int) := by rw [Int.tmod_eq_emod_of_nonneg (by omega)]; omega
      have hdiv : (m : Int).tdiv 2 = ((m / 2 : Nat) : Int) := by rw [Int.tdiv_eq_ediv_of_nonneg (by omega)]; omega
      obtain ⟨g, hg⟩ : ∃ g, f = g + 1 := by
        cases f with
        | zero => have := HM.out.2.1; simp at this; omega
        | succ g => exact ⟨g, rfl⟩
      subst hg
      have hpc : pc n ≤ 9 := pcF_le 9 n
      have HN : Hid ((k + m % 2) + pcF g (m / 2) = pc n ∧ m / 2 < 2 ^ g ∧ g ≤ 9) := by
        obtain ⟨a1, a2, a3⟩ := HM.out
        simp only [pcF] at a1
        rw [Nat.pow_succ] at a2
        exact ⟨by omega, by omega, by omega⟩
      have hk' : k + m % 2 ≤ 9 := by have := HN.out.1; omega
      go_wp2
      refine ⟨⟨g, m / 2, k + m % 2, congrArg (Value.int IntKind.i64) (by omega), congrArg (Value.int IntKind.i64) (by omega), HN, hk', by omega, trivial⟩, ?_⟩
      simp only [intOf]
      omega
    · have hm0 : m = 0 := by omega
      subst hm0
      have HK : Hid (k = pc n) := by
        have := HM.out.1
        rw [pcF_zero] at this
        exact this
      go_wp2
      go_ret
      exact ⟨by rw [← HK.out]; rfl, rfl⟩
theorem ones0_is (x : Nat) (hx : x ≤ 256) (w : World) : Calls Try.prog 30 #[.int .u64 (x : Int)] w fun e w' => e = .returned (.int .i64 (pc x : Int)) ∧ w' = w := by
  go_enter Try.func30, Try.ntmps30
  go_wp2_with (go_at_call 47; refine (ones_is x hx _).mono ?_; rintro e w1 ⟨rfl, rfl⟩)
  go_ret
  exact ⟨rfl, rfl⟩
theorem pc_out_impl (n : Int) (h : n < 0 ∨ 256 < n) (w : World) : Calls Try.prog 9 #[.int .i64 n] w fun e w' => e = .returned (.int .i64 0) ∧ w' = w := by
  by_cases h1 : n < 0
  · go_enter Try.func9, Try.ntmps9
    go_wp2
    go_ret
    exact ⟨rfl, rfl⟩
  · have h2 : 256 < n := by omega
    go_enter Try.func9, Try.ntmps9
    go_wp2
    go_ret
    exact ⟨rfl, rfl⟩
theorem pc_impl (n : Nat) (h256 : n ≤ 256) (w : World) : Calls Try.prog 9 #[.int .i64 (n : Int)] w fun e w' => e = .returned (.int .i64 (pc n : Int)) ∧ w' = w := by
  have h1 : ¬ (n : Int) < 0 := by omega
  have h2 : ¬ 256 < (n : Int) := by omega
  go_enter Try.func9, Try.ntmps9
  go_wp2_with (go_at_call 30; refine (ones0_is n h256 _).mono ?_; rintro e w1 ⟨rfl, rfl⟩)
  go_ret
  exact ⟨rfl, rfl⟩

/-! The two laws. -/
def spI (n : Int) : Int := if n < 2 ∨ 256 < n then 0 else (sp n.toNat : Int)
theorem sp_spec_all (n : Int) (w : World) : Calls Try.prog 21 #[.int .i64 n] w fun e w' => e = .returned (.int .i64 (spI n)) ∧ w' = w := by
  unfold spI
  split
  · exact sp_out n ‹_› w
  · have := sp_spec n.toNat (by omega) (by omega) w
    rwa [Int.toNat_of_nonneg (by omega)] at this
theorem sp_impl_all (n : Int) (w : World) : Calls Try.prog 20 #[.int .i64 n] w fun e w' => e = .returned (.int .i64 (spI n)) ∧ w' = w := by
  unfold spI
  split
  · exact sp_out_impl n ‹_› w
  · have := sp_impl n.toNat (by omega) (by omega) w
    rwa [Int.toNat_of_nonneg (by omega)] at this
def pcI (n : Int) : Int := if n < 0 ∨ 256 < n then 0 else (pc n.toNat : Int)
theorem pc_spec_all (n : Int) (w : World) : Calls Try.prog 10 #[.int .i64 n] w fun e w' => e = .returned (.int .i64 (pcI n)) ∧ w' = w := by
  unfold pcI
  split
  · exact pc_out n ‹_› w
  · have := pc_spec n.toNat (by omega) w
    rwa [Int.toNat_of_nonneg (by omega)] at this
theorem pc_impl_all (n : Int) (w : World) : Calls Try.prog 9 #[.int .i64 n] w fun e w' => e = .returned (.int .i64 (pcI n)) ∧ w' = w := by
  unfold pcI
  split
  · exact pc_out_impl n ‹_› w
  · have := pc_impl n.toNat (by omega) w
    rwa [Int.toNat_of_nonneg (by omega)] at this
end Go.Proofs.Ytgpbodanaeelaaa
