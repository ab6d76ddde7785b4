/-
  A list of digests is marked, and looked at again.
-/
import Derived.Test.YtdcmhkimpmboeaaStk
namespace Go.Proofs.Ytdcmhkimpmboeaa
open Go.RowKit

/-- The four marks from k on. -/
def mkq (k : Nat) : Qd := ⟨UInt64.ofNat k, UInt64.ofNat (k + 1), UInt64.ofNat (k + 2), UInt64.ofNat (k + 3)⟩
/-- The marks of a list of n digests, from k on. -/
def mks (k n : Nat) : List Qd := (List.range n).map (fun i => mkq (k + 4 * i))
theorem mks_len (k n : Nat) : (mks k n).length = n := by simp [mks]
theorem mks_get (k n i : Nat) (h : i < (mks k n).length) : (mks k n)[i] = mkq (k + 4 * i) := by simp [mks]
theorem of_nat {x : Nat} (h : x < 18446744073709551616) : ((UInt64.ofNat x).toNat : Int) = (x : Int) := by
  rw [UInt64.toNat_ofNat', Nat.mod_eq_of_lt h]
theorem mkq_cells {k : Nat} (h : k ≤ 1099511627776) : (((mkq k).a.toNat : Nat) : Int) = (k : Int) ∧ (((mkq k).b.toNat : Nat) : Int) = (k : Int) + 1 ∧ (((mkq k).c.toNat : Nat) : Int) = (k : Int) + 1 + 1 ∧ (((mkq k).d.toNat : Nat) : Int) = (k : Int) + 1 + 1 + 1 := by
  refine ⟨of_nat (by omega), ?_, ?_, ?_⟩
  · exact (of_nat (by omega)).trans (by omega)
  · exact (of_nat (by omega)).trans (by omega)
  · exact (of_nat (by omega)).trans (by omega)
/-- Places that may be written. -/
theorem DR.bare {B n k : Nat} {L : List Qd} {W : World} (h : DR B n L k W) (L' : List Qd) : DR B n L' 0 W := ⟨h.1, h.2.1, fun i _ hk => by omega⟩

theorem grown_trans {W W1 W2 : World} {r : Option Nat} (h : W.grownBy W1 r) (h' : W1.grownBy W2 r) : W.grownBy W2 r :=
  ⟨h'.os.trans h.os, h'.tape.trans h.tape, h'.output.trans h.output, Nat.le_trans h.size h'.size, fun k hk hne => (h'.block k (Nat.lt_of_lt_of_le hk h.size) hne).trans (h.block k hk hne)⟩
set_option maxRecDepth 20000 in
set_option maxHeartbeats 1000000 in
theorem mark_nil (W : World) (oa : Option Addr) (cap k : Nat) :
    Calls Try.prog 13 #[.slice oa 0 cap, .int .i64 (k : Int)] W fun e w' => e = .returned (.int .i64 (k : Int)) ∧ w' = W := by
  go_enter Try.func13, Try.ntmps13
  go_wp2
  go_loopw [1, 5] (fun m i wr => m = .int .i64 (k : Int) ∧ i = .int .i64 0 ∧ wr = W) (fun _ _ _ => 0)
  case atStart => exact ⟨rfl, rfl, rfl⟩
  case round =>
    obtain ⟨rfl, rfl, rfl⟩ := hrel
    go_wp2
    go_ret
    exact ⟨rfl, rfl⟩
set_option maxRecDepth 20000 in
set_option maxHeartbeats 1000000 in
theorem held_nil (W : World) (oa : Option Addr) (cap k : Nat) :
    Calls Try.prog 14 #[.slice oa 0 cap, .int .i64 (k : Int)] W fun e w' => e = .returned (.int .i64 (k : Int)) ∧ w' = W := by
  go_enter Try.func14, Try.ntmps14
  go_wp2
  go_loopw [1, 5] (fun m i wr => m = .int .i64 (k : Int) ∧ i = .int .i64 0 ∧ wr = W) (fun _ _ _ => 0)
  case atStart => exact ⟨rfl, rfl, rfl⟩
  case round =>
    obtain ⟨rfl, rfl, rfl⟩ := hrel
    go_wp2
    go_ret
    exact ⟨rfl, rfl⟩
set_option maxRecDepth 20000 in
set_option maxHeartbeats 1000000 in
theorem mark_is (W : World) (g n cap k : Nat) (h : DR g n [] 0 W) (hn : n ≤ 1048576) (hk : k ≤ 1048576) :
    Calls Try.prog 13 #[.slice (some ⟨g, 0, none⟩) n cap, .int .i64 (k : Int)] W fun e w' => e = .returned (.int .i64 ((k + 4 * n : Nat) : Int)) ∧ W.grownBy w' (some g) ∧ DR g n (mks k n) n w' := by
  have HS : Hid (W.grownBy W (some g) ∧ DR g n (mks k n) 0 W) := ⟨⟨rfl, rfl, rfl, Nat.le_refl _, fun _ _ _ => rfl⟩, h.bare _⟩
  clear h
  go_enter Try.func13, Try.ntmps13
  go_wp2_with fail
  go_loopw [1, 5] (fun m i wr => ∃ j : Nat, j ≤ n ∧ m = .int .i64 ((k + 4 * j : Nat) : Int) ∧ i = .int .i64 (j : Int) ∧ Hid (W.grownBy wr (some g) ∧ DR g n (mks k n) j wr)) (fun _ i _ => n - (intOf i).toNat)
  case atStart => exact ⟨0, by omega, rfl, rfl, HS⟩
  case round =>
    obtain ⟨j, hj, rfl, rfl, HR⟩ := hrel
    by_cases hlt : j < n
    · have HL : Hid (j < (mks k n).length ∧ n - (j + 1) < n - j) := ⟨by rw [mks_len]; exact hlt, by omega⟩
      have HN := HR.out.2.step HL.out.1 hlt
      simp only [mks_get] at HN
      obtain ⟨m, hm⟩ : ∃ m, m = k + 4 * j := ⟨_, rfl⟩
      rw [← hm] at HN ⊢
      have hm4 : k + 4 * (j + 1) = m + 4 := by omega
      have hmb : m ≤ 1099511627776 := by omega
      obtain ⟨q0, q1, q2, q3⟩ := mkq_cells hmb
      rw [q0, q1, q2, q3] at HN
      have HD : Hid (DR g n (mks k n) (j + 1) _) := HN
      have HM : Hid (k + 4 * (j + 1) = m + 4) := hm4
      have hmI : (m : Int) ≤ 1099511627776 := by omega
      have hm0 : 0 ≤ (m : Int) := by omega
      have v0 : IntKind.u64.wrap (m : Int) = (m : Int) := IntWalk.u64_in _ (by omega)
      have v1 : IntKind.u64.wrap ((m : Int) + 1) = (m : Int) + 1 := IntWalk.u64_in _ (by omega)
      have v2 : IntKind.u64.wrap ((m : Int) + 1 + 1) = (m : Int) + 1 + 1 := IntWalk.u64_in _ (by omega)
      have v3 : IntKind.u64.wrap ((m : Int) + 1 + 1 + 1) = (m : Int) + 1 + 1 + 1 := IntWalk.u64_in _ (by omega)
      have a1 : IntKind.i64.wrap ((m : Int) + 1) = (m : Int) + 1 := IntWalk.i64_in _ (by omega)
      have a2 : IntKind.i64.wrap ((m : Int) + 1 + 1) = (m : Int) + 1 + 1 := IntWalk.i64_in _ (by omega)
      have a3 : IntKind.i64.wrap ((m : Int) + 1 + 1 + 1) = (m : Int) + 1 + 1 + 1 := IntWalk.i64_in _ (by omega)
      have a4 : IntKind.i64.wrap ((m : Int) + 1 + 1 + 1 + 1) = (m : Int) + 1 + 1 + 1 + 1 := IntWalk.i64_in _ (by omega)
      have b1 : IntKind.i64.wrap ((j : Int) + 1) = (j : Int) + 1 := IntWalk.i64_in _ (by omega)
      obtain ⟨u0, u1, u2, u3, ⟨c0, c1, c2, c3⟩, f0, f1, f2, f3⟩ := HR.out.2.facts hlt
      have HG : Hid (W.grownBy wr (some g)) := HR.out.1
      have hj0 : (0 : Int) ≤ (j : Int) := by omega
      have hjI : (j : Int) < (n : Int) := by omega
      clear HR HS HN hm hm4 q0 q1 q2 q3
      go_wp2_with fail
      exact ⟨⟨j + 1, by omega, congrArg (Value.int IntKind.i64) (by have := HM.out; omega), rfl, grown_trans (grown_trans (grown_trans (grown_trans HG.out (grown_set _ _ _ _)) (grown_set _ _ _ _)) (grown_set _ _ _ _)) (grown_set _ _ _ _), HD.out⟩, by simp only [intOf]; omega⟩
    · have hkk : j = n := by omega
      subst hkk
      clear HS
      go_wp2_with fail
      go_ret
      exact ⟨rfl, HR.out⟩
set_option maxRecDepth 20000 in
set_option maxHeartbeats 1000000 in
theorem held_is (W : World) (g n cap k : Nat) (h : DR g n (mks k n) n W) (hn : n ≤ 1048576) (hk : k ≤ 1048576) :
    Calls Try.prog 14 #[.slice (some ⟨g, 0, none⟩) n cap, .int .i64 (k : Int)] W fun e w' => e = .returned (.int .i64 ((k + 4 * n : Nat) : Int)) ∧ w' = W := by
  have HS : Hid (DR g n (mks k n) n W) := h
  clear h
  go_enter Try.func14, Try.ntmps14
  go_wp2_with fail
  go_loopw [1, 5] (fun m i wr => ∃ j : Nat, j ≤ n ∧ m = .int .i64 ((k + 4 * j : Nat) : Int) ∧ i = .int .i64 (j : Int) ∧ wr = W) (fun _ i _ => n - (intOf i).toNat)
  case atStart => exact ⟨0, by omega, rfl, rfl, rfl⟩
  case round =>
    obtain ⟨j, hj, rfl, rfl, rfl⟩ := hrel
    by_cases hlt : j < n
    · have HN := HS.out.2.2 j (by rw [mks_len]; exact hlt) hlt
      simp only [mks_get] at HN
      obtain ⟨m, hm⟩ : ∃ m, m = k + 4 * j := ⟨_, rfl⟩
      rw [← hm] at HN ⊢
      have hm4 : k + 4 * (j + 1) = m + 4 := by omega
      have hmb : m ≤ 1099511627776 := by omega
      obtain ⟨q0, q1, q2, q3⟩ := mkq_cells hmb
      unfold DAt at HN
      rw [q0, q1, q2, q3] at HN
      obtain ⟨c0, c1, c2, c3⟩ := HN
      have HM : Hid (k + 4 * (j + 1) = m + 4) := hm4
      have hmI : (m : Int) ≤ 1099511627776 := by omega
      have hm0 : 0 ≤ (m : Int) := by omega
      have v0 : IntKind.u64.wrap (m : Int) = (m : Int) := IntWalk.u64_in _ (by omega)
      have v1 : IntKind.u64.wrap ((m : Int) + 1) = (m : Int) + 1 := IntWalk.u64_in _ (by omega)
      have v2 : IntKind.u64.wrap ((m : Int) + 1 + 1) = (m : Int) + 1 + 1 := IntWalk.u64_in _ (by omega)
      have v3 : IntKind.u64.wrap ((m : Int) + 1 + 1 + 1) = (m : Int) + 1 + 1 + 1 := IntWalk.u64_in _ (by omega)
      have a1 : IntKind.i64.wrap ((m : Int) + 1) = (m : Int) + 1 := IntWalk.i64_in _ (by omega)
      have a2 : IntKind.i64.wrap ((m : Int) + 1 + 1) = (m : Int) + 1 + 1 := IntWalk.i64_in _ (by omega)
      have a3 : IntKind.i64.wrap ((m : Int) + 1 + 1 + 1) = (m : Int) + 1 + 1 + 1 := IntWalk.i64_in _ (by omega)
      have a4 : IntKind.i64.wrap ((m : Int) + 1 + 1 + 1 + 1) = (m : Int) + 1 + 1 + 1 + 1 := IntWalk.i64_in _ (by omega)
      have b1 : IntKind.i64.wrap ((j : Int) + 1) = (j : Int) + 1 := IntWalk.i64_in _ (by omega)
      have hj0 : (0 : Int) ≤ (j : Int) := by omega
      have hjI : (j : Int) < (n : Int) := by omega
      clear HS hm hm4 q0 q1 q2 q3
      go_wp2_with fail
      exact ⟨⟨j + 1, by omega, congrArg (Value.int IntKind.i64) (by have := HM.out; omega), rfl, by first | rfl | trivial⟩, by simp only [intOf]; omega⟩
    · have hkk : j = n := by omega
      subst hkk
      clear HS
      go_wp2_with fail
      go_ret
      exact ⟨rfl, rfl⟩
end Go.Proofs.Ytdcmhkimpmboeaa
