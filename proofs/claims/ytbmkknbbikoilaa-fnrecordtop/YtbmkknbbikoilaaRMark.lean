/-
  Raw writes marked, and held to bear their marks.
-/
import Derived.Test.YtbmkknbbikoilaaRMend
namespace Go.Proofs.Ytbmkknbbikoilaa
open Go.RowKit

/-- The first n raw writes of the block B bear the marks from 1 on. -/
def RMk (B n : Nat) (W : World) : Prop := ∀ i, i < n → W.cell? ⟨B, i * 3, none⟩ = some (.int .i64 ((1 + 3 * i : Nat) : Int)) ∧ W.cell? ⟨B, i * 3 + 1, none⟩ = some (.int .i64 (((1 + 3 * i : Nat) : Int) + 1)) ∧ W.cell? ⟨B, i * 3 + 2, none⟩ = some (.int .u64 (((1 + 3 * i : Nat) : Int) + 1 + 1))
theorem RMk.call {B n : Nat} {W W' : World} (h : RMk B n W) (hB : B < W.heap.size) (hb : Below W.heap.size W W') : RMk B n W' := fun i hi => by
  obtain ⟨h1, h2, h3⟩ := h i hi
  exact ⟨(hb.cell (p := ⟨B, i * 3, none⟩) hB).trans h1, (hb.cell (p := ⟨B, i * 3 + 1, none⟩) hB).trans h2, (hb.cell (p := ⟨B, i * 3 + 2, none⟩) hB).trans h3⟩
theorem RMk.set {B n o : Nat} {W : World} (h : RMk B n W) (x : Value) (ho : n * 3 ≤ o) : RMk B n (W.setCell ⟨B, o, none⟩ x) := fun i hi => by
  obtain ⟨h1, h2, h3⟩ := h i hi
  exact ⟨(set_off (by omega)).trans h1, (set_off (by omega)).trans h2, (set_off (by omega)).trans h3⟩
/-- What stands while raw writes are marked. -/
def MS (W : World) (B n j : Nat) (wr : World) : Prop := W.grownBy wr (some B) ∧ Room B 0 (n * 3) wr ∧ RMk B j wr
theorem MS.step {W wr : World} {B n j m : Nat} (h : MS W B n j wr) (hj : j < n) (hm : m = 1 + 3 * j) :
    MS W B n (j + 1) (((wr.setCell ⟨B, j * 3, none⟩ (.int .i64 (m : Int))).setCell ⟨B, j * 3 + 1, none⟩ (.int .i64 ((m : Int) + 1))).setCell ⟨B, j * 3 + 2, none⟩ (.int .u64 ((m : Int) + 1 + 1))) := by
  obtain ⟨h1, h2, h3⟩ := h
  have is := fun (V : World) (hV : Room B 0 (n * 3) V) (i : Nat) (hi : i < n * 3) => by
    have := hV.1 i hi
    rw [Nat.zero_add] at this
    exact this
  have s1 := h2.set B (j * 3) (.int .i64 (m : Int))
  have s2 := s1.set B (j * 3 + 1) (.int .i64 ((m : Int) + 1))
  have s3 := s2.set B (j * 3 + 2) (.int .u64 ((m : Int) + 1 + 1))
  refine ⟨((h1.trans2B (sc_grown wr B (j * 3) [.int .i64 (m : Int)])).trans2B (sc_grown _ B (j * 3 + 1) [.int .i64 ((m : Int) + 1)])).trans2B (sc_grown _ B (j * 3 + 2) [.int .u64 ((m : Int) + 1 + 1)]), s3, fun i hi => ?_⟩
  by_cases e : i = j
  · subst e hm
    refine ⟨?_, ?_, set_same (is _ s2 _ (by omega))⟩
    · rw [set_off (by omega), set_off (by omega), set_same (is _ h2 _ (by omega))]
    · rw [set_off (by omega), set_same (is _ s1 _ (by omega))]
  · exact (((h3.set _ (Nat.le_refl _)).set _ (by omega)).set _ (by omega)) i (by omega)
set_option maxRecDepth 20000 in
set_option maxHeartbeats 2000000 in
theorem markraws_is (W : World) (B n cap : Nat) (h : Room B 0 (n * 3) W) (hn : n ≤ 1000) :
    Calls Try.prog 12 #[.slice (some ⟨B, 0, none⟩) n cap, .int .i64 1] W fun e w' => e = .returned (.int .i64 ((1 + 3 * n : Nat) : Int)) ∧ W.grownBy w' (some B) ∧ Room B 0 (n * 3) w' ∧ RMk B n w' := by
  have HS : Hid (MS W B n 0 W) := ⟨⟨rfl, rfl, rfl, Nat.le_refl _, fun _ _ _ => rfl⟩, h, fun i hi => by omega⟩
  clear h
  go_enter Try.func12, Try.ntmps12
  go_wp2_with fail
  go_loopw [1, 5] (fun m i wr => ∃ j : Nat, j ≤ n ∧ m = .int .i64 ((1 + 3 * j : Nat) : Int) ∧ i = .int .i64 (j : Int) ∧ Hid (MS W B n j wr)) (fun _ i _ => n - (intOf i).toNat)
  case atStart => exact ⟨0, by omega, rfl, rfl, HS⟩
  case round =>
    obtain ⟨j, hj, rfl, rfl, HR⟩ := hrel
    by_cases hlt : j < n
    · have r2 := HR.out.2.1
      have is := fun (i : Nat) (hi : i < n * 3) => by
        have := r2.1 i hi
        rw [Nat.zero_add] at this
        exact this
      have fz := fun (i : Nat) (hi : i < n * 3) => by
        have := r2.2 i hi
        rw [Nat.zero_add] at this
        exact this
      obtain ⟨u0, c0⟩ := Option.isSome_iff_exists.1 (is (j * 3) (by omega))
      obtain ⟨u1, c1⟩ := Option.isSome_iff_exists.1 (is (j * 3 + 1) (by omega))
      obtain ⟨u2, c2⟩ := Option.isSome_iff_exists.1 (is (j * 3 + 2) (by omega))
      have f0 := fz (j * 3) (by omega)
      have f1 := fz (j * 3 + 1) (by omega)
      have f2 := fz (j * 3 + 2) (by omega)
      obtain ⟨m, hm⟩ : ∃ m, m = 1 + 3 * j := ⟨_, rfl⟩
      have HM : Hid (m = 1 + 3 * j) := hm
      have HN : Hid (MS W B n (j + 1) (((wr.setCell ⟨B, j * 3, none⟩ (.int .i64 (m : Int))).setCell ⟨B, j * 3 + 1, none⟩ (.int .i64 ((m : Int) + 1))).setCell ⟨B, j * 3 + 2, none⟩ (.int .u64 ((m : Int) + 1 + 1)))) := HR.out.step hlt hm
      rw [← hm]
      have hmI : (m : Int) ≤ 4000 := by omega
      have hm0 : 0 ≤ (m : Int) := by omega
      have a1 : IntKind.i64.wrap ((m : Int) + 1) = (m : Int) + 1 := IntWalk.i64_in _ (by omega)
      have a2 : IntKind.i64.wrap ((m : Int) + 1 + 1) = (m : Int) + 1 + 1 := IntWalk.i64_in _ (by omega)
      have a3 : IntKind.i64.wrap ((m : Int) + 1 + 1 + 1) = (m : Int) + 1 + 1 + 1 := IntWalk.i64_in _ (by omega)
      have a4 : IntKind.u64.wrap ((m : Int) + 1 + 1) = (m : Int) + 1 + 1 := IntWalk.u64_in _ (by omega)
      have b1 : IntKind.i64.wrap ((j : Int) + 1) = (j : Int) + 1 := IntWalk.i64_in _ (by omega)
      have hj0 : (0 : Int) ≤ (j : Int) := by omega
      have hjI : (j : Int) < (n : Int) := by omega
      clear HR HS r2 hm is fz
      go_wp2_with fail
      exact ⟨⟨j + 1, by omega, congrArg (Value.int IntKind.i64) (by have := HM.out; omega), rfl, HN⟩, by simp only [intOf]; omega⟩
    · have hkk : j = n := by omega
      subst hkk
      clear HS
      go_wp2_with fail
      go_ret
      exact ⟨rfl, HR.out⟩
set_option maxRecDepth 20000 in
theorem markraws_nil (W : World) (oa : Option Addr) (cap : Nat) :
    Calls Try.prog 12 #[.slice oa 0 cap, .int .i64 1] W fun e w' => e = .returned (.int .i64 1) ∧ W = w' := by
  go_enter Try.func12, Try.ntmps12
  go_wp2_with fail
  refine wp_loop_rounds 1 ?_
  rw [rounds_succ]
  go_wp2
  go_ret
  exact ⟨rfl, rfl⟩
set_option maxRecDepth 20000 in
theorem heldraws_nil (W : World) (oa : Option Addr) (cap : Nat) :
    Calls Try.prog 13 #[.slice oa 0 cap, .int .i64 1] W fun e w' => e = .returned (.int .i64 1) ∧ W = w' := by
  go_enter Try.func13, Try.ntmps13
  go_wp2_with fail
  refine wp_loop_rounds 1 ?_
  rw [rounds_succ]
  go_wp2
  go_ret
  exact ⟨rfl, rfl⟩
set_option maxRecDepth 20000 in
set_option maxHeartbeats 2000000 in
theorem heldraws_is (W : World) (B n cap : Nat) (h : RMk B n W) (hn : n ≤ 1000) :
    Calls Try.prog 13 #[.slice (some ⟨B, 0, none⟩) n cap, .int .i64 1] W fun e w' => e = .returned (.int .i64 ((1 + 3 * n : Nat) : Int)) ∧ W = w' := by
  go_enter Try.func13, Try.ntmps13
  go_wp2_with fail
  go_loopw [1, 5] (fun m i wr => ∃ j : Nat, j ≤ n ∧ m = .int .i64 ((1 + 3 * j : Nat) : Int) ∧ i = .int .i64 (j : Int) ∧ Hid (W = wr)) (fun _ i _ => n - (intOf i).toNat)
  case atStart => exact ⟨0, by omega, rfl, rfl, rfl⟩
  case round =>
    obtain ⟨j, hj, rfl, rfl, HR⟩ := hrel
    obtain rfl := HR.out
    by_cases hlt : j < n
    · obtain ⟨c0, c1, c2⟩ := h j hlt
      obtain ⟨m, hm⟩ : ∃ m, m = 1 + 3 * j := ⟨_, rfl⟩
      have HM : Hid (m = 1 + 3 * j) := hm
      rw [← hm] at c0 c1 c2 ⊢
      have hmI : (m : Int) ≤ 4000 := by omega
      have hm0 : 0 ≤ (m : Int) := by omega
      have a1 : IntKind.i64.wrap ((m : Int) + 1) = (m : Int) + 1 := IntWalk.i64_in _ (by omega)
      have a2 : IntKind.i64.wrap ((m : Int) + 1 + 1) = (m : Int) + 1 + 1 := IntWalk.i64_in _ (by omega)
      have a3 : IntKind.i64.wrap ((m : Int) + 1 + 1 + 1) = (m : Int) + 1 + 1 + 1 := IntWalk.i64_in _ (by omega)
      have a4 : IntKind.u64.wrap ((m : Int) + 1 + 1) = (m : Int) + 1 + 1 := IntWalk.u64_in _ (by omega)
      have b1 : IntKind.i64.wrap ((j : Int) + 1) = (j : Int) + 1 := IntWalk.i64_in _ (by omega)
      have hj0 : (0 : Int) ≤ (j : Int) := by omega
      have hjI : (j : Int) < (n : Int) := by omega
      clear hm h
      go_wp2_with fail
      exact ⟨⟨j + 1, by omega, congrArg (Value.int IntKind.i64) (by have := HM.out; omega), rfl, True.intro⟩, by simp only [intOf]; omega⟩
    · have hkk : j = n := by omega
      subst hkk
      go_wp2_with fail
      go_ret
      exact ⟨rfl, rfl⟩
end Go.Proofs.Ytbmkknbbikoilaa
