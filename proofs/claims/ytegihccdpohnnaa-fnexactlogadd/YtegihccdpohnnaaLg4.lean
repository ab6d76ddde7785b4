/-
  A log's marks, its copy, its size; two logs side by side.
-/
import Derived.Test.YtegihccdpohnnaaLg3
import Derived.Test.YtegihccdpohnnaaMarkT
namespace Go.Proofs.Ytegihccdpohnnaa
open Go.RowKit

/-- The first n texts of the block B bear the marks from 1 on. -/
def TM (B n : Nat) (W : World) : Prop := ∀ i, i < n → W.cell? ⟨B, i, none⟩ = some (.string (mkT (1 + i)))
theorem TM.call {B n : Nat} {W W' : World} (h : TM B n W) (hB : B < W.heap.size) (hb : Below W.heap.size W W') : TM B n W' := fun i hi =>
  (hb.cell (p := ⟨B, i, none⟩) hB).trans (h i hi)
theorem TM.step {B n j : Nat} {W : World} (r : SR B n W) (hj : j < n) (h : TM B j W) : TM B (j + 1) (W.setCell ⟨B, j, none⟩ (.string (mkT (1 + j)))) := fun i hi => by
  by_cases e : i = j
  · subst e; exact set_same (r.2 i hj).1
  · rw [set_off (by omega)]; exact h i (by omega)
set_option maxRecDepth 20000 in
set_option maxHeartbeats 1000000 in
theorem marksT (W : World) (B n cap : Nat) (h : SR B n W) (hn : n ≤ 1048576) :
    Calls Try.prog 20 #[.slice (some ⟨B, 0, none⟩) n cap, .int .i64 1] W fun e w' => e = .returned (.int .i64 ((1 + n : Nat) : Int)) ∧ W.grownBy w' (some B) ∧ SR B n w' ∧ TM B n w' := by
  have HS : Hid (W.grownBy W (some B) ∧ SR B n W ∧ TM B 0 W) := ⟨⟨rfl, rfl, rfl, Nat.le_refl _, fun _ _ _ => rfl⟩, h, fun i hi => by omega⟩
  clear h
  go_enter Try.func20, Try.ntmps20
  go_wp2_with fail
  go_loopw [1, 5] (fun m i wr => ∃ j : Nat, j ≤ n ∧ m = .int .i64 ((1 + j : Nat) : Int) ∧ i = .int .i64 (j : Int) ∧ Hid (W.grownBy wr (some B) ∧ SR B n wr ∧ TM B j wr)) (fun _ i _ => n - (intOf i).toNat)
  case atStart => exact ⟨0, by omega, rfl, rfl, HS⟩
  case round =>
    obtain ⟨j, hj, rfl, rfl, HR⟩ := hrel
    by_cases hlt : j < n
    · obtain ⟨m, hm⟩ : ∃ m, m = 1 + j := ⟨_, rfl⟩
      have HM : Hid (m = 1 + j) := hm
      obtain ⟨g1, g2, g3⟩ := HR.out
      obtain ⟨T, hT⟩ : ∃ T, T = mkT m := ⟨_, rfl⟩
      have HN : ∀ w1 : World, Below wr.heap.size wr w1 → (∃ u, w1.cell? ⟨B, j, none⟩ = some u) ∧ w1.frozen? ⟨B, j, none⟩ = false ∧ Hid (W.grownBy (w1.setCell ⟨B, j, none⟩ (.string T)) (some B) ∧ SR B n (w1.setCell ⟨B, j, none⟩ (.string T)) ∧ TM B (j + 1) (w1.setCell ⟨B, j, none⟩ (.string T))) := fun w1 hb => by
        have q2 := g2.call hb
        exact ⟨Option.isSome_iff_exists.1 (q2.2 j hlt).1, (q2.2 j hlt).2, grown_trans (grown_below g1 hb) (grown_set _ _ _ _), q2.set _ _, by rw [hT, hm]; exact TM.step q2 hlt (g3.call g2.1 hb)⟩
      have cm := fun V : World => markT_is m (by omega) V
      rw [← hm]
      rw [← hT] at cm
      have hmI : (m : Int) ≤ 1048577 := by omega
      have hm0 : 0 ≤ (m : Int) := by omega
      have a1 : IntKind.i64.wrap ((m : Int) + 1) = (m : Int) + 1 := IntWalk.i64_in _ (by omega)
      have b1 : IntKind.i64.wrap ((j : Int) + 1) = (j : Int) + 1 := IntWalk.i64_in _ (by omega)
      have hj0 : (0 : Int) ≤ (j : Int) := by omega
      have hjI : (j : Int) < (n : Int) := by omega
      clear HS HR hm hT g1 g2 g3
      go_wp2_with (go_at_call 25; refine (cm _).mono ?_; rintro e w1 ⟨rfl, hb1⟩; obtain ⟨⟨u2, c2⟩, f2, HN2⟩ := HN w1 hb1; clear HN cm)
      exact ⟨⟨j + 1, by omega, congrArg (Value.int IntKind.i64) (by have := HM.out; omega), rfl, HN2.out⟩, by simp only [intOf]; omega⟩
    · have hkk : j = n := by omega
      subst hkk
      clear HS
      go_wp2_with fail
      go_ret
      exact ⟨rfl, HR.out⟩
set_option maxRecDepth 20000 in
set_option maxHeartbeats 1000000 in
theorem marksN (W : World) (oa : Option Addr) (cap : Nat) :
    Calls Try.prog 20 #[.slice oa 0 cap, .int .i64 1] W fun e w' => e = .returned (.int .i64 1) ∧ w' = W := by
  go_enter Try.func20, Try.ntmps20
  go_wp2
  go_loopw [1, 5] (fun m i wr => m = .int .i64 1 ∧ i = .int .i64 0 ∧ wr = W) (fun _ _ _ => 0)
  case atStart => exact ⟨rfl, rfl, rfl⟩
  case round =>
    obtain ⟨rfl, rfl, rfl⟩ := hrel
    go_wp2
    go_ret
    exact ⟨rfl, rfl⟩
set_option maxRecDepth 20000 in
set_option maxHeartbeats 1000000 in
theorem heldsN (W : World) (oa : Option Addr) (cap : Nat) :
    Calls Try.prog 21 #[.slice oa 0 cap, .int .i64 1] W fun e w' => e = .returned (.int .i64 1) ∧ w' = W := by
  go_enter Try.func21, Try.ntmps21
  go_wp2
  go_loopw [1, 5] (fun m i wr => m = .int .i64 1 ∧ i = .int .i64 0 ∧ wr = W) (fun _ _ _ => 0)
  case atStart => exact ⟨rfl, rfl, rfl⟩
  case round =>
    obtain ⟨rfl, rfl, rfl⟩ := hrel
    go_wp2
    go_ret
    exact ⟨rfl, rfl⟩
set_option maxRecDepth 20000 in
set_option maxHeartbeats 1000000 in
theorem heldsT (W : World) (B n cap : Nat) (hB : B < W.heap.size) (h : TM B n W) (hn : n ≤ 1048576) :
    Calls Try.prog 21 #[.slice (some ⟨B, 0, none⟩) n cap, .int .i64 1] W fun e w' => e = .returned (.int .i64 ((1 + n : Nat) : Int)) ∧ Below W.heap.size W w' := by
  have HS : Hid (Below W.heap.size W W ∧ TM B n W) := ⟨Below.refl _ _, h⟩
  clear h
  go_enter Try.func21, Try.ntmps21
  go_wp2_with fail
  go_loopw [1, 5] (fun m i wr => ∃ j : Nat, j ≤ n ∧ m = .int .i64 ((1 + j : Nat) : Int) ∧ i = .int .i64 (j : Int) ∧ Hid (Below W.heap.size W wr ∧ TM B n wr)) (fun _ i _ => n - (intOf i).toNat)
  case atStart => exact ⟨0, by omega, rfl, rfl, HS⟩
  case round =>
    obtain ⟨j, hj, rfl, rfl, HR⟩ := hrel
    by_cases hlt : j < n
    · obtain ⟨r1, r3⟩ := HR.out
      have c2 := r3 j hlt
      have hBr : B < wr.heap.size := Nat.lt_of_lt_of_le hB r1.size
      obtain ⟨m, hm⟩ : ∃ m, m = 1 + j := ⟨_, rfl⟩
      have HM : Hid (m = 1 + j) := hm
      rw [← hm] at c2 ⊢
      have ct := fun V : World => markT_is m (by omega) V
      obtain ⟨T, hT⟩ : ∃ T, T = mkT m := ⟨_, rfl⟩
      rw [← hT] at ct c2
      have HC : ∀ V : World, Below wr.heap.size wr V → V.cell? ⟨B, j, none⟩ = some (.string T) ∧ Hid (Below W.heap.size W V ∧ TM B n V) := fun V hb => ⟨(hb.cell (p := ⟨B, j, none⟩) hBr).trans c2, below_after r1 hb r1.size, r3.call hBr hb⟩
      have hmI : (m : Int) ≤ 1048577 := by omega
      have hm0 : 0 ≤ (m : Int) := by omega
      have a1 : IntKind.i64.wrap ((m : Int) + 1) = (m : Int) + 1 := IntWalk.i64_in _ (by omega)
      have b1 : IntKind.i64.wrap ((j : Int) + 1) = (j : Int) + 1 := IntWalk.i64_in _ (by omega)
      have hj0 : (0 : Int) ≤ (j : Int) := by omega
      have hjI : (j : Int) < (n : Int) := by omega
      clear HR HS r3 hm hT
      go_wp2_with fail
      go_region_held3 (fun w' => w'.cell? ⟨B, j, none⟩ = some (.string T)) (assumption) ((go_at_call 25; refine (ct _).mono ?_; rintro e w1 ⟨rfl, hb1⟩; obtain ⟨c3, HC1⟩ := HC w1 (((Below.refl _ _).drew).trans hb1); clear HC ct))
      go_wp2_with fail
      exact ⟨⟨j + 1, by omega, congrArg (Value.int IntKind.i64) (by have := HM.out; omega), rfl, HC1.out⟩, by simp only [intOf]; omega⟩
    · have hkk : j = n := by omega
      subst hkk
      clear HS
      go_wp2_with fail
      go_ret
      exact ⟨rfl, HR.out.1⟩
end Go.Proofs.Ytegihccdpohnnaa
