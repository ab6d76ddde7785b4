/-
  Letters marked: what lies there then.
-/
import Derived.Test.YtnfnhgloblfgnaaJoinB21
import Derived.Test.YtnfnhgloblfgnaaBMark
namespace Go.Proofs.Ytnfnhgloblfgnaa
open Go.RowKit

/-- The first n letters of the block B bear the marks from 1 on. -/
def LM (B n : Nat) (W : World) : Prop := ∀ i, i < n → W.cell? ⟨B, i * 3, none⟩ = some (.int .i64 ((1 + 3 * i : Nat) : Int)) ∧ W.cell? ⟨B, i * 3 + 1, none⟩ = some (.int .i64 (((1 + 3 * i : Nat) : Int) + 1)) ∧ W.cell? ⟨B, i * 3 + 2, none⟩ = some (.string (mkT (1 + 3 * i + 2)))
theorem LM.call {B n : Nat} {W W' : World} (h : LM B n W) (hB : B < W.heap.size) (hb : Below W.heap.size W W') : LM B n W' := fun i hi => by
  obtain ⟨h1, h2, h3⟩ := h i hi
  exact ⟨(hb.cell (p := ⟨B, i * 3, none⟩) hB).trans h1, (hb.cell (p := ⟨B, i * 3 + 1, none⟩) hB).trans h2, (hb.cell (p := ⟨B, i * 3 + 2, none⟩) hB).trans h3⟩
theorem LM.set {B n o : Nat} {W : World} (h : LM B n W) (x : Value) (ho : n * 3 ≤ o) : LM B n (W.setCell ⟨B, o, none⟩ x) := fun i hi => by
  obtain ⟨h1, h2, h3⟩ := h i hi
  exact ⟨(set_off (by omega)).trans h1, (set_off (by omega)).trans h2, (set_off (by omega)).trans h3⟩
theorem LM.step {B n j m : Nat} {wr w1 : World} (r2 : SR B (n * 3) wr) (hj : j < n) (hm : m = 1 + 3 * j) (h : LM B j wr)
    (hb : Below ((wr.setCell ⟨B, j * 3, none⟩ (.int .i64 (m : Int))).setCell ⟨B, j * 3 + 1, none⟩ (.int .i64 ((m : Int) + 1))).heap.size ((wr.setCell ⟨B, j * 3, none⟩ (.int .i64 (m : Int))).setCell ⟨B, j * 3 + 1, none⟩ (.int .i64 ((m : Int) + 1))) w1) :
    LM B (j + 1) (w1.setCell ⟨B, j * 3 + 2, none⟩ (.string (mkT (m + 2)))) := by
  have s1 := r2.set (j * 3) (.int .i64 (m : Int))
  have s2 := s1.set (j * 3 + 1) (.int .i64 ((m : Int) + 1))
  have s3 := s2.call hb
  have hB := s2.1
  have h2 := (((h.set (.int .i64 (m : Int)) (Nat.le_refl _)).set (o := j * 3 + 1) (.int .i64 ((m : Int) + 1)) (by omega)).call hB hb).set (o := j * 3 + 2) (.string (mkT (m + 2))) (by omega)
  intro i hi
  by_cases e : i = j
  · subst e hm
    refine ⟨?_, ?_, set_same (s3.2 (i * 3 + 2) (by omega)).1⟩
    · rw [set_off (by omega), hb.cell (p := ⟨B, i * 3, none⟩) hB, set_off (by omega), set_same (r2.2 (i * 3) (by omega)).1]
    · rw [set_off (by omega), hb.cell (p := ⟨B, i * 3 + 1, none⟩) hB, set_same (s1.2 (i * 3 + 1) (by omega)).1]
  · exact h2 i (by omega)
set_option maxRecDepth 20000 in
set_option maxHeartbeats 1000000 in
theorem markletT (W : World) (B n cap : Nat) (h : SR B (n * 3) W) (hn : n ≤ 1048576) :
    Calls Try.prog 30 #[.slice (some ⟨B, 0, none⟩) n cap, .int .i64 1] W fun e w' => e = .returned (.int .i64 ((1 + 3 * n : Nat) : Int)) ∧ W.grownBy w' (some B) ∧ SR B (n * 3) w' ∧ LM B n w' := by
  have HS : Hid (W.grownBy W (some B) ∧ SR B (n * 3) W ∧ LM B 0 W) := ⟨⟨rfl, rfl, rfl, Nat.le_refl _, fun _ _ _ => rfl⟩, h, fun i hi => by omega⟩
  clear h
  go_enter Try.func30, Try.ntmps30
  go_wp2_with fail
  go_loopw [1, 5] (fun m i wr => ∃ j : Nat, j ≤ n ∧ m = .int .i64 ((1 + 3 * j : Nat) : Int) ∧ i = .int .i64 (j : Int) ∧ Hid (W.grownBy wr (some B) ∧ SR B (n * 3) wr ∧ LM B j wr)) (fun _ i _ => n - (intOf i).toNat)
  case atStart => exact ⟨0, by omega, rfl, rfl, HS⟩
  case round =>
    obtain ⟨j, hj, rfl, rfl, HR⟩ := hrel
    by_cases hlt : j < n
    · obtain ⟨r1, r2, r3⟩ := HR.out
      obtain ⟨u0, c0⟩ := Option.isSome_iff_exists.1 (r2.2 (j * 3) (by omega)).1
      obtain ⟨u1, c1⟩ := Option.isSome_iff_exists.1 (r2.2 (j * 3 + 1) (by omega)).1
      have f0 := (r2.2 (j * 3) (by omega)).2
      have f1 := (r2.2 (j * 3 + 1) (by omega)).2
      obtain ⟨m, hm⟩ : ∃ m, m = 1 + 3 * j := ⟨_, rfl⟩
      have HM : Hid (m = 1 + 3 * j) := hm
      obtain ⟨T, hT⟩ : ∃ T, T = mkT (m + 2) := ⟨_, rfl⟩
      have HN : ∀ (w1 : World), Below ((wr.setCell ⟨B, j * 3, none⟩ (.int .i64 (m : Int))).setCell ⟨B, j * 3 + 1, none⟩ (.int .i64 ((m : Int) + 1))).heap.size ((wr.setCell ⟨B, j * 3, none⟩ (.int .i64 (m : Int))).setCell ⟨B, j * 3 + 1, none⟩ (.int .i64 ((m : Int) + 1))) w1 →
          (∃ u, w1.cell? ⟨B, j * 3 + 2, none⟩ = some u) ∧ w1.frozen? ⟨B, j * 3 + 2, none⟩ = false ∧ Hid (W.grownBy (w1.setCell ⟨B, j * 3 + 2, none⟩ (.string T)) (some B) ∧ SR B (n * 3) (w1.setCell ⟨B, j * 3 + 2, none⟩ (.string T)) ∧ LM B (j + 1) (w1.setCell ⟨B, j * 3 + 2, none⟩ (.string T))) := fun w1 hb => by
        have g2 := grown_trans (grown_trans r1 (grown_set wr B (j * 3) (.int .i64 (m : Int)))) (grown_set _ B (j * 3 + 1) (.int .i64 ((m : Int) + 1)))
        have s2 := ((r2.set (j * 3) (.int .i64 (m : Int))).set (j * 3 + 1) (.int .i64 ((m : Int) + 1))).call hb
        exact ⟨Option.isSome_iff_exists.1 (s2.2 (j * 3 + 2) (by omega)).1, (s2.2 (j * 3 + 2) (by omega)).2, grown_trans (grown_blw g2 hb) (grown_set _ _ _ _), s2.set _ _, by rw [hT]; exact LM.step r2 hlt hm r3 hb⟩
      have ct := fun V : World => markT_is (m + 2) (by omega) V
      rw [← hm]
      rw [← hT] at ct
      have e2 : (m : Int) + 1 + 1 = ((m + 2 : Nat) : Int) := by omega
      have hmI : (m : Int) ≤ 1099511627776 := by omega
      have hm0 : 0 ≤ (m : Int) := by omega
      have a1 : IntKind.i64.wrap ((m : Int) + 1) = (m : Int) + 1 := IntWalk.i64_in _ (by omega)
      have a2 : IntKind.i64.wrap ((m : Int) + 1 + 1) = (m : Int) + 1 + 1 := IntWalk.i64_in _ (by omega)
      have a3 : IntKind.i64.wrap ((m : Int) + 1 + 1 + 1) = (m : Int) + 1 + 1 + 1 := IntWalk.i64_in _ (by omega)
      have b1 : IntKind.i64.wrap ((j : Int) + 1) = (j : Int) + 1 := IntWalk.i64_in _ (by omega)
      have hj0 : (0 : Int) ≤ (j : Int) := by omega
      have hjI : (j : Int) < (n : Int) := by omega
      rw [← e2] at ct
      clear HR HS r1 r2 r3 hm e2 hT
      go_wp2_with (go_at_call 42; refine (ct _).mono ?_; rintro e w1 ⟨rfl, hb1⟩; obtain ⟨⟨u2, c2⟩, f2, HN2⟩ := HN w1 hb1; clear HN ct)
      exact ⟨⟨j + 1, by omega, congrArg (Value.int IntKind.i64) (by have := HM.out; omega), rfl, HN2.out⟩, by simp only [intOf]; omega⟩
    · have hkk : j = n := by omega
      subst hkk
      clear HS
      go_wp2_with fail
      go_ret
      exact ⟨rfl, HR.out⟩
end Go.Proofs.Ytnfnhgloblfgnaa
