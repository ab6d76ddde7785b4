/-
  A bag's letters are marked.
-/
import Derived.Test.YtnfnhgloblfgnaaBFor2
namespace Go.Proofs.Ytnfnhgloblfgnaa
open Go.RowKit

theorem LR.sr {B n k : Nat} {L : List Lt} {W : World} (h : LR B n L k W) : SR B (n * 3) W := ⟨h.1, h.2.1⟩
theorem grown_blw {W W1 W2 : World} {r : Option Nat} (h : W.grownBy W1 r) (hb : Below W1.heap.size W1 W2) : W.grownBy W2 r :=
  ⟨hb.os.trans h.os, hb.tape.trans h.tape, hb.output.trans h.output, Nat.le_trans h.size hb.size, fun k hk hne => (hb.block k (Nat.lt_of_lt_of_le hk h.size)).trans (h.block k hk hne)⟩
set_option maxRecDepth 20000 in
set_option maxHeartbeats 1000000 in
theorem marklet_is (W : World) (B n cap : Nat) (h : SR B (n * 3) W) (hn : n ≤ 1048576) :
    Calls Try.prog 30 #[.slice (some ⟨B, 0, none⟩) n cap, .int .i64 1] W fun e w' => ∃ r : Nat, e = .returned (.int .i64 (r : Int)) ∧ W.grownBy w' (some B) := by
  have HS : Hid (W.grownBy W (some B) ∧ SR B (n * 3) W) := ⟨⟨rfl, rfl, rfl, Nat.le_refl _, fun _ _ _ => rfl⟩, h⟩
  clear h
  go_enter Try.func30, Try.ntmps30
  go_wp2_with fail
  go_loopw [1, 5] (fun m i wr => ∃ j : Nat, j ≤ n ∧ m = .int .i64 ((1 + 3 * j : Nat) : Int) ∧ i = .int .i64 (j : Int) ∧ Hid (W.grownBy wr (some B) ∧ SR B (n * 3) wr)) (fun _ i _ => n - (intOf i).toNat)
  case atStart => exact ⟨0, by omega, rfl, rfl, HS⟩
  case round =>
    obtain ⟨j, hj, rfl, rfl, HR⟩ := hrel
    by_cases hlt : j < n
    · obtain ⟨r1, r2⟩ := HR.out
      obtain ⟨u0, c0⟩ := Option.isSome_iff_exists.1 (r2.2 (j * 3) (by omega)).1
      obtain ⟨u1, c1⟩ := Option.isSome_iff_exists.1 (r2.2 (j * 3 + 1) (by omega)).1
      have f0 := (r2.2 (j * 3) (by omega)).2
      have f1 := (r2.2 (j * 3 + 1) (by omega)).2
      obtain ⟨m, hm⟩ : ∃ m, m = 1 + 3 * j := ⟨_, rfl⟩
      have HM : Hid (m = 1 + 3 * j) := hm
      have HN : ∀ (s : ByteArray) (w1 : World), Below ((wr.setCell ⟨B, j * 3, none⟩ (.int .i64 (m : Int))).setCell ⟨B, j * 3 + 1, none⟩ (.int .i64 ((m : Int) + 1))).heap.size ((wr.setCell ⟨B, j * 3, none⟩ (.int .i64 (m : Int))).setCell ⟨B, j * 3 + 1, none⟩ (.int .i64 ((m : Int) + 1))) w1 →
          (∃ u, w1.cell? ⟨B, j * 3 + 2, none⟩ = some u) ∧ w1.frozen? ⟨B, j * 3 + 2, none⟩ = false ∧ Hid (W.grownBy (w1.setCell ⟨B, j * 3 + 2, none⟩ (.string s)) (some B) ∧ SR B (n * 3) (w1.setCell ⟨B, j * 3 + 2, none⟩ (.string s))) := fun s w1 hb => by
        have g2 := grown_trans (grown_trans r1 (grown_set wr B (j * 3) (.int .i64 (m : Int)))) (grown_set _ B (j * 3 + 1) (.int .i64 ((m : Int) + 1)))
        have s2 := ((r2.set (j * 3) (.int .i64 (m : Int))).set (j * 3 + 1) (.int .i64 ((m : Int) + 1))).call hb
        exact ⟨Option.isSome_iff_exists.1 (s2.2 (j * 3 + 2) (by omega)).1, (s2.2 (j * 3 + 2) (by omega)).2, grown_trans (grown_blw g2 hb) (grown_set _ _ _ _), s2.set _ _⟩
      have ct := fun V : World => markText_is (m + 2) (by omega) V
      rw [← hm]
      have e2 : (m : Int) + 1 + 1 = ((m + 2 : Nat) : Int) := by omega
      have hmI : (m : Int) ≤ 1099511627776 := by omega
      have hm0 : 0 ≤ (m : Int) := by omega
      have a1 : IntKind.i64.wrap ((m : Int) + 1) = (m : Int) + 1 := IntWalk.i64_in _ (by omega)
      have a2 : IntKind.i64.wrap ((m : Int) + 1 + 1) = (m : Int) + 1 + 1 := IntWalk.i64_in _ (by omega)
      have a3 : IntKind.i64.wrap ((m : Int) + 1 + 1 + 1) = (m : Int) + 1 + 1 + 1 := IntWalk.i64_in _ (by omega)
      have b1 : IntKind.i64.wrap ((j : Int) + 1) = (j : Int) + 1 := IntWalk.i64_in _ (by omega)
      have hj0 : (0 : Int) ≤ (j : Int) := by omega
      have hjI : (j : Int) < (n : Int) := by omega
      rw [← e2] at ct
      clear HR HS r1 r2 hm e2
      go_wp2_with (go_at_call 42; refine (ct _).mono ?_; rintro e w1 ⟨s, rfl, hb1⟩; obtain ⟨⟨u2, c2⟩, f2, HN2⟩ := HN s w1 hb1; clear HN ct)
      exact ⟨⟨j + 1, by omega, congrArg (Value.int IntKind.i64) (by have := HM.out; omega), rfl, HN2.out⟩, by simp only [intOf]; omega⟩
    · have hkk : j = n := by omega
      subst hkk
      clear HS
      go_wp2_with fail
      go_ret
      exact ⟨_, rfl, HR.out.1⟩
set_option maxRecDepth 20000 in
theorem markbag_is (W : World) (m : Int) (B n cap : Nat) (h : SR B (n * 3) W) (hn : n ≤ 1048576) :
    Calls Try.prog 15 #[.agg #[.int .i64 m, .slice (some ⟨B, 0, none⟩) n cap], .int .i64 1] W fun e w' => ∃ r : Nat, e = .returned (.int .i64 (r : Int)) ∧ W.grownBy w' (some B) := by
  have hb0 : Below W.heap.size W (W.alloc (.cells #[.int .i64 m, .slice (some ⟨B, 0, none⟩) n cap] 25)) := (by repeat' (first | (with_reducible exact Below.refl _ _) | (with_reducible assumption) | (with_reducible refine below_drewN ?_ _) | (with_reducible refine Below.setCell ?_ ?_ _) | (with_reducible refine Below.alloc ?_ ?_ _) | (with_reducible refine Below.drew ?_) | go_size))
  have c := marklet_is _ B n cap (h.call hb0) hn
  have hB := h.1
  clear h
  go_enter Try.func15, Try.ntmps15
  go_wp2_with (go_at_call 30; refine c.mono ?_; rintro e w1 ⟨r, rfl, hg1⟩; clear c)
  go_ret
  refine ⟨r, rfl, ⟨hg1.os.trans hb0.os, hg1.tape.trans hb0.tape, hg1.output.trans hb0.output, Nat.le_trans hb0.size hg1.size, fun k hk hne => (hg1.block k (Nat.lt_of_lt_of_le hk hb0.size) hne).trans (hb0.block k hk)⟩⟩
end Go.Proofs.Ytnfnhgloblfgnaa
