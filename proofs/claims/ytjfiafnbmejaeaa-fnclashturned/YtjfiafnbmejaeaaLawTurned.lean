/-
  The law of a clash that is turned, walked.
-/
import Derived.Test.YtjfiafnbmejaeaaDraw2
import Derived.Test.YtjfiafnbmejaeaaLawClash
namespace Go.Proofs.Ytjfiafnbmejaeaa
open Go.RowKit

theorem ckv_turn (a b : ByteArray) : ckv b a = ckv a b := by
  have h : Ck b a ↔ Ck a b := by
    unfold Ck
    have e : (b.toList == a.toList) = (a.toList == b.toList) := by
      rw [Bool.eq_iff_iff, beq_iff_eq, beq_iff_eq]
      exact ⟨Eq.symm, Eq.symm⟩
    rw [e]
    exact ⟨fun ⟨h1, h2, h3, h4, h5, h6, h7⟩ => ⟨h2, h1, h3, h4.symm, h5.symm, h6.symm, h7.symm⟩, fun ⟨h1, h2, h3, h4, h5, h6, h7⟩ => ⟨h2, h1, h3, h4.symm, h5.symm, h6.symm, h7.symm⟩⟩
  unfold ckv
  exact decide_eq_decide.2 h
theorem ckv_one (a : ByteArray) : ckv a a = false := ckv_no (fun h => by have := h.2.2.1; simp at this)
theorem ckv_dg {a b : ByteArray} (h : ckv a b = true) : dg b = dg a := by
  have h := of_decide_eq_true h
  exact Qd.ext' h.2.2.2.1.symm h.2.2.2.2.1.symm h.2.2.2.2.2.1.symm h.2.2.2.2.2.2.symm
/-- The block B holds the texts a and b. -/
def Two (B : Nat) (a b : ByteArray) (W : World) : Prop := B < W.heap.size ∧ W.cell? ⟨B, 0, none⟩ = some (.string a) ∧ W.cell? ⟨B, 1, none⟩ = some (.string b)
theorem Two.new (w : World) (a b : ByteArray) : Two w.heap.size a b (w.alloc (.cells #[Value.string a, Value.string b] 40)) := ⟨by simp, by simp [go_sem], by simp [go_sem]⟩
theorem Two.call {B : Nat} {a b : ByteArray} {W W' : World} (h : Two B a b W) (hb : Below W.heap.size W W') : Two B a b W' :=
  ⟨Nat.lt_of_lt_of_le h.1 hb.size, (hb.cell h.1).trans h.2.1, (hb.cell h.1).trans h.2.2⟩

set_option maxRecDepth 20000 in
set_option maxHeartbeats 4000000 in
theorem lawTurned (v : Value) (L : List UInt8) (w : World) (hV : Byt w v L) :
    Calls Try.prog 5 #[v] w fun e w' => e = .returned (.bool true) ∧ Below w.heap.size w w' := by
  obtain ⟨oa, cap, hv⟩ : ∃ a cap, v = .slice a L.length cap := by
    rcases hV with ⟨rfl, rfl⟩ | ⟨a, cap, rfl, _⟩
    · exact ⟨none, 0, rfl⟩
    · exact ⟨some a, cap, rfl⟩
  by_cases hbig : 1048576 < L.length
  · have hbI : (1048576 : Int) < (L.length : Int) := by omega
    subst hv
    clear hV
    go_enter Try.func5, Try.ntmps5
    go_wp2_with fail
    go_ret
    exact ⟨rfl, Below.refl _ _⟩
  · have hbI : ¬ (1048576 : Int) < (L.length : Int) := by omega
    subst hv
    have k1 := drawClash_is w _ L hV
    clear hV
    go_enter Try.func5, Try.ntmps5
    go_wp2_with (go_at_call 31; refine k1.mono ?_; rintro e w1 ⟨a, b, rfl, hb1⟩)
    have hP1 := Two.new w1 a b
    have g1 := fun W : World => ck_impl_all a b W
    have g2 := fun W : World => ck_spec_all a b W
    have g3 := fun W : World => ck_impl_all b a W
    have g4 := fun W : World => ck_impl_all a a W
    have g5 := fun W : World => ho_impl_all a W
    have g6 := fun W : World => ho_impl_all b W
    rw [ckv_turn] at g3
    rw [ckv_one] at g4
    have hdg := @ckv_dg a b
    obtain ⟨o, ho⟩ : ∃ o, o = ckv a b := ⟨_, rfl⟩
    rw [← ho] at g1 g2 g3 hdg
    clear ho k1
    have hs1 := hb1.size
    cases o with
    | false =>
      clear g5 g6 hdg
      go_wp2_with (first
        | (go_at_call 32; have hh := hB4; refine (g4 w4).mono ?_; rintro e w5 ⟨rfl, hb5⟩; have hP5 := hP4.call hb5; obtain ⟨_, q50, q51⟩ := hP5; have hB5 : Below w.heap.size w w5 := below_after hB4 hb5 hB4.size)
        | (go_at_call 32; have hh := hB3; refine (g3 w3).mono ?_; rintro e w4 ⟨rfl, hb4⟩; have hP4 := hP3.call hb4; have hh4 := hP4; obtain ⟨_, q40, q41⟩ := hh4; have hB4 : Below w.heap.size w w4 := below_after hB3 hb4 hB3.size)
        | (go_at_call 32; refine (g1 _).mono ?_; rintro e w2 ⟨rfl, hb2⟩; have hP2 := hP1.call hb2; have hh2 := hP2; obtain ⟨_, q20, q21⟩ := hh2; have hB2 : Below w.heap.size w w2 := below_after (hb1.alloc hs1 _) hb2 (by simp only [World.size_alloc]; omega))
        | (go_at_call 33; refine (g2 w2).mono ?_; rintro e w3 ⟨rfl, hb3⟩; have hP3 := hP2.call hb3; have hh3 := hP3; obtain ⟨_, q30, q31⟩ := hh3; have hB3 : Below w.heap.size w w3 := below_after hB2 hb3 hB2.size))
      go_region
      all_goals (go_wp2_with fail)
      all_goals go_ret
      all_goals exact ⟨rfl, hB5.drew⟩
    | true =>
      rw [hdg rfl] at g6
      clear hdg
      obtain ⟨z, hz⟩ : ∃ z, z = dg a := ⟨_, rfl⟩
      rw [← hz] at g5 g6
      clear hz
      go_wp2_with (first
        | (go_at_call 32; have hh := hB4; refine (g4 w4).mono ?_; rintro e w5 ⟨rfl, hb5⟩; have hP5 := hP4.call hb5; obtain ⟨q5s, q50, q51⟩ := hP5; have hB5 : Below w.heap.size w w5 := below_after hB4 hb5 hB4.size)
        | (go_at_call 32; have hh := hB3; refine (g3 w3).mono ?_; rintro e w4 ⟨rfl, hb4⟩; have hP4 := hP3.call hb4; have hh4 := hP4; obtain ⟨_, q40, q41⟩ := hh4; have hB4 : Below w.heap.size w w4 := below_after hB3 hb4 hB3.size)
        | (go_at_call 32; refine (g1 _).mono ?_; rintro e w2 ⟨rfl, hb2⟩; have hP2 := hP1.call hb2; have hh2 := hP2; obtain ⟨_, q20, q21⟩ := hh2; have hB2 : Below w.heap.size w w2 := below_after (hb1.alloc hs1 _) hb2 (by simp only [World.size_alloc]; omega))
        | (go_at_call 33; refine (g2 w2).mono ?_; rintro e w3 ⟨rfl, hb3⟩; have hP3 := hP2.call hb3; have hh3 := hP3; obtain ⟨_, q30, q31⟩ := hh3; have hB3 : Below w.heap.size w w3 := below_after hB2 hb3 hB2.size))
      go_region_with (first
        | (go_at_call_of 22 b; refine (g6 _).mono ?_; rintro e w7 ⟨rfl, hb7⟩; have hB7 := below_after hB6 hb7 hB6.size)
        | (go_at_call_of 22 a; refine (g5 _).mono ?_; rintro e w6 ⟨rfl, hb6⟩; have hB6 : Below w.heap.size w w6 := below_after hB5.drew hb6 hB5.size; have r1 : w6.cell? ⟨w1.heap.size, 1, none⟩ = some (.string b) := (hb6.cell q5s).trans q51))
      all_goals (go_wp2_with fail)
      all_goals go_ret
      all_goals exact ⟨rfl, hB7⟩
end Go.Proofs.Ytjfiafnbmejaeaa
