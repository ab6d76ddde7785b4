/-
  The law of TreePeaks, walked.
-/
import Derived.Test.YtdcmhkimpmboeaaTPk2
import Derived.Test.YtdcmhkimpmboeaaAns
import Derived.Test.YtdcmhkimpmboeaaMarkS
import Derived.Test.YtdcmhkimpmboeaaLawRoot
namespace Go.Proofs.Ytdcmhkimpmboeaa
open Go.RowKit

/-- Texts that lie ahead of the block B. -/
def TxtB (B : Nat) (W : World) (v : Value) (S : List ByteArray) : Prop := Txt W v S ∧ (0 < S.length → ∀ a n c, v = .slice (some a) n c → a.block < B)
theorem TxtB.of {W : World} {v : Value} {S : List ByteArray} (h : Txt W v S) : TxtB W.heap.size W v S := by
  refine ⟨h, fun hl a n c e => ?_⟩
  rcases h with ⟨rfl, rfl⟩ | ⟨a', cap, rfl, _, _, hb, _⟩
  · simp at hl
  · injection e with e _ _
    injection e with e
    subst e
    exact hb hl
theorem TxtB.below {B B' : Nat} {W W' : World} {v : Value} {S : List ByteArray} (h : TxtB B W v S) (hb : Below B' W W') (hB : B ≤ B') : TxtB B W' v S := by
  refine ⟨?_, h.2⟩
  have h2 := h.2
  rcases h.1 with h0 | ⟨a, cap, e, h3, h4, h5, h6⟩
  · exact .inl h0
  · refine .inr ⟨a, cap, e, h3, h4, fun hl => Nat.lt_of_lt_of_le (h5 hl) hb.size, fun i hi => ?_⟩
    have hlt := h2 (by omega) a S.length cap e
    exact (hb.cell (by rw [add_block]; omega)).trans (h6 i hi)
/-- What stands while a law of leaves goes on: the leaves v, the model's answer u, both ahead of the block b. -/
def PT (w : World) (b : Nat) (v u : Value) (S : List ByteArray) (R : List Qd) (W : World) : Prop :=
  w.heap.size ≤ b ∧ b ≤ W.heap.size ∧ TxtB w.heap.size W v S ∧ DgsB b W u R ∧ Below w.heap.size w W
theorem PT.step {w W W' : World} {b B : Nat} {v u : Value} {S : List ByteArray} {R : List Qd} (h : PT w b v u S R W) (hb : Below B W W') (hB : b ≤ B) : PT w b v u S R W' :=
  ⟨h.1, Nat.le_trans h.2.1 hb.size, h.2.2.1.below hb (Nat.le_trans h.1 hB), h.2.2.2.1.below hb hB, h.2.2.2.2.trans (hb.mono (Nat.le_trans h.1 hB))⟩
theorem PT.call {w W W' : World} {b : Nat} {v u : Value} {S : List ByteArray} {R : List Qd} (h : PT w b v u S R W) (hb : Below W.heap.size W W') : PT w b v u S R W' := h.step hb h.2.1

set_option maxRecDepth 20000 in
set_option maxHeartbeats 4000000 in
theorem lawTreePeaks (v : Value) (L : List ByteArray) (w : World) (h : Txt w v L ∧ ∀ s ∈ L, s.size ≤ maxLen) :
    Calls Try.prog 3 #[v] w fun e w' => e = .returned (.bool true) ∧ Below w.heap.size w w' := by
  obtain ⟨hT, hss⟩ := h
  have c1 := fun W (h : Txt W v L) => sz_is W v L h hss 1048576 (by omega)
  have k1 := fun (W : World) (u : Value) (h : Txt W u L) => tpk_spec L u W h
  have k2 := fun (W : World) (u : Value) (h : Txt W u L) => tpk_impl L u W h
  have hR0 := tkL_len L
  generalize tkL L = R at k1 k2 hR0
  have hlR : R.length ≤ 1048576 := by omega
  clear hR0 hss
  go_enter Try.func3, Try.ntmps3
  go_wp2_with (go_at_call 6; refine (c1 _ hT).mono ?_; rintro e w1 ⟨r, rfl, hw1, hr⟩; replace hw1 := hw1.symm; subst hw1)
  all_goals first
    | (go_ret; exact ⟨rfl, Below.refl _ _⟩)
    | (have hlen : L.length ≤ 1048576 := hr (by assumption)
       have c2 := fun W (h : Txt W v L) => tos_at W v L h hlen
       have mx : ∀ (W : World) (B : Nat), SR B L.length W → Calls Try.prog 12 #[.slice (some ⟨B, 0, none⟩) L.length L.length, .int .i64 1] W fun e w' => ∃ r : Nat, e = .returned (.int .i64 (r : Int)) ∧ W.grownBy w' (some B) := fun W B h => markS_is W B L.length L.length h hlen
       have mg : ∀ (W : World) (u : Value) (base : Nat), W.ownsRow base 35 4 u R.length (qcs R) → Calls Try.prog 13 #[u, .int .i64 1] W fun e w' => ∃ r : Nat, e = .returned (.int .i64 (r : Int)) ∧ Below base W w' ∧ HeldG w' u R.length 1 r := fun W u base h => markG W u R base 1 h hlR (by omega)
       have hg : ∀ (W : World) (u : Value) (r : Nat), HeldG W u R.length 1 r → Calls Try.prog 14 #[u, .int .i64 1] W fun e w' => e = .returned (.int .i64 (r : Int)) ∧ W = w' := fun W u r h => heldG W u R.length 1 r h hlR (by omega)
       clear hr c1
       go_wp2_with (first
         | (go_at_call 14; refine (hg wD _ rA HD).mono ?_; rintro e w' ⟨rfl, rfl⟩)
         | (go_at_call 10; refine (eqds_is wC _ _ R TC PC.2.2.2.1.1).mono ?_; rintro e wD ⟨rfl, hbD⟩; have PD := PC.call hbD; have HD := HC.call hbD; clear hbD PC HC TC)
         | (go_at_call 9; refine (k2 wB _ TB).mono ?_; rintro e wC ⟨uC, rfl, GC, hbC⟩; have PC := PB.call hbC; have HC := HB.call hbC; have TC := own_dgs GC; obtain ⟨oC, cC, rfl⟩ := own_len GC; clear hbC PB HB TB GC)
         | (go_at_call 8; refine (c2 wA PA.2.2.1.1).mono ?_; rintro e wB ⟨rfl, hbB, -, TB⟩; have PB := PA.call hbB; have HB := HA.call hbB; clear hbB PA HA)
         | (go_at_call 14; refine (hg wA _ rA HA).mono ?_; rintro e w' ⟨rfl, rfl⟩)
         | (go_at_call 13; refine (mg w9 _ _ G9).mono ?_; rintro e wA ⟨rA, rfl, hbA, HA⟩; have nA : ¬ (rA : Int) < 0 := (by omega); have PA := P9.step hbA l23; clear hbA P9 G9)
         | (go_at_call 10; refine (eqds_is w8 _ _ R (own_dgs G8) P8.2.2.2.1.1).mono ?_; rintro e w9 ⟨rfl, hb9⟩; have P9 := P8.call hb9; have G9 := own_call G8 hb9; clear hb9 P8 G8)
         | (go_at_call 12; refine (mx w7 _ X7).mono ?_; rintro e w8 ⟨r8, rfl, hg8⟩; have n8 : ¬ (r8 : Int) < 0 := (by omega); have P8 := P7.step (grown_below_at hg8 P7.2.1) (Nat.le_refl _); have G8 := G7.kept hg8 (.inr (fun e => absurd (G7.lt _ e).1 (by omega))); clear hg8 P7 G7 X7)
         | (go_at_call 11; refine (eqs_is w6 _ _ L X6' T6).mono ?_; rintro e w7 ⟨rfl, hb7⟩; have P7 := P6.call hb7; have X7 := X6.call hb7; have G7 := own_call G6 hb7; clear hb7 P6 X6 X6' G6 T6)
         | (go_at_call 8; refine (c2 w5 P5.2.2.1.1).mono ?_; rintro e w6 ⟨rfl, hb6, -, T6⟩; have P6 := P5.call hb6; have X6 := X5.call hb6; have X6' := X5'.call hb6; have G6 := own_call G5 hb6; clear hb6 P5 X5 X5' G5)
         | (go_at_call 10; refine (eqds_is w4 _ _ R (own_dgs G4) P4.2.2.2.1.1).mono ?_; rintro e w5 ⟨rfl, hb5⟩; have P5 := P4.call hb5; have X5 := X4.call hb5; have X5' := X4'.call hb5; have G5 := own_call G4 hb5; clear hb5 P4 X4 X4' G4)
         | (go_at_call 9; refine (k2 w3 _ X3').mono ?_; rintro e w4 ⟨uG, rfl, G4, hb4⟩; have P4 := P3.call hb4; have X4 := X3.call hb4; have X4' := X3'.call hb4; obtain ⟨oG, cG, rfl⟩ := own_len G4; clear hb4 P3 X3 X3')
         | (go_at_call 8; refine (c2 w2 P2.2.2.1.1).mono ?_; rintro e w3 ⟨rfl, hb3, X3, X3'⟩; have P3 := P2.call hb3; have l23 : w2.heap.size ≤ w3.heap.size := hb3.size; have l23' := X3.1; clear hb3 P2)
         | (go_at_call 7; refine (k1 w1 _ T1).mono ?_; rintro e w2 ⟨uS, rfl, GS, hb2⟩; have P2 : PT w w2.heap.size v uS L R w2 := ⟨Nat.le_trans hb1.size hb2.size, Nat.le_refl _, ((TxtB.of hT).below hb1 (Nat.le_refl _)).below hb2 hb1.size, DgsB.of (own_dgs GS), below_after hb1 hb2 hb1.size⟩; obtain ⟨oS, cS, rfl⟩ := own_len GS; clear hb2 GS hT T1 hb1)
         | (go_at_call 8; refine (c2 w hT).mono ?_; rintro e w1 ⟨rfl, hb1, -, T1⟩))
       go_ret
       exact ⟨rfl, PD.2.2.2.2⟩)
end Go.Proofs.Ytdcmhkimpmboeaa
