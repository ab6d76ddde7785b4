/-
  The law of PeaksAdd, walked.
-/
import Derived.Test.YtdcmhkimpmboeaaPAdd3
import Derived.Test.YtdcmhkimpmboeaaAns
import Derived.Test.YtdcmhkimpmboeaaLawPk
namespace Go.Proofs.Ytdcmhkimpmboeaa
open Go.RowKit

theorem pa_len (m : Nat) : ∀ (K : List Qd) (t : Qd), (pa m K t).length ≤ K.length + 1 := by
  induction m using Nat.strongRecOn with
  | _ m ih =>
    intro K t
    by_cases h : m % 2 = 1
    · rw [pa_odd h]
      have := ih (m / 2) (by omega) K.dropLast (pairD (lastD K) t)
      rw [List.length_dropLast] at this
      omega
    · rw [pa_even h]; simp
theorem paL_len (n : Int) (L : List Qd) (s : ByteArray) : (paL n L s).length ≤ 9 := by
  unfold paL
  split
  · rename_i h
    obtain ⟨m, rfl, hm, hL, _⟩ := paOk_nat h
    have := pa_len m L (leafD s)
    have := pc_le hm
    rw [Int.toNat_natCast]
    omega
  · simp

set_option maxRecDepth 20000 in
set_option maxHeartbeats 4000000 in
theorem lawPeaksAdd (n : Int) (v : Value) (L : List Qd) (s : ByteArray) (w : World) (hT : Dgs w v L) (_hs : s.size ≤ maxLen) :
    Calls Try.prog 5 #[.int .i64 n, v, .string s] w fun e w' => e = .returned (.bool true) ∧ Below w.heap.size w w' := by
  by_cases hbig : 1048576 < s.size
  · have hb : (1048576 : Int) < (s.size : Int) := by omega
    clear hT
    go_enter Try.func5, Try.ntmps5
    go_wp2_with fail
    go_ret
    exact ⟨rfl, Below.refl _ _⟩
  have hb : ¬ (1048576 : Int) < (s.size : Int) := by omega
  have c1 := fun W (h : Dgs W v L) => szd_is W v L h 1048576 (by omega)
  have k1 := fun (W : World) (u : Value) (h : Dgs W u L) => pad_spec n L s u W h
  have k2 := fun (W : World) (u : Value) (h : Dgs W u L) => pad_impl n L s u W h
  have hR0 := paL_len n L s
  generalize paL n L s = R at k1 k2 hR0
  generalize decide (paOk n L s) = b at k1 k2
  have hlR : R.length ≤ 1048576 := by omega
  clear hR0 hbig
  go_enter Try.func5, Try.ntmps5
  go_wp2_with (go_at_call 15; refine (c1 _ hT).mono ?_; rintro e w1 ⟨r, rfl, hw1, hr⟩; replace hw1 := hw1.symm; subst hw1)
  all_goals first
    | (go_ret; exact ⟨rfl, Below.refl _ _⟩)
    | (have hlen : L.length ≤ 1048576 := hr (by assumption)
       have c2 := fun W (h : Dgs W v L) => tods_is W v L h hlen
       have mx : ∀ (W : World) (B : Nat) (j : Nat), DR B L.length L j W → Calls Try.prog 13 #[.slice (some ⟨B, 0, none⟩) L.length L.length, .int .i64 1] W fun e w' => ∃ r : Nat, e = .returned (.int .i64 (r : Int)) ∧ W.grownBy w' (some B) := fun W B j h => markX W B L.length L.length 1 L j h hlen (by omega)
       have mg : ∀ (W : World) (u : Value) (base : Nat), W.ownsRow base 35 4 u R.length (qcs R) → Calls Try.prog 13 #[u, .int .i64 1] W fun e w' => ∃ r : Nat, e = .returned (.int .i64 (r : Int)) ∧ Below base W w' ∧ HeldG w' u R.length 1 r := fun W u base h => markG W u R base 1 h hlR (by omega)
       have hg : ∀ (W : World) (u : Value) (r : Nat), HeldG W u R.length 1 r → Calls Try.prog 14 #[u, .int .i64 1] W fun e w' => e = .returned (.int .i64 (r : Int)) ∧ W = w' := fun W u r h => heldG W u R.length 1 r h hlR (by omega)
       clear hr c1
       go_wp2_with (first
         | (go_at_call 14; refine (hg wD _ rA HD).mono ?_; rintro e w' ⟨rfl, rfl⟩)
         | (go_at_call 10; refine (eqds_is wC _ _ R TC PC.2.2.2.1.1).mono ?_; rintro e wD ⟨rfl, hbD⟩; have PD := PC.call hbD; have HD := HC.call hbD; clear hbD PC HC TC)
         | (go_at_call 21; refine (k2 wB _ TB).mono ?_; rintro e wC ⟨uC, rfl, GC, hbC⟩; have PC := PB.call hbC; have HC := HB.call hbC; have TC := own_dgs GC; obtain ⟨oC, cC, rfl⟩ := own_len GC; clear hbC PB HB TB GC)
         | (go_at_call 17; refine (c2 wA PA.2.2.1.1).mono ?_; rintro e wB ⟨rfl, hbB, TB0⟩; have PB := PA.call hbB; have HB := HA.call hbB; have TB := TB0.dgs hlen; clear hbB PA HA TB0)
         | (go_at_call 14; refine (hg wA _ rA HA).mono ?_; rintro e w' ⟨rfl, rfl⟩)
         | (go_at_call 13; refine (mg w9 _ _ G9).mono ?_; rintro e wA ⟨rA, rfl, hbA, HA⟩; have nA : ¬ (rA : Int) < 0 := (by omega); have PA := P9.step hbA l23; clear hbA P9 G9)
         | (go_at_call 10; refine (eqds_is w8 _ _ R (own_dgs G8) P8.2.2.2.1.1).mono ?_; rintro e w9 ⟨rfl, hb9⟩; have P9 := P8.call hb9; have G9 := own_call G8 hb9; clear hb9 P8 G8)
         | (go_at_call 13; refine (mx w7 _ _ X7).mono ?_; rintro e w8 ⟨r8, rfl, hg8⟩; have n8 : ¬ (r8 : Int) < 0 := (by omega); have P8 := P7.step (grown_below_at hg8 P7.2.1) (Nat.le_refl _); have G8 := G7.kept hg8 (.inr (fun e => absurd (G7.lt _ e).1 (by omega))); clear hg8 P7 G7 X7)
         | (go_at_call 10; refine (eqds_is w6 _ _ L (X6.dgs hlen) T6).mono ?_; rintro e w7 ⟨rfl, hb7⟩; have P7 := P6.call hb7; have X7 := X6.call hb7; have G7 := own_call G6 hb7; clear hb7 P6 X6 G6 T6)
         | (go_at_call 17; refine (c2 w5 P5.2.2.1.1).mono ?_; rintro e w6 ⟨rfl, hb6, T60⟩; have P6 := P5.call hb6; have X6 := X5.call hb6; have G6 := own_call G5 hb6; have T6 := T60.dgs hlen; clear hb6 P5 X5 G5 T60)
         | (go_at_call 10; refine (eqds_is w4 _ _ R (own_dgs G4) P4.2.2.2.1.1).mono ?_; rintro e w5 ⟨rfl, hb5⟩; have P5 := P4.call hb5; have X5 := X4.call hb5; have G5 := own_call G4 hb5; clear hb5 P4 X4 G4)
         | (go_at_call 21; refine (k2 w3 _ (X3.dgs hlen)).mono ?_; rintro e w4 ⟨uG, rfl, G4, hb4⟩; have P4 := P3.call hb4; have X4 := X3.call hb4; obtain ⟨oG, cG, rfl⟩ := own_len G4; clear hb4 P3 X3)
         | (go_at_call 17; refine (c2 w2 P2.2.2.1.1).mono ?_; rintro e w3 ⟨rfl, hb3, X3⟩; have P3 := P2.call hb3; have l23 : w2.heap.size ≤ w3.heap.size := hb3.size; have l23' := X3.1; clear hb3 P2)
         | (go_at_call 20; refine (k1 w1 _ (T1.dgs hlen)).mono ?_; rintro e w2 ⟨uS, rfl, GS, hb2⟩; have P2 : PS w w2.heap.size v uS L R w2 := ⟨Nat.le_trans hb1.size hb2.size, Nat.le_refl _, ((DgsB.of hT).below hb1 (Nat.le_refl _)).below hb2 hb1.size, DgsB.of (own_dgs GS), below_after hb1 hb2 hb1.size⟩; obtain ⟨oS, cS, rfl⟩ := own_len GS; clear hb2 GS hT T1 hb1)
         | (go_at_call 17; refine (c2 w hT).mono ?_; rintro e w1 ⟨rfl, hb1, T1⟩))
       go_ret
       exact ⟨rfl, PD.2.2.2.2⟩)
end Go.Proofs.Ytdcmhkimpmboeaa
