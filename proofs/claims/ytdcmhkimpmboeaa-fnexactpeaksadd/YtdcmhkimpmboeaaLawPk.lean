/-
  The law of PeaksRoot, walked.
-/
import Derived.Test.YtdcmhkimpmboeaaPkRoot2
import Derived.Test.YtdcmhkimpmboeaaBox
namespace Go.Proofs.Ytdcmhkimpmboeaa
open Go.RowKit

theorem tods_ex (W : World) (v : Value) (L : List Qd) (h : Dgs W v L) (hlen : L.length ≤ 1048576) :
    Calls Try.prog 17 #[v] W fun e w' => ∃ u, e = .returned u ∧ Below W.heap.size W w' ∧ Dgs w' u L :=
  (tods_is W v L h hlen).mono (by rintro e w' ⟨rfl, hb, hd⟩; exact ⟨_, rfl, hb, hd.dgs hlen⟩)

set_option maxRecDepth 20000 in
set_option maxHeartbeats 2000000 in
theorem lawPeaksRoot (v : Value) (L : List Qd) (w : World) (hT : Dgs w v L) :
    Calls Try.prog 4 #[v] w fun e w' => e = .returned (.bool true) ∧ Below w.heap.size w w' := by
  have c1 := fun W (h : Dgs W v L) => szd_is W v L h 1048576 (by omega)
  have k1 := fun (W : World) (u : Value) (h : Dgs W u L) => pkr_spec L u W h
  have k20 := fun (W : World) (u : Value) (h : Dgs W u L) (hl : L.length ≤ 1048576) => pkr_impl L u W h hl
  obtain ⟨z, hz⟩ : ∃ z, z = pkr L := ⟨_, rfl⟩
  rw [← hz] at k1 k20
  clear hz
  go_enter Try.func4, Try.ntmps4
  go_wp2_with (go_at_call 15; refine (c1 _ hT).mono ?_; rintro e w1 ⟨r, rfl, hw1, hr⟩; replace hw1 := hw1.symm; subst hw1)
  all_goals first
    | (go_ret; exact ⟨rfl, Below.refl _ _⟩)
    | (have hlen : L.length ≤ 1048576 := hr (by assumption)
       have c2 := fun W (h : Dgs W v L) => tods_ex W v L h hlen
       have k2 := fun (W : World) (u : Value) (h : Dgs W u L) => k20 W u h hlen
       clear k20
       clear hr c1
       go_wp2_with (first
         | (go_at_call 17; refine (c2 w6 hV6).mono ?_; rintro e w7 ⟨u7, rfl, hb7, hT7⟩; have hT67 : Dgs w7 u3 L := hT6.call hb7; have hz7 := hb7.size)
         | (go_at_call 17; refine (c2 _ (hV4.call ((Below.refl _ _).alloc (Nat.le_refl _) _))).mono ?_; rintro e w3 ⟨u3, rfl, hb3, hT3⟩; have hz3 := hb3.size; simp only [World.size_alloc] at hz3; have hD3 : Dig w4.heap.size z w3 := (Dig.new w4 z).call hb3; have hV3 : Dgs w3 v L := (hV4.call ((Below.refl _ _).alloc (Nat.le_refl _) _)).call hb3; have hB3 : Below w.heap.size w w3 := below_after ((below_after hb2 hb4 hz2).alloc (by omega) _) hb3 (by simp only [World.size_alloc]; omega); clear hb3)
         | (go_at_call 17; refine (c2 w hT).mono ?_; rintro e w2 ⟨u2, rfl, hb2, hT2⟩; have hV2 : Dgs w2 v L := hT.call hb2; have hz2 := hb2.size)
         | (go_at_call 16; refine (k1 w2 u2 hT2).mono ?_; rintro e w4 ⟨rfl, hb4⟩; have hV4 : Dgs w4 v L := hV2.call hb4; have hz4 := hb4.size)
         | (go_at_call 18; refine (k2 w3 u3 hT3).mono ?_; rintro e w5 ⟨rfl, hb5⟩; have hz5 := hb5.size; have hD5 : Dig w4.heap.size z w5 := hD3.call hb5; obtain ⟨_, d0, d1, d2, d3⟩ := hD5; have hV5 : Dgs w5 v L := hV3.call hb5; have hT5 : Dgs w5 u3 L := hT3.call hb5; have hB5 : Below w.heap.size w w5 := below_after hB3 hb5 (by have := hB3.size; omega); clear hb5)
         | (go_at_call 19; refine (eqd_same z _).mono ?_; rintro e w6 ⟨rfl, hb6⟩; have hz6 := hb6.size; simp only [World.size_alloc] at hz6; have hV6 : Dgs w6 v L := (hV5.call ((Below.refl _ _).alloc (Nat.le_refl _) _)).call hb6; have hT6 : Dgs w6 u3 L := (hT5.call ((Below.refl _ _).alloc (Nat.le_refl _) _)).call hb6; have hB6 : Below w.heap.size w w6 := below_after (hB5.alloc (by have := hB5.size; omega) _) hb6 (by have := hB5.size; simp only [World.size_alloc]; omega); clear hb6)
         | (go_at_call 10; refine (eqds_is w7 u3 u7 L hT67 hT7).mono ?_; rintro e w8 ⟨rfl, hb8⟩; have hz8 := hb8.size))
       have hs6 := hB6.size
       go_ret
       exact ⟨rfl, below_after (below_after hB6 hb7 hs6) hb8 (by omega)⟩)
end Go.Proofs.Ytdcmhkimpmboeaa
