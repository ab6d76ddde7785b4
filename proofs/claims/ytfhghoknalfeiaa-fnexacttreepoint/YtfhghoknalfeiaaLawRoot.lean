/-
  The law of TreeRoot, walked.
-/
import Derived.Test.YtfhghoknalfeiaaTree2
import Derived.Test.YtfhghoknalfeiaaWalks2
namespace Go.Proofs.Ytfhghoknalfeiaa
open Go.RowKit

set_option maxRecDepth 20000 in
set_option maxHeartbeats 2000000 in
theorem lawRoot (v : Value) (S : List ByteArray) (w : World) (h : Txt w v S ∧ ∀ s ∈ S, s.size ≤ maxLen) :
    Calls Try.prog 6 #[v] w fun e w' => e = .returned (.bool true) ∧ Below w.heap.size w w' := by
  obtain ⟨hT, hss⟩ := h
  have c1 := fun W (h : Txt W v S) => sz_is W v S h hss 1048576 (by omega)
  have k1 := fun (W : World) (u : Value) (h : Txt W u S) => tr_spec S u W h
  have k2 := fun (W : World) (u : Value) (h : Txt W u S) => tr_impl S u W h
  obtain ⟨z, hz⟩ : ∃ z, z = trv S := ⟨_, rfl⟩
  rw [← hz] at k1 k2
  clear hz
  go_enter Try.func6, Try.ntmps6
  go_wp2_with (go_at_call 8; refine (c1 _ hT).mono ?_; rintro e w1 ⟨r, rfl, hw1, hr⟩; replace hw1 := hw1.symm; subst hw1)
  all_goals first
    | (go_ret; exact ⟨rfl, Below.refl _ _⟩)
    | (have hlen : S.length ≤ 1048576 := hr (by assumption)
       have c2 := fun W (h : Txt W v S) => tos_is W v S h hlen
       clear hr c1
       go_wp2_with (first
         | (go_at_call 10; refine (c2 w6 hV6).mono ?_; rintro e w7 ⟨u7, rfl, hb7, hT7⟩; have hT67 : Txt w7 u3 S := hT6.call hb7; have hz7 := hb7.size)
         | (go_at_call 10; refine (c2 _ (hV4.call ((Below.refl _ _).alloc (Nat.le_refl _) _))).mono ?_; rintro e w3 ⟨u3, rfl, hb3, hT3⟩; have hz3 := hb3.size; simp only [World.size_alloc] at hz3; have hD3 : Dig w4.heap.size z w3 := (Dig.new w4 z).call hb3; have hV3 : Txt w3 v S := (hV4.call ((Below.refl _ _).alloc (Nat.le_refl _) _)).call hb3; have hB3 : Below w.heap.size w w3 := below_after ((below_after hb2 hb4 hz2).alloc (by omega) _) hb3 (by simp only [World.size_alloc]; omega); clear hb3)
         | (go_at_call 10; refine (c2 w hT).mono ?_; rintro e w2 ⟨u2, rfl, hb2, hT2⟩; have hV2 : Txt w2 v S := hT.call hb2; have hz2 := hb2.size)
         | (go_at_call 17; refine (k1 w2 u2 hT2).mono ?_; rintro e w4 ⟨rfl, hb4⟩; have hV4 : Txt w4 v S := hV2.call hb4; have hz4 := hb4.size)
         | (go_at_call 18; refine (k2 w3 u3 hT3).mono ?_; rintro e w5 ⟨rfl, hb5⟩; have hz5 := hb5.size; have hD5 : Dig w4.heap.size z w5 := hD3.call hb5; obtain ⟨_, d0, d1, d2, d3⟩ := hD5; have hV5 : Txt w5 v S := hV3.call hb5; have hT5 : Txt w5 u3 S := hT3.call hb5; have hB5 : Below w.heap.size w w5 := below_after hB3 hb5 (by have := hB3.size; omega); clear hb5)
         | (go_at_call 19; refine (eqd_same z _).mono ?_; rintro e w6 ⟨rfl, hb6⟩; have hz6 := hb6.size; simp only [World.size_alloc] at hz6; have hV6 : Txt w6 v S := (hV5.call ((Below.refl _ _).alloc (Nat.le_refl _) _)).call hb6; have hT6 : Txt w6 u3 S := (hT5.call ((Below.refl _ _).alloc (Nat.le_refl _) _)).call hb6; have hB6 : Below w.heap.size w w6 := below_after (hB5.alloc (by have := hB5.size; omega) _) hb6 (by have := hB5.size; simp only [World.size_alloc]; omega); clear hb6)
         | (go_at_call 12; refine (eqs_is w7 u3 u7 S hT67 hT7).mono ?_; rintro e w8 ⟨rfl, hb8⟩; have hz8 := hb8.size))
       have hs6 := hB6.size
       go_ret
       exact ⟨rfl, below_after (below_after hB6 hb7 hs6) hb8 (by omega)⟩)
end Go.Proofs.Ytfhghoknalfeiaa
