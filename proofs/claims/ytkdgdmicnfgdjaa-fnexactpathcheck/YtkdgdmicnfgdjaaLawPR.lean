/-
  The law of PathRoot, walked.
-/
import Derived.Test.YtkdgdmicnfgdjaaPRoot4
import Derived.Test.YtkdgdmicnfgdjaaBox
namespace Go.Proofs.Ytkdgdmicnfgdjaa
open Go.RowKit

theorem pr_impl_all (n i : Int) (s : ByteArray) (P : List Qd) (v : Value) (w : World) (hs : s.size ≤ 1048576) (hT : Dgs w v P) (hnone : ∀ a l c, v = .slice (some a) l c → a.spot = none) :
    Calls Try.prog 21 #[.int .i64 n, .int .i64 i, .string s, v] w fun e w' => e = .returned (.tuple #[.agg #[.int .u64 ((prQ n i s P).a.toNat : Int), .int .u64 ((prQ n i s P).b.toNat : Int), .int .u64 ((prQ n i s P).c.toNat : Int), .int .u64 ((prQ n i s P).d.toNat : Int)], .bool (prOk n i s P)]) ∧ Below w.heap.size w w' := by
  cases hok : prOk n i s P with
  | false =>
    have hq : prQ n i s P = ⟨0, 0, 0, 0⟩ := by unfold prQ; rw [hok]; rfl
    rw [hq]
    exact pr_impl_out n i s P v w hs hT hok
  | true =>
    have hq : prQ n i s P = up n.toNat n.toNat i.toNat (leafD s) P := by unfold prQ; rw [hok]; rfl
    rw [hq]
    unfold prOk at hok
    simp only [Bool.and_eq_true, decide_eq_true_iff] at hok
    have := pr_impl_in n.toNat i.toNat s P v w (by omega) (by omega) hok.1.2 hok.2 hT hnone
    rwa [Int.toNat_of_nonneg (by omega), Int.toNat_of_nonneg (by omega)] at this
theorem tods_ex2 (W : World) (v : Value) (L : List Qd) (h : Dgs W v L) (hlen : L.length ≤ 1048576) :
    Calls Try.prog 20 #[v] W fun e w' => ∃ u, e = .returned u ∧ Below W.heap.size W w' ∧ Dgs w' u L ∧ ∀ a l c, u = .slice (some a) l c → a.spot = none :=
  (tods_is W v L h hlen).mono (by
    rintro e w' ⟨rfl, hb, hd⟩
    exact ⟨_, rfl, hb, hd.dgs hlen, fun a l c e => by cases e; rfl⟩)

set_option maxRecDepth 20000 in
set_option maxHeartbeats 2000000 in
theorem lawPathRoot (n i : Int) (s : ByteArray) (v : Value) (L : List Qd) (w : World) (hsm : s.size ≤ maxLen) (hT : Dgs w v L) :
    Calls Try.prog 4 #[.int .i64 n, .int .i64 i, .string s, v] w fun e w' => e = .returned (.bool true) ∧ Below w.heap.size w w' := by
  by_cases hbig : 1048576 < s.size
  · have hbI : 1048576 < (s.size : Int) := by omega
    have hss : s.size ≤ 9223372036854775807 := by unfold maxLen at hsm; omega
    clear hsm hT
    go_enter Try.func4, Try.ntmps4
    go_wp2
    go_ret
    exact ⟨rfl, Below.refl _ _⟩
  have hbI : ¬ 1048576 < (s.size : Int) := by omega
  have hss : s.size ≤ 9223372036854775807 := by omega
  have c1 := fun W (h : Dgs W v L) => szd_is W v L h 1048576 (by omega)
  have k1 := fun (W : World) (u : Value) (h : Dgs W u L) => pr_spec_all n i s L u W (by omega) h
  have k2 := fun (W : World) (u : Value) (h : Dgs W u L) (hn : ∀ a l c, u = .slice (some a) l c → a.spot = none) => pr_impl_all n i s L u W (by omega) h hn
  obtain ⟨z, hz⟩ : ∃ z, z = prQ n i s L := ⟨_, rfl⟩
  rw [← hz] at k1 k2
  generalize prOk n i s L = b at k1 k2
  clear hz hsm hbig
  go_enter Try.func4, Try.ntmps4
  go_wp2_with (go_at_call 18; refine (c1 _ hT).mono ?_; rintro e w1 ⟨r, rfl, hw1, hr⟩; replace hw1 := hw1.symm; subst hw1)
  all_goals first
    | (go_ret; exact ⟨rfl, Below.refl _ _⟩)
    | (have hlen : L.length ≤ 1048576 := hr (by assumption)
       have c2 := fun W (h : Dgs W v L) => tods_ex2 W v L h hlen
       clear hr c1
       go_wp2_with (first
         | (go_at_call 20; refine (c2 w6 hV6).mono ?_; rintro e w7 ⟨u7, rfl, hb7, hT7, -⟩; have hT67 : Dgs w7 u3 L := hT6.call hb7; have hz7 := hb7.size)
         | (go_at_call 20; refine (c2 _ (hV4.call ((Below.refl _ _).alloc (Nat.le_refl _) _))).mono ?_; rintro e w3 ⟨u3, rfl, hb3, hT3, hn3⟩; have hz3 := hb3.size; simp only [World.size_alloc] at hz3; have hD3 : Dig w4.heap.size z w3 := (Dig.new w4 z).call hb3; have hV3 : Dgs w3 v L := (hV4.call ((Below.refl _ _).alloc (Nat.le_refl _) _)).call hb3; have hB3 : Below w.heap.size w w3 := below_after ((below_after hb2 hb4 hz2).alloc (by omega) _) hb3 (by simp only [World.size_alloc]; omega); clear hb3)
         | (go_at_call 20; refine (c2 w hT).mono ?_; rintro e w2 ⟨u2, rfl, hb2, hT2, -⟩; have hV2 : Dgs w2 v L := hT.call hb2; have hz2 := hb2.size)
         | (go_at_call 19; refine (k1 w2 u2 hT2).mono ?_; rintro e w4 ⟨rfl, hb4⟩; have hV4 : Dgs w4 v L := hV2.call hb4; have hz4 := hb4.size)
         | (go_at_call 21; refine (k2 w3 u3 hT3 hn3).mono ?_; rintro e w5 ⟨rfl, hb5⟩; have hz5 := hb5.size; have hD5 : Dig w4.heap.size z w5 := hD3.call hb5; obtain ⟨_, d0, d1, d2, d3⟩ := hD5; have hV5 : Dgs w5 v L := hV3.call hb5; have hT5 : Dgs w5 u3 L := hT3.call hb5; have hB5 : Below w.heap.size w w5 := below_after hB3 hb5 (by have := hB3.size; omega); clear hb5)
         | (go_at_call 22; refine (eqd_same z _).mono ?_; rintro e w6 ⟨rfl, hb6⟩; have hz6 := hb6.size; simp only [World.size_alloc] at hz6; have hV6 : Dgs w6 v L := (hV5.call ((Below.refl _ _).alloc (Nat.le_refl _) _)).call hb6; have hT6 : Dgs w6 u3 L := (hT5.call ((Below.refl _ _).alloc (Nat.le_refl _) _)).call hb6; have hB6 : Below w.heap.size w w6 := below_after (hB5.alloc (by have := hB5.size; omega) _) hb6 (by have := hB5.size; simp only [World.size_alloc]; omega); clear hb6)
         | (go_at_call 13; refine (eqds_is w7 u3 u7 L hT67 hT7).mono ?_; rintro e w8 ⟨rfl, hb8⟩; have hz8 := hb8.size))
       have hs6 := hB6.size
       go_ret
       exact ⟨rfl, below_after (below_after hB6 hb7 hs6) hb8 (by omega)⟩)
end Go.Proofs.Ytkdgdmicnfgdjaa
