/-
  The law of a slot's sum, walked.
-/
import Derived.Test.YtepgmdgcappfpaaJoinB51
namespace Go.Proofs.Ytepgmdgcappfpaa
open Go.RowKit Go.MuLone

set_option maxRecDepth 200000 in
set_option maxHeartbeats 8000000 in
theorem lawSums (v : Value) (L : List UInt8) (w : World) (hV : Byt w v L) :
    Calls Try.prog 4 #[v] w fun e w' => e = .returned (.bool true) ∧ Below w.heap.size w w' := by
  obtain ⟨oa, cap, hv⟩ : ∃ a cap, v = .slice a L.length cap := by
    rcases hV with ⟨rfl, rfl⟩ | ⟨a, cap, rfl, _⟩
    · exact ⟨none, 0, rfl⟩
    · exact ⟨some a, cap, rfl⟩
  by_cases hbig : 1048576 < L.length
  · have hbI : (1048576 : Int) < (L.length : Int) := by omega
    subst hv
    clear hV
    go_enter Try.func4, Try.ntmps4
    go_wp2_with fail
    go_ret
    exact ⟨rfl, Below.refl _ _⟩
  · have hbI : ¬ (1048576 : Int) < (L.length : Int) := by omega
    have co := drawSum_is w v L hV
    subst hv
    clear hV hbig
    go_enter Try.func4, Try.ntmps4
    go_upto_region 4 with (go_at_call 13; refine co.mono ?_; rintro e w1 ⟨s, rfl, b1⟩; clear co)
    have S2 := SX.new w1 s
    have z2 : Below w.heap.size w (w1.alloc (.cells #[.int .u64 ((s.m).toNat : Int), .int .u64 ((s.q).toNat : Int), .int .u64 ((s.z).toNat : Int), .int .u64 ((s.r.a).toNat : Int), .int .u64 ((s.r.b).toNat : Int), .int .u64 ((s.r.c).toNat : Int), .int .u64 ((s.r.d).toNat : Int)] 27)) := b1.alloc b1.size _
    generalize w1.alloc (.cells #[.int .u64 ((s.m).toNat : Int), .int .u64 ((s.q).toNat : Int), .int .u64 ((s.z).toNat : Int), .int .u64 ((s.r.a).toNat : Int), .int .u64 ((s.r.b).toNat : Int), .int .u64 ((s.r.c).toNat : Int), .int .u64 ((s.r.d).toNat : Int)] 27) = w2 at S2 z2 ⊢
    generalize w1.heap.size = X at S2 ⊢
    clear b1 w1 hbI
    have hX : w.heap.size ≤ w.heap.size := Nat.le_refl _
    have ci := fun V : World => ssum_impl s V
    have cs := fun V : World => ssum_spec s V
    have f0 : sumOf s ≠ 0 := sum_ne s
    have c1 := fun V : World => sok_impl { s with m := sumOf s } V
    have c2 := fun V : World => sok_impl { s with m := 0 } V
    have c3 := fun V : World => sok_impl { s with m := sumOf s + 2 } V
    rw [slok_sum s] at c1
    rw [slok_off s 0 (fun e => f0 e.symm)] at c2
    rw [slok_off s (sumOf s + 2) (sum_two _)] at c3
    have hwr : Hid (IntKind.u64.wrap (((sumOf s).toNat : Int) + 2) = (((sumOf s + 2 : UInt64)).toNat : Int)) := sum_wrap (sumOf s)
    generalize sumOf s = y at ci cs f0 c1 c2 c3 hwr
    simp only at c1 c2 c3
    have fN : ¬ y.toNat = 0 := fun h => f0 (UInt64.toNat_inj.1 (h.trans rfl))
    have fI : ¬ (y.toNat : Int) = 0 := by omega
    obtain ⟨s0, s1, s2, s3, s4, s5, s6, -⟩ := S2.cells
    clear hX
    go_upto_region 7 with (first
      | (with_reducible refine wpl_load agg_slot X 0 [.int .u64 ((s.m).toNat : Int), .int .u64 ((s.q).toNat : Int), .int .u64 ((s.z).toNat : Int), .int .u64 ((s.r.a).toNat : Int), .int .u64 ((s.r.b).toNat : Int), .int .u64 ((s.r.c).toNat : Int), .int .u64 ((s.r.d).toNat : Int)] (by kernel_rfl) (by kernel_rfl) S2.1 ?_)
      | (go_at_call 14; refine (ci _).mono ?_; rintro e w3 ⟨rfl, b3⟩; have S3 := S2.call b3; have z3 := below_after z2 b3 z2.size; clear s0 s1 s2 s3 s4 s5 s6; obtain ⟨s0, s1, s2, s3, s4, s5, s6, -⟩ := S3.cells; clear S2 z2 ci b3)
      | (go_at_call 15; refine (cs _).mono ?_; rintro e w4 ⟨rfl, b4⟩; have S4 := S3.call b4; have z4 := below_after z3 b4 z3.size; clear s0 s1 s2 s3 s4 s5 s6; obtain ⟨s0, s1, s2, s3, s4, s5, s6, -⟩ := S4.cells; clear S3 z3 cs b4))
    go_upto_region 8 with (with_reducible refine wpl_load agg_slot X 0 [.int .u64 ((s.m).toNat : Int), .int .u64 ((s.q).toNat : Int), .int .u64 ((s.z).toNat : Int), .int .u64 ((s.r.a).toNat : Int), .int .u64 ((s.r.b).toNat : Int), .int .u64 ((s.r.c).toNat : Int), .int .u64 ((s.r.d).toNat : Int)] (by kernel_rfl) (by kernel_rfl) S4.1 ?_)
    have T5 := SX.new w4 s
    have hXT : X < w4.heap.size := S4.2.2
    have S5 := S4.call ((Below.refl w4.heap.size w4).alloc (Nat.le_refl _) (.cells #[.int .u64 ((s.m).toNat : Int), .int .u64 ((s.q).toNat : Int), .int .u64 ((s.z).toNat : Int), .int .u64 ((s.r.a).toNat : Int), .int .u64 ((s.r.b).toNat : Int), .int .u64 ((s.r.c).toNat : Int), .int .u64 ((s.r.d).toNat : Int)] 27))
    have z5 := z4.alloc z4.size (.cells #[.int .u64 ((s.m).toNat : Int), .int .u64 ((s.q).toNat : Int), .int .u64 ((s.z).toNat : Int), .int .u64 ((s.r.a).toNat : Int), .int .u64 ((s.r.b).toNat : Int), .int .u64 ((s.r.c).toNat : Int), .int .u64 ((s.r.d).toNat : Int)] 27)
    have hwT := z4.size
    generalize w4.alloc (.cells #[.int .u64 ((s.m).toNat : Int), .int .u64 ((s.q).toNat : Int), .int .u64 ((s.z).toNat : Int), .int .u64 ((s.r.a).toNat : Int), .int .u64 ((s.r.b).toNat : Int), .int .u64 ((s.r.c).toNat : Int), .int .u64 ((s.r.d).toNat : Int)] 27) = w5 at T5 S5 z5 ⊢
    generalize w4.heap.size = T at T5 hXT hwT ⊢
    clear S4 z4 s0 s1 s2 s3 s4 s5 s6
    obtain ⟨t0, -, -, -, -, -, -, tf⟩ := T5.cells
    go_upto_region 9 with fail
    have T6 : SX T { s with m := y } _ := T5.setm y
    have S6 := S5.far 0 (.int .u64 ((y).toNat : Int)) (Nat.ne_of_gt hXT)
    have z6 := z5.setCell (p := ⟨T, 0, none⟩) hwT (.int .u64 ((y).toNat : Int))
    generalize w5.setCell ⟨T, 0, none⟩ (.int .u64 ((y).toNat : Int)) = w6 at T6 S6 z6 ⊢
    clear t0 tf T5 S5 z5 f0 fN fI
    obtain ⟨-, s1, s2, -, -, -, -, -⟩ := S6.cells
    clear S6
    obtain ⟨nq, hnq⟩ : ∃ n : Nat, n = s.q.toNat := ⟨_, rfl⟩
    obtain ⟨nz, hnz⟩ : ∃ n : Nat, n = s.z.toNat := ⟨_, rfl⟩
    have hin : (bnd s.q 1000000000 && bnd s.z 256) = (decide (1 ≤ nq ∧ nq ≤ 1000000000) && decide (1 ≤ nz ∧ nz ≤ 256)) := by
      unfold bnd
      rw [← hnq, ← hnz]
      congr 1
      · exact decide_eq_decide.2 (by omega)
      · exact decide_eq_decide.2 (by omega)
    rw [hin] at c1
    rw [← hnq] at s1
    rw [← hnz] at s2
    clear hin hnq hnz
    by_cases q1 : 1 ≤ nq
    · have q1I : (1 : Int) ≤ (nq : Int) := by omega
      have q1d : decide ((1 : Int) ≤ (nq : Int)) = true := decide_eq_true q1I
      by_cases q2 : nq ≤ 1000000000
      · have q2I : decide ((nq : Int) ≤ 1000000000) = true := decide_eq_true (by omega)
        have q2N : decide (nq ≤ 1000000000) = true := decide_eq_true q2
        by_cases p1 : 1 ≤ nz
        · have p1I : (1 : Int) ≤ (nz : Int) := by omega
          by_cases p2 : nz ≤ 256
          · have p2I : (nz : Int) ≤ 256 := by omega
            rw [decide_eq_true (show 1 ≤ nq ∧ nq ≤ 1000000000 from ⟨q1, q2⟩), decide_eq_true (show 1 ≤ nz ∧ nz ≤ 256 from ⟨p1, p2⟩), Bool.true_and] at c1
            clear q1 q2
            have t6 : Lies T 0 [.int .u64 ((y).toNat : Int), .int .u64 ((s.q).toNat : Int), .int .u64 ((s.z).toNat : Int), .int .u64 ((s.r.a).toNat : Int), .int .u64 ((s.r.b).toNat : Int), .int .u64 ((s.r.c).toNat : Int), .int .u64 ((s.r.d).toNat : Int)] w6 := T6.1
            go_upto_region 11 with (with_reducible refine wpl_load agg_slot T 0 [.int .u64 ((y).toNat : Int), .int .u64 ((s.q).toNat : Int), .int .u64 ((s.z).toNat : Int), .int .u64 ((s.r.a).toNat : Int), .int .u64 ((s.r.b).toNat : Int), .int .u64 ((s.r.c).toNat : Int), .int .u64 ((s.r.d).toNat : Int)] (by kernel_rfl) (by kernel_rfl) t6 ?_)
            have U7 : SX w6.heap.size { s with m := y } _ := SX.new w6 { s with m := y }
            have hTU : T < w6.heap.size := T6.2.2
            have T7 := T6.call ((Below.refl w6.heap.size w6).alloc (Nat.le_refl _) (.cells #[.int .u64 ((y).toNat : Int), .int .u64 ((s.q).toNat : Int), .int .u64 ((s.z).toNat : Int), .int .u64 ((s.r.a).toNat : Int), .int .u64 ((s.r.b).toNat : Int), .int .u64 ((s.r.c).toNat : Int), .int .u64 ((s.r.d).toNat : Int)] 27))
            have z7 := z6.alloc z6.size (.cells #[.int .u64 ((y).toNat : Int), .int .u64 ((s.q).toNat : Int), .int .u64 ((s.z).toNat : Int), .int .u64 ((s.r.a).toNat : Int), .int .u64 ((s.r.b).toNat : Int), .int .u64 ((s.r.c).toNat : Int), .int .u64 ((s.r.d).toNat : Int)] 27)
            have hwU := z6.size
            simp only at U7
            generalize w6.alloc (.cells #[.int .u64 ((y).toNat : Int), .int .u64 ((s.q).toNat : Int), .int .u64 ((s.z).toNat : Int), .int .u64 ((s.r.a).toNat : Int), .int .u64 ((s.r.b).toNat : Int), .int .u64 ((s.r.c).toNat : Int), .int .u64 ((s.r.d).toNat : Int)] 27) = w7 at U7 T7 z7 ⊢
            generalize w6.heap.size = U at U7 hTU hwU ⊢
            clear T6 z6 s1 s2
            obtain ⟨u0, -, -, -, -, -, -, uf⟩ := U7.cells
            go_upto_region 12 with fail
            have U8 : SX U { s with m := 0 } _ := U7.setm 0
            have T8 := T7.far 0 (.int .u64 (((0 : UInt64)).toNat : Int)) (Nat.ne_of_gt hTU)
            have z8 := z7.setCell (p := ⟨U, 0, none⟩) hwU (.int .u64 (((0 : UInt64)).toNat : Int))
            have e0 : (.int .u64 (((0 : UInt64)).toNat : Int) : Value) = .int .u64 0 := rfl
            rw [e0] at U8 T8 z8
            generalize w7.setCell ⟨U, 0, none⟩ (.int .u64 0) = w8 at U8 T8 z8 ⊢
            clear u0 uf U7 T7 z7 e0
            have t8 : Lies T 0 [.int .u64 ((y).toNat : Int), .int .u64 ((s.q).toNat : Int), .int .u64 ((s.z).toNat : Int), .int .u64 ((s.r.a).toNat : Int), .int .u64 ((s.r.b).toNat : Int), .int .u64 ((s.r.c).toNat : Int), .int .u64 ((s.r.d).toNat : Int)] w8 := T8.1
            go_upto_region 13 with (with_reducible refine wpl_load agg_slot T 0 [.int .u64 ((y).toNat : Int), .int .u64 ((s.q).toNat : Int), .int .u64 ((s.z).toNat : Int), .int .u64 ((s.r.a).toNat : Int), .int .u64 ((s.r.b).toNat : Int), .int .u64 ((s.r.c).toNat : Int), .int .u64 ((s.r.d).toNat : Int)] (by kernel_rfl) (by kernel_rfl) t8 ?_)
            have V9 : SX w8.heap.size { s with m := y } _ := SX.new w8 { s with m := y }
            have hTV : T < w8.heap.size := T8.2.2
            have hUV : U < w8.heap.size := U8.2.2
            have T9 := T8.call ((Below.refl w8.heap.size w8).alloc (Nat.le_refl _) (.cells #[.int .u64 ((y).toNat : Int), .int .u64 ((s.q).toNat : Int), .int .u64 ((s.z).toNat : Int), .int .u64 ((s.r.a).toNat : Int), .int .u64 ((s.r.b).toNat : Int), .int .u64 ((s.r.c).toNat : Int), .int .u64 ((s.r.d).toNat : Int)] 27))
            have U9 := U8.call ((Below.refl w8.heap.size w8).alloc (Nat.le_refl _) (.cells #[.int .u64 ((y).toNat : Int), .int .u64 ((s.q).toNat : Int), .int .u64 ((s.z).toNat : Int), .int .u64 ((s.r.a).toNat : Int), .int .u64 ((s.r.b).toNat : Int), .int .u64 ((s.r.c).toNat : Int), .int .u64 ((s.r.d).toNat : Int)] 27))
            have z9 := z8.alloc z8.size (.cells #[.int .u64 ((y).toNat : Int), .int .u64 ((s.q).toNat : Int), .int .u64 ((s.z).toNat : Int), .int .u64 ((s.r.a).toNat : Int), .int .u64 ((s.r.b).toNat : Int), .int .u64 ((s.r.c).toNat : Int), .int .u64 ((s.r.d).toNat : Int)] 27)
            have hwV := z8.size
            simp only at V9
            generalize w8.alloc (.cells #[.int .u64 ((y).toNat : Int), .int .u64 ((s.q).toNat : Int), .int .u64 ((s.z).toNat : Int), .int .u64 ((s.r.a).toNat : Int), .int .u64 ((s.r.b).toNat : Int), .int .u64 ((s.r.c).toNat : Int), .int .u64 ((s.r.d).toNat : Int)] 27) = w9 at V9 U9 T9 z9 ⊢
            generalize w8.heap.size = V at V9 hTV hUV hwV ⊢
            clear T8 U8 z8
            obtain ⟨v0, -, -, -, -, -, -, vf⟩ := V9.cells
            go_upto_region 14 with fail
            rw [hwr.out]
            have Va : SX V { s with m := y + 2 } _ := V9.setm (y + 2)
            have Ta := T9.far 0 (.int .u64 (((y + 2)).toNat : Int)) (Nat.ne_of_gt hTV)
            have Ua := U9.far 0 (.int .u64 (((y + 2)).toNat : Int)) (Nat.ne_of_gt hUV)
            have za := z9.setCell (p := ⟨V, 0, none⟩) hwV (.int .u64 (((y + 2)).toNat : Int))
            generalize w9.setCell ⟨V, 0, none⟩ (.int .u64 (((y + 2)).toNat : Int)) = wa at Va Ta Ua za ⊢
            clear v0 vf V9 T9 U9 z9 hwr
            have ta : Lies T 0 [.int .u64 ((y).toNat : Int), .int .u64 ((s.q).toNat : Int), .int .u64 ((s.z).toNat : Int), .int .u64 ((s.r.a).toNat : Int), .int .u64 ((s.r.b).toNat : Int), .int .u64 ((s.r.c).toNat : Int), .int .u64 ((s.r.d).toNat : Int)] wa := Ta.1
            go_wp2_with (first
              | (with_reducible refine wpl_load agg_slot T 0 [.int .u64 ((y).toNat : Int), .int .u64 ((s.q).toNat : Int), .int .u64 ((s.z).toNat : Int), .int .u64 ((s.r.a).toNat : Int), .int .u64 ((s.r.b).toNat : Int), .int .u64 ((s.r.c).toNat : Int), .int .u64 ((s.r.d).toNat : Int)] (by kernel_rfl) (by kernel_rfl) ta ?_)
              | (go_at_call 12; refine (c1 _).mono ?_; rintro e wb ⟨rfl, bb⟩; have Ub := Ua.call bb; have Vb := Va.call bb; have zb := below_after za bb za.size; have ub : Lies U 0 [.int .u64 0, .int .u64 ((s.q).toNat : Int), .int .u64 ((s.z).toNat : Int), .int .u64 ((s.r.a).toNat : Int), .int .u64 ((s.r.b).toNat : Int), .int .u64 ((s.r.c).toNat : Int), .int .u64 ((s.r.d).toNat : Int)] wb := Ub.1; obtain ⟨u0, u1, u2, u3, u4, u5, u6⟩ := cells7 ub; clear ub ta Ta Ua Va za bb c1)
              | (go_at_call 12; refine (c2 _).mono ?_; rintro e wc ⟨rfl, bc⟩; have Vc := Vb.call bc; have zc := below_after zb bc zb.size; have vc : Lies V 0 [.int .u64 (((y + 2)).toNat : Int), .int .u64 ((s.q).toNat : Int), .int .u64 ((s.z).toNat : Int), .int .u64 ((s.r.a).toNat : Int), .int .u64 ((s.r.b).toNat : Int), .int .u64 ((s.r.c).toNat : Int), .int .u64 ((s.r.d).toNat : Int)] wc := Vc.1; clear u0 u1 u2 u3 u4 u5 u6; obtain ⟨u0, u1, u2, u3, u4, u5, u6⟩ := cells7 vc; clear vc Ub Vb zb bc c2)
              | (go_at_call 12; refine (c3 _).mono ?_; rintro e wd ⟨rfl, bd⟩; have zd := below_after zc bd zc.size; clear u0 u1 u2 u3 u4 u5 u6 Vc zc bd c3))
            go_ret
            exact ⟨rfl, zd⟩
          · have p2I : ¬ (nz : Int) ≤ 256 := by omega
            rw [decide_eq_false (show ¬ (1 ≤ nz ∧ nz ≤ 256) by omega), Bool.and_false] at c1
            clear q1 q2
            have t6 : Lies T 0 [.int .u64 ((y).toNat : Int), .int .u64 ((s.q).toNat : Int), .int .u64 ((s.z).toNat : Int), .int .u64 ((s.r.a).toNat : Int), .int .u64 ((s.r.b).toNat : Int), .int .u64 ((s.r.c).toNat : Int), .int .u64 ((s.r.d).toNat : Int)] w6 := T6.1
            go_upto_region 11 with (with_reducible refine wpl_load agg_slot T 0 [.int .u64 ((y).toNat : Int), .int .u64 ((s.q).toNat : Int), .int .u64 ((s.z).toNat : Int), .int .u64 ((s.r.a).toNat : Int), .int .u64 ((s.r.b).toNat : Int), .int .u64 ((s.r.c).toNat : Int), .int .u64 ((s.r.d).toNat : Int)] (by kernel_rfl) (by kernel_rfl) t6 ?_)
            have U7 : SX w6.heap.size { s with m := y } _ := SX.new w6 { s with m := y }
            have hTU : T < w6.heap.size := T6.2.2
            have T7 := T6.call ((Below.refl w6.heap.size w6).alloc (Nat.le_refl _) (.cells #[.int .u64 ((y).toNat : Int), .int .u64 ((s.q).toNat : Int), .int .u64 ((s.z).toNat : Int), .int .u64 ((s.r.a).toNat : Int), .int .u64 ((s.r.b).toNat : Int), .int .u64 ((s.r.c).toNat : Int), .int .u64 ((s.r.d).toNat : Int)] 27))
            have z7 := z6.alloc z6.size (.cells #[.int .u64 ((y).toNat : Int), .int .u64 ((s.q).toNat : Int), .int .u64 ((s.z).toNat : Int), .int .u64 ((s.r.a).toNat : Int), .int .u64 ((s.r.b).toNat : Int), .int .u64 ((s.r.c).toNat : Int), .int .u64 ((s.r.d).toNat : Int)] 27)
            have hwU := z6.size
            simp only at U7
            generalize w6.alloc (.cells #[.int .u64 ((y).toNat : Int), .int .u64 ((s.q).toNat : Int), .int .u64 ((s.z).toNat : Int), .int .u64 ((s.r.a).toNat : Int), .int .u64 ((s.r.b).toNat : Int), .int .u64 ((s.r.c).toNat : Int), .int .u64 ((s.r.d).toNat : Int)] 27) = w7 at U7 T7 z7 ⊢
            generalize w6.heap.size = U at U7 hTU hwU ⊢
            clear T6 z6 s1 s2
            obtain ⟨u0, -, -, -, -, -, -, uf⟩ := U7.cells
            go_upto_region 12 with fail
            have U8 : SX U { s with m := 0 } _ := U7.setm 0
            have T8 := T7.far 0 (.int .u64 (((0 : UInt64)).toNat : Int)) (Nat.ne_of_gt hTU)
            have z8 := z7.setCell (p := ⟨U, 0, none⟩) hwU (.int .u64 (((0 : UInt64)).toNat : Int))
            have e0 : (.int .u64 (((0 : UInt64)).toNat : Int) : Value) = .int .u64 0 := rfl
            rw [e0] at U8 T8 z8
            generalize w7.setCell ⟨U, 0, none⟩ (.int .u64 0) = w8 at U8 T8 z8 ⊢
            clear u0 uf U7 T7 z7 e0
            have t8 : Lies T 0 [.int .u64 ((y).toNat : Int), .int .u64 ((s.q).toNat : Int), .int .u64 ((s.z).toNat : Int), .int .u64 ((s.r.a).toNat : Int), .int .u64 ((s.r.b).toNat : Int), .int .u64 ((s.r.c).toNat : Int), .int .u64 ((s.r.d).toNat : Int)] w8 := T8.1
            go_upto_region 13 with (with_reducible refine wpl_load agg_slot T 0 [.int .u64 ((y).toNat : Int), .int .u64 ((s.q).toNat : Int), .int .u64 ((s.z).toNat : Int), .int .u64 ((s.r.a).toNat : Int), .int .u64 ((s.r.b).toNat : Int), .int .u64 ((s.r.c).toNat : Int), .int .u64 ((s.r.d).toNat : Int)] (by kernel_rfl) (by kernel_rfl) t8 ?_)
            have V9 : SX w8.heap.size { s with m := y } _ := SX.new w8 { s with m := y }
            have hTV : T < w8.heap.size := T8.2.2
            have hUV : U < w8.heap.size := U8.2.2
            have T9 := T8.call ((Below.refl w8.heap.size w8).alloc (Nat.le_refl _) (.cells #[.int .u64 ((y).toNat : Int), .int .u64 ((s.q).toNat : Int), .int .u64 ((s.z).toNat : Int), .int .u64 ((s.r.a).toNat : Int), .int .u64 ((s.r.b).toNat : Int), .int .u64 ((s.r.c).toNat : Int), .int .u64 ((s.r.d).toNat : Int)] 27))
            have U9 := U8.call ((Below.refl w8.heap.size w8).alloc (Nat.le_refl _) (.cells #[.int .u64 ((y).toNat : Int), .int .u64 ((s.q).toNat : Int), .int .u64 ((s.z).toNat : Int), .int .u64 ((s.r.a).toNat : Int), .int .u64 ((s.r.b).toNat : Int), .int .u64 ((s.r.c).toNat : Int), .int .u64 ((s.r.d).toNat : Int)] 27))
            have z9 := z8.alloc z8.size (.cells #[.int .u64 ((y).toNat : Int), .int .u64 ((s.q).toNat : Int), .int .u64 ((s.z).toNat : Int), .int .u64 ((s.r.a).toNat : Int), .int .u64 ((s.r.b).toNat : Int), .int .u64 ((s.r.c).toNat : Int), .int .u64 ((s.r.d).toNat : Int)] 27)
            have hwV := z8.size
            simp only at V9
            generalize w8.alloc (.cells #[.int .u64 ((y).toNat : Int), .int .u64 ((s.q).toNat : Int), .int .u64 ((s.z).toNat : Int), .int .u64 ((s.r.a).toNat : Int), .int .u64 ((s.r.b).toNat : Int), .int .u64 ((s.r.c).toNat : Int), .int .u64 ((s.r.d).toNat : Int)] 27) = w9 at V9 U9 T9 z9 ⊢
            generalize w8.heap.size = V at V9 hTV hUV hwV ⊢
            clear T8 U8 z8
            obtain ⟨v0, -, -, -, -, -, -, vf⟩ := V9.cells
            go_upto_region 14 with fail
            rw [hwr.out]
            have Va : SX V { s with m := y + 2 } _ := V9.setm (y + 2)
            have Ta := T9.far 0 (.int .u64 (((y + 2)).toNat : Int)) (Nat.ne_of_gt hTV)
            have Ua := U9.far 0 (.int .u64 (((y + 2)).toNat : Int)) (Nat.ne_of_gt hUV)
            have za := z9.setCell (p := ⟨V, 0, none⟩) hwV (.int .u64 (((y + 2)).toNat : Int))
            generalize w9.setCell ⟨V, 0, none⟩ (.int .u64 (((y + 2)).toNat : Int)) = wa at Va Ta Ua za ⊢
            clear v0 vf V9 T9 U9 z9 hwr
            have ta : Lies T 0 [.int .u64 ((y).toNat : Int), .int .u64 ((s.q).toNat : Int), .int .u64 ((s.z).toNat : Int), .int .u64 ((s.r.a).toNat : Int), .int .u64 ((s.r.b).toNat : Int), .int .u64 ((s.r.c).toNat : Int), .int .u64 ((s.r.d).toNat : Int)] wa := Ta.1
            go_wp2_with (first
              | (with_reducible refine wpl_load agg_slot T 0 [.int .u64 ((y).toNat : Int), .int .u64 ((s.q).toNat : Int), .int .u64 ((s.z).toNat : Int), .int .u64 ((s.r.a).toNat : Int), .int .u64 ((s.r.b).toNat : Int), .int .u64 ((s.r.c).toNat : Int), .int .u64 ((s.r.d).toNat : Int)] (by kernel_rfl) (by kernel_rfl) ta ?_)
              | (go_at_call 12; refine (c1 _).mono ?_; rintro e wb ⟨rfl, bb⟩; have Ub := Ua.call bb; have Vb := Va.call bb; have zb := below_after za bb za.size; have ub : Lies U 0 [.int .u64 0, .int .u64 ((s.q).toNat : Int), .int .u64 ((s.z).toNat : Int), .int .u64 ((s.r.a).toNat : Int), .int .u64 ((s.r.b).toNat : Int), .int .u64 ((s.r.c).toNat : Int), .int .u64 ((s.r.d).toNat : Int)] wb := Ub.1; obtain ⟨u0, u1, u2, u3, u4, u5, u6⟩ := cells7 ub; clear ub ta Ta Ua Va za bb c1)
              | (go_at_call 12; refine (c2 _).mono ?_; rintro e wc ⟨rfl, bc⟩; have Vc := Vb.call bc; have zc := below_after zb bc zb.size; have vc : Lies V 0 [.int .u64 (((y + 2)).toNat : Int), .int .u64 ((s.q).toNat : Int), .int .u64 ((s.z).toNat : Int), .int .u64 ((s.r.a).toNat : Int), .int .u64 ((s.r.b).toNat : Int), .int .u64 ((s.r.c).toNat : Int), .int .u64 ((s.r.d).toNat : Int)] wc := Vc.1; clear u0 u1 u2 u3 u4 u5 u6; obtain ⟨u0, u1, u2, u3, u4, u5, u6⟩ := cells7 vc; clear vc Ub Vb zb bc c2)
              | (go_at_call 12; refine (c3 _).mono ?_; rintro e wd ⟨rfl, bd⟩; have zd := below_after zc bd zc.size; clear u0 u1 u2 u3 u4 u5 u6 Vc zc bd c3))
            go_ret
            exact ⟨rfl, zd⟩
        · have p1I : ¬ (1 : Int) ≤ (nz : Int) := by omega
          rw [decide_eq_false (show ¬ (1 ≤ nz ∧ nz ≤ 256) by omega), Bool.and_false] at c1
          clear q1 q2
          have t6 : Lies T 0 [.int .u64 ((y).toNat : Int), .int .u64 ((s.q).toNat : Int), .int .u64 ((s.z).toNat : Int), .int .u64 ((s.r.a).toNat : Int), .int .u64 ((s.r.b).toNat : Int), .int .u64 ((s.r.c).toNat : Int), .int .u64 ((s.r.d).toNat : Int)] w6 := T6.1
          go_upto_region 11 with (with_reducible refine wpl_load agg_slot T 0 [.int .u64 ((y).toNat : Int), .int .u64 ((s.q).toNat : Int), .int .u64 ((s.z).toNat : Int), .int .u64 ((s.r.a).toNat : Int), .int .u64 ((s.r.b).toNat : Int), .int .u64 ((s.r.c).toNat : Int), .int .u64 ((s.r.d).toNat : Int)] (by kernel_rfl) (by kernel_rfl) t6 ?_)
          have U7 : SX w6.heap.size { s with m := y } _ := SX.new w6 { s with m := y }
          have hTU : T < w6.heap.size := T6.2.2
          have T7 := T6.call ((Below.refl w6.heap.size w6).alloc (Nat.le_refl _) (.cells #[.int .u64 ((y).toNat : Int), .int .u64 ((s.q).toNat : Int), .int .u64 ((s.z).toNat : Int), .int .u64 ((s.r.a).toNat : Int), .int .u64 ((s.r.b).toNat : Int), .int .u64 ((s.r.c).toNat : Int), .int .u64 ((s.r.d).toNat : Int)] 27))
          have z7 := z6.alloc z6.size (.cells #[.int .u64 ((y).toNat : Int), .int .u64 ((s.q).toNat : Int), .int .u64 ((s.z).toNat : Int), .int .u64 ((s.r.a).toNat : Int), .int .u64 ((s.r.b).toNat : Int), .int .u64 ((s.r.c).toNat : Int), .int .u64 ((s.r.d).toNat : Int)] 27)
          have hwU := z6.size
          simp only at U7
          generalize w6.alloc (.cells #[.int .u64 ((y).toNat : Int), .int .u64 ((s.q).toNat : Int), .int .u64 ((s.z).toNat : Int), .int .u64 ((s.r.a).toNat : Int), .int .u64 ((s.r.b).toNat : Int), .int .u64 ((s.r.c).toNat : Int), .int .u64 ((s.r.d).toNat : Int)] 27) = w7 at U7 T7 z7 ⊢
          generalize w6.heap.size = U at U7 hTU hwU ⊢
          clear T6 z6 s1 s2
          obtain ⟨u0, -, -, -, -, -, -, uf⟩ := U7.cells
          go_upto_region 12 with fail
          have U8 : SX U { s with m := 0 } _ := U7.setm 0
          have T8 := T7.far 0 (.int .u64 (((0 : UInt64)).toNat : Int)) (Nat.ne_of_gt hTU)
          have z8 := z7.setCell (p := ⟨U, 0, none⟩) hwU (.int .u64 (((0 : UInt64)).toNat : Int))
          have e0 : (.int .u64 (((0 : UInt64)).toNat : Int) : Value) = .int .u64 0 := rfl
          rw [e0] at U8 T8 z8
          generalize w7.setCell ⟨U, 0, none⟩ (.int .u64 0) = w8 at U8 T8 z8 ⊢
          clear u0 uf U7 T7 z7 e0
          have t8 : Lies T 0 [.int .u64 ((y).toNat : Int), .int .u64 ((s.q).toNat : Int), .int .u64 ((s.z).toNat : Int), .int .u64 ((s.r.a).toNat : Int), .int .u64 ((s.r.b).toNat : Int), .int .u64 ((s.r.c).toNat : Int), .int .u64 ((s.r.d).toNat : Int)] w8 := T8.1
          go_upto_region 13 with (with_reducible refine wpl_load agg_slot T 0 [.int .u64 ((y).toNat : Int), .int .u64 ((s.q).toNat : Int), .int .u64 ((s.z).toNat : Int), .int .u64 ((s.r.a).toNat : Int), .int .u64 ((s.r.b).toNat : Int), .int .u64 ((s.r.c).toNat : Int), .int .u64 ((s.r.d).toNat : Int)] (by kernel_rfl) (by kernel_rfl) t8 ?_)
          have V9 : SX w8.heap.size { s with m := y } _ := SX.new w8 { s with m := y }
          have hTV : T < w8.heap.size := T8.2.2
          have hUV : U < w8.heap.size := U8.2.2
          have T9 := T8.call ((Below.refl w8.heap.size w8).alloc (Nat.le_refl _) (.cells #[.int .u64 ((y).toNat : Int), .int .u64 ((s.q).toNat : Int), .int .u64 ((s.z).toNat : Int), .int .u64 ((s.r.a).toNat : Int), .int .u64 ((s.r.b).toNat : Int), .int .u64 ((s.r.c).toNat : Int), .int .u64 ((s.r.d).toNat : Int)] 27))
          have U9 := U8.call ((Below.refl w8.heap.size w8).alloc (Nat.le_refl _) (.cells #[.int .u64 ((y).toNat : Int), .int .u64 ((s.q).toNat : Int), .int .u64 ((s.z).toNat : Int), .int .u64 ((s.r.a).toNat : Int), .int .u64 ((s.r.b).toNat : Int), .int .u64 ((s.r.c).toNat : Int), .int .u64 ((s.r.d).toNat : Int)] 27))
          have z9 := z8.alloc z8.size (.cells #[.int .u64 ((y).toNat : Int), .int .u64 ((s.q).toNat : Int), .int .u64 ((s.z).toNat : Int), .int .u64 ((s.r.a).toNat : Int), .int .u64 ((s.r.b).toNat : Int), .int .u64 ((s.r.c).toNat : Int), .int .u64 ((s.r.d).toNat : Int)] 27)
          have hwV := z8.size
          simp only at V9
          generalize w8.alloc (.cells #[.int .u64 ((y).toNat : Int), .int .u64 ((s.q).toNat : Int), .int .u64 ((s.z).toNat : Int), .int .u64 ((s.r.a).toNat : Int), .int .u64 ((s.r.b).toNat : Int), .int .u64 ((s.r.c).toNat : Int), .int .u64 ((s.r.d).toNat : Int)] 27) = w9 at V9 U9 T9 z9 ⊢
          generalize w8.heap.size = V at V9 hTV hUV hwV ⊢
          clear T8 U8 z8
          obtain ⟨v0, -, -, -, -, -, -, vf⟩ := V9.cells
          go_upto_region 14 with fail
          rw [hwr.out]
          have Va : SX V { s with m := y + 2 } _ := V9.setm (y + 2)
          have Ta := T9.far 0 (.int .u64 (((y + 2)).toNat : Int)) (Nat.ne_of_gt hTV)
          have Ua := U9.far 0 (.int .u64 (((y + 2)).toNat : Int)) (Nat.ne_of_gt hUV)
          have za := z9.setCell (p := ⟨V, 0, none⟩) hwV (.int .u64 (((y + 2)).toNat : Int))
          generalize w9.setCell ⟨V, 0, none⟩ (.int .u64 (((y + 2)).toNat : Int)) = wa at Va Ta Ua za ⊢
          clear v0 vf V9 T9 U9 z9 hwr
          have ta : Lies T 0 [.int .u64 ((y).toNat : Int), .int .u64 ((s.q).toNat : Int), .int .u64 ((s.z).toNat : Int), .int .u64 ((s.r.a).toNat : Int), .int .u64 ((s.r.b).toNat : Int), .int .u64 ((s.r.c).toNat : Int), .int .u64 ((s.r.d).toNat : Int)] wa := Ta.1
          go_wp2_with (first
            | (with_reducible refine wpl_load agg_slot T 0 [.int .u64 ((y).toNat : Int), .int .u64 ((s.q).toNat : Int), .int .u64 ((s.z).toNat : Int), .int .u64 ((s.r.a).toNat : Int), .int .u64 ((s.r.b).toNat : Int), .int .u64 ((s.r.c).toNat : Int), .int .u64 ((s.r.d).toNat : Int)] (by kernel_rfl) (by kernel_rfl) ta ?_)
            | (go_at_call 12; refine (c1 _).mono ?_; rintro e wb ⟨rfl, bb⟩; have Ub := Ua.call bb; have Vb := Va.call bb; have zb := below_after za bb za.size; have ub : Lies U 0 [.int .u64 0, .int .u64 ((s.q).toNat : Int), .int .u64 ((s.z).toNat : Int), .int .u64 ((s.r.a).toNat : Int), .int .u64 ((s.r.b).toNat : Int), .int .u64 ((s.r.c).toNat : Int), .int .u64 ((s.r.d).toNat : Int)] wb := Ub.1; obtain ⟨u0, u1, u2, u3, u4, u5, u6⟩ := cells7 ub; clear ub ta Ta Ua Va za bb c1)
            | (go_at_call 12; refine (c2 _).mono ?_; rintro e wc ⟨rfl, bc⟩; have Vc := Vb.call bc; have zc := below_after zb bc zb.size; have vc : Lies V 0 [.int .u64 (((y + 2)).toNat : Int), .int .u64 ((s.q).toNat : Int), .int .u64 ((s.z).toNat : Int), .int .u64 ((s.r.a).toNat : Int), .int .u64 ((s.r.b).toNat : Int), .int .u64 ((s.r.c).toNat : Int), .int .u64 ((s.r.d).toNat : Int)] wc := Vc.1; clear u0 u1 u2 u3 u4 u5 u6; obtain ⟨u0, u1, u2, u3, u4, u5, u6⟩ := cells7 vc; clear vc Ub Vb zb bc c2)
            | (go_at_call 12; refine (c3 _).mono ?_; rintro e wd ⟨rfl, bd⟩; have zd := below_after zc bd zc.size; clear u0 u1 u2 u3 u4 u5 u6 Vc zc bd c3))
          go_ret
          exact ⟨rfl, zd⟩
      · have q2I : decide ((nq : Int) ≤ 1000000000) = false := decide_eq_false (by omega)
        have q2N : decide (nq ≤ 1000000000) = false := decide_eq_false q2
        rw [decide_eq_false (show ¬ (1 ≤ nq ∧ nq ≤ 1000000000) from fun h => q2 h.2), Bool.false_and] at c1
        clear q1 q2
        have t6 : Lies T 0 [.int .u64 ((y).toNat : Int), .int .u64 ((s.q).toNat : Int), .int .u64 ((s.z).toNat : Int), .int .u64 ((s.r.a).toNat : Int), .int .u64 ((s.r.b).toNat : Int), .int .u64 ((s.r.c).toNat : Int), .int .u64 ((s.r.d).toNat : Int)] w6 := T6.1
        go_upto_region 11 with (with_reducible refine wpl_load agg_slot T 0 [.int .u64 ((y).toNat : Int), .int .u64 ((s.q).toNat : Int), .int .u64 ((s.z).toNat : Int), .int .u64 ((s.r.a).toNat : Int), .int .u64 ((s.r.b).toNat : Int), .int .u64 ((s.r.c).toNat : Int), .int .u64 ((s.r.d).toNat : Int)] (by kernel_rfl) (by kernel_rfl) t6 ?_)
        have U7 : SX w6.heap.size { s with m := y } _ := SX.new w6 { s with m := y }
        have hTU : T < w6.heap.size := T6.2.2
        have T7 := T6.call ((Below.refl w6.heap.size w6).alloc (Nat.le_refl _) (.cells #[.int .u64 ((y).toNat : Int), .int .u64 ((s.q).toNat : Int), .int .u64 ((s.z).toNat : Int), .int .u64 ((s.r.a).toNat : Int), .int .u64 ((s.r.b).toNat : Int), .int .u64 ((s.r.c).toNat : Int), .int .u64 ((s.r.d).toNat : Int)] 27))
        have z7 := z6.alloc z6.size (.cells #[.int .u64 ((y).toNat : Int), .int .u64 ((s.q).toNat : Int), .int .u64 ((s.z).toNat : Int), .int .u64 ((s.r.a).toNat : Int), .int .u64 ((s.r.b).toNat : Int), .int .u64 ((s.r.c).toNat : Int), .int .u64 ((s.r.d).toNat : Int)] 27)
        have hwU := z6.size
        simp only at U7
        generalize w6.alloc (.cells #[.int .u64 ((y).toNat : Int), .int .u64 ((s.q).toNat : Int), .int .u64 ((s.z).toNat : Int), .int .u64 ((s.r.a).toNat : Int), .int .u64 ((s.r.b).toNat : Int), .int .u64 ((s.r.c).toNat : Int), .int .u64 ((s.r.d).toNat : Int)] 27) = w7 at U7 T7 z7 ⊢
        generalize w6.heap.size = U at U7 hTU hwU ⊢
        clear T6 z6 s1 s2
        obtain ⟨u0, -, -, -, -, -, -, uf⟩ := U7.cells
        go_upto_region 12 with fail
        have U8 : SX U { s with m := 0 } _ := U7.setm 0
        have T8 := T7.far 0 (.int .u64 (((0 : UInt64)).toNat : Int)) (Nat.ne_of_gt hTU)
        have z8 := z7.setCell (p := ⟨U, 0, none⟩) hwU (.int .u64 (((0 : UInt64)).toNat : Int))
        have e0 : (.int .u64 (((0 : UInt64)).toNat : Int) : Value) = .int .u64 0 := rfl
        rw [e0] at U8 T8 z8
        generalize w7.setCell ⟨U, 0, none⟩ (.int .u64 0) = w8 at U8 T8 z8 ⊢
        clear u0 uf U7 T7 z7 e0
        have t8 : Lies T 0 [.int .u64 ((y).toNat : Int), .int .u64 ((s.q).toNat : Int), .int .u64 ((s.z).toNat : Int), .int .u64 ((s.r.a).toNat : Int), .int .u64 ((s.r.b).toNat : Int), .int .u64 ((s.r.c).toNat : Int), .int .u64 ((s.r.d).toNat : Int)] w8 := T8.1
        go_upto_region 13 with (with_reducible refine wpl_load agg_slot T 0 [.int .u64 ((y).toNat : Int), .int .u64 ((s.q).toNat : Int), .int .u64 ((s.z).toNat : Int), .int .u64 ((s.r.a).toNat : Int), .int .u64 ((s.r.b).toNat : Int), .int .u64 ((s.r.c).toNat : Int), .int .u64 ((s.r.d).toNat : Int)] (by kernel_rfl) (by kernel_rfl) t8 ?_)
        have V9 : SX w8.heap.size { s with m := y } _ := SX.new w8 { s with m := y }
        have hTV : T < w8.heap.size := T8.2.2
        have hUV : U < w8.heap.size := U8.2.2
        have T9 := T8.call ((Below.refl w8.heap.size w8).alloc (Nat.le_refl _) (.cells #[.int .u64 ((y).toNat : Int), .int .u64 ((s.q).toNat : Int), .int .u64 ((s.z).toNat : Int), .int .u64 ((s.r.a).toNat : Int), .int .u64 ((s.r.b).toNat : Int), .int .u64 ((s.r.c).toNat : Int), .int .u64 ((s.r.d).toNat : Int)] 27))
        have U9 := U8.call ((Below.refl w8.heap.size w8).alloc (Nat.le_refl _) (.cells #[.int .u64 ((y).toNat : Int), .int .u64 ((s.q).toNat : Int), .int .u64 ((s.z).toNat : Int), .int .u64 ((s.r.a).toNat : Int), .int .u64 ((s.r.b).toNat : Int), .int .u64 ((s.r.c).toNat : Int), .int .u64 ((s.r.d).toNat : Int)] 27))
        have z9 := z8.alloc z8.size (.cells #[.int .u64 ((y).toNat : Int), .int .u64 ((s.q).toNat : Int), .int .u64 ((s.z).toNat : Int), .int .u64 ((s.r.a).toNat : Int), .int .u64 ((s.r.b).toNat : Int), .int .u64 ((s.r.c).toNat : Int), .int .u64 ((s.r.d).toNat : Int)] 27)
        have hwV := z8.size
        simp only at V9
        generalize w8.alloc (.cells #[.int .u64 ((y).toNat : Int), .int .u64 ((s.q).toNat : Int), .int .u64 ((s.z).toNat : Int), .int .u64 ((s.r.a).toNat : Int), .int .u64 ((s.r.b).toNat : Int), .int .u64 ((s.r.c).toNat : Int), .int .u64 ((s.r.d).toNat : Int)] 27) = w9 at V9 U9 T9 z9 ⊢
        generalize w8.heap.size = V at V9 hTV hUV hwV ⊢
        clear T8 U8 z8
        obtain ⟨v0, -, -, -, -, -, -, vf⟩ := V9.cells
        go_upto_region 14 with fail
        rw [hwr.out]
        have Va : SX V { s with m := y + 2 } _ := V9.setm (y + 2)
        have Ta := T9.far 0 (.int .u64 (((y + 2)).toNat : Int)) (Nat.ne_of_gt hTV)
        have Ua := U9.far 0 (.int .u64 (((y + 2)).toNat : Int)) (Nat.ne_of_gt hUV)
        have za := z9.setCell (p := ⟨V, 0, none⟩) hwV (.int .u64 (((y + 2)).toNat : Int))
        generalize w9.setCell ⟨V, 0, none⟩ (.int .u64 (((y + 2)).toNat : Int)) = wa at Va Ta Ua za ⊢
        clear v0 vf V9 T9 U9 z9 hwr
        have ta : Lies T 0 [.int .u64 ((y).toNat : Int), .int .u64 ((s.q).toNat : Int), .int .u64 ((s.z).toNat : Int), .int .u64 ((s.r.a).toNat : Int), .int .u64 ((s.r.b).toNat : Int), .int .u64 ((s.r.c).toNat : Int), .int .u64 ((s.r.d).toNat : Int)] wa := Ta.1
        go_wp2_with (first
          | (with_reducible refine wpl_load agg_slot T 0 [.int .u64 ((y).toNat : Int), .int .u64 ((s.q).toNat : Int), .int .u64 ((s.z).toNat : Int), .int .u64 ((s.r.a).toNat : Int), .int .u64 ((s.r.b).toNat : Int), .int .u64 ((s.r.c).toNat : Int), .int .u64 ((s.r.d).toNat : Int)] (by kernel_rfl) (by kernel_rfl) ta ?_)
          | (go_at_call 12; refine (c1 _).mono ?_; rintro e wb ⟨rfl, bb⟩; have Ub := Ua.call bb; have Vb := Va.call bb; have zb := below_after za bb za.size; have ub : Lies U 0 [.int .u64 0, .int .u64 ((s.q).toNat : Int), .int .u64 ((s.z).toNat : Int), .int .u64 ((s.r.a).toNat : Int), .int .u64 ((s.r.b).toNat : Int), .int .u64 ((s.r.c).toNat : Int), .int .u64 ((s.r.d).toNat : Int)] wb := Ub.1; obtain ⟨u0, u1, u2, u3, u4, u5, u6⟩ := cells7 ub; clear ub ta Ta Ua Va za bb c1)
          | (go_at_call 12; refine (c2 _).mono ?_; rintro e wc ⟨rfl, bc⟩; have Vc := Vb.call bc; have zc := below_after zb bc zb.size; have vc : Lies V 0 [.int .u64 (((y + 2)).toNat : Int), .int .u64 ((s.q).toNat : Int), .int .u64 ((s.z).toNat : Int), .int .u64 ((s.r.a).toNat : Int), .int .u64 ((s.r.b).toNat : Int), .int .u64 ((s.r.c).toNat : Int), .int .u64 ((s.r.d).toNat : Int)] wc := Vc.1; clear u0 u1 u2 u3 u4 u5 u6; obtain ⟨u0, u1, u2, u3, u4, u5, u6⟩ := cells7 vc; clear vc Ub Vb zb bc c2)
          | (go_at_call 12; refine (c3 _).mono ?_; rintro e wd ⟨rfl, bd⟩; have zd := below_after zc bd zc.size; clear u0 u1 u2 u3 u4 u5 u6 Vc zc bd c3))
        go_ret
        exact ⟨rfl, zd⟩
    · have q1I : ¬ (1 : Int) ≤ (nq : Int) := by omega
      have q1d : decide ((1 : Int) ≤ (nq : Int)) = false := decide_eq_false q1I
      rw [decide_eq_false (show ¬ (1 ≤ nq ∧ nq ≤ 1000000000) from fun h => q1 h.1), Bool.false_and] at c1
      have t6 : Lies T 0 [.int .u64 ((y).toNat : Int), .int .u64 ((s.q).toNat : Int), .int .u64 ((s.z).toNat : Int), .int .u64 ((s.r.a).toNat : Int), .int .u64 ((s.r.b).toNat : Int), .int .u64 ((s.r.c).toNat : Int), .int .u64 ((s.r.d).toNat : Int)] w6 := T6.1
      go_upto_region 11 with (with_reducible refine wpl_load agg_slot T 0 [.int .u64 ((y).toNat : Int), .int .u64 ((s.q).toNat : Int), .int .u64 ((s.z).toNat : Int), .int .u64 ((s.r.a).toNat : Int), .int .u64 ((s.r.b).toNat : Int), .int .u64 ((s.r.c).toNat : Int), .int .u64 ((s.r.d).toNat : Int)] (by kernel_rfl) (by kernel_rfl) t6 ?_)
      have U7 : SX w6.heap.size { s with m := y } _ := SX.new w6 { s with m := y }
      have hTU : T < w6.heap.size := T6.2.2
      have T7 := T6.call ((Below.refl w6.heap.size w6).alloc (Nat.le_refl _) (.cells #[.int .u64 ((y).toNat : Int), .int .u64 ((s.q).toNat : Int), .int .u64 ((s.z).toNat : Int), .int .u64 ((s.r.a).toNat : Int), .int .u64 ((s.r.b).toNat : Int), .int .u64 ((s.r.c).toNat : Int), .int .u64 ((s.r.d).toNat : Int)] 27))
      have z7 := z6.alloc z6.size (.cells #[.int .u64 ((y).toNat : Int), .int .u64 ((s.q).toNat : Int), .int .u64 ((s.z).toNat : Int), .int .u64 ((s.r.a).toNat : Int), .int .u64 ((s.r.b).toNat : Int), .int .u64 ((s.r.c).toNat : Int), .int .u64 ((s.r.d).toNat : Int)] 27)
      have hwU := z6.size
      simp only at U7
      generalize w6.alloc (.cells #[.int .u64 ((y).toNat : Int), .int .u64 ((s.q).toNat : Int), .int .u64 ((s.z).toNat : Int), .int .u64 ((s.r.a).toNat : Int), .int .u64 ((s.r.b).toNat : Int), .int .u64 ((s.r.c).toNat : Int), .int .u64 ((s.r.d).toNat : Int)] 27) = w7 at U7 T7 z7 ⊢
      generalize w6.heap.size = U at U7 hTU hwU ⊢
      clear T6 z6 s1 s2
      obtain ⟨u0, -, -, -, -, -, -, uf⟩ := U7.cells
      go_upto_region 12 with fail
      have U8 : SX U { s with m := 0 } _ := U7.setm 0
      have T8 := T7.far 0 (.int .u64 (((0 : UInt64)).toNat : Int)) (Nat.ne_of_gt hTU)
      have z8 := z7.setCell (p := ⟨U, 0, none⟩) hwU (.int .u64 (((0 : UInt64)).toNat : Int))
      have e0 : (.int .u64 (((0 : UInt64)).toNat : Int) : Value) = .int .u64 0 := rfl
      rw [e0] at U8 T8 z8
      generalize w7.setCell ⟨U, 0, none⟩ (.int .u64 0) = w8 at U8 T8 z8 ⊢
      clear u0 uf U7 T7 z7 e0
      have t8 : Lies T 0 [.int .u64 ((y).toNat : Int), .int .u64 ((s.q).toNat : Int), .int .u64 ((s.z).toNat : Int), .int .u64 ((s.r.a).toNat : Int), .int .u64 ((s.r.b).toNat : Int), .int .u64 ((s.r.c).toNat : Int), .int .u64 ((s.r.d).toNat : Int)] w8 := T8.1
      go_upto_region 13 with (with_reducible refine wpl_load agg_slot T 0 [.int .u64 ((y).toNat : Int), .int .u64 ((s.q).toNat : Int), .int .u64 ((s.z).toNat : Int), .int .u64 ((s.r.a).toNat : Int), .int .u64 ((s.r.b).toNat : Int), .int .u64 ((s.r.c).toNat : Int), .int .u64 ((s.r.d).toNat : Int)] (by kernel_rfl) (by kernel_rfl) t8 ?_)
      have V9 : SX w8.heap.size { s with m := y } _ := SX.new w8 { s with m := y }
      have hTV : T < w8.heap.size := T8.2.2
      have hUV : U < w8.heap.size := U8.2.2
      have T9 := T8.call ((Below.refl w8.heap.size w8).alloc (Nat.le_refl _) (.cells #[.int .u64 ((y).toNat : Int), .int .u64 ((s.q).toNat : Int), .int .u64 ((s.z).toNat : Int), .int .u64 ((s.r.a).toNat : Int), .int .u64 ((s.r.b).toNat : Int), .int .u64 ((s.r.c).toNat : Int), .int .u64 ((s.r.d).toNat : Int)] 27))
      have U9 := U8.call ((Below.refl w8.heap.size w8).alloc (Nat.le_refl _) (.cells #[.int .u64 ((y).toNat : Int), .int .u64 ((s.q).toNat : Int), .int .u64 ((s.z).toNat : Int), .int .u64 ((s.r.a).toNat : Int), .int .u64 ((s.r.b).toNat : Int), .int .u64 ((s.r.c).toNat : Int), .int .u64 ((s.r.d).toNat : Int)] 27))
      have z9 := z8.alloc z8.size (.cells #[.int .u64 ((y).toNat : Int), .int .u64 ((s.q).toNat : Int), .int .u64 ((s.z).toNat : Int), .int .u64 ((s.r.a).toNat : Int), .int .u64 ((s.r.b).toNat : Int), .int .u64 ((s.r.c).toNat : Int), .int .u64 ((s.r.d).toNat : Int)] 27)
      have hwV := z8.size
      simp only at V9
      generalize w8.alloc (.cells #[.int .u64 ((y).toNat : Int), .int .u64 ((s.q).toNat : Int), .int .u64 ((s.z).toNat : Int), .int .u64 ((s.r.a).toNat : Int), .int .u64 ((s.r.b).toNat : Int), .int .u64 ((s.r.c).toNat : Int), .int .u64 ((s.r.d).toNat : Int)] 27) = w9 at V9 U9 T9 z9 ⊢
      generalize w8.heap.size = V at V9 hTV hUV hwV ⊢
      clear T8 U8 z8
      obtain ⟨v0, -, -, -, -, -, -, vf⟩ := V9.cells
      go_upto_region 14 with fail
      rw [hwr.out]
      have Va : SX V { s with m := y + 2 } _ := V9.setm (y + 2)
      have Ta := T9.far 0 (.int .u64 (((y + 2)).toNat : Int)) (Nat.ne_of_gt hTV)
      have Ua := U9.far 0 (.int .u64 (((y + 2)).toNat : Int)) (Nat.ne_of_gt hUV)
      have za := z9.setCell (p := ⟨V, 0, none⟩) hwV (.int .u64 (((y + 2)).toNat : Int))
      generalize w9.setCell ⟨V, 0, none⟩ (.int .u64 (((y + 2)).toNat : Int)) = wa at Va Ta Ua za ⊢
      clear v0 vf V9 T9 U9 z9 hwr
      have ta : Lies T 0 [.int .u64 ((y).toNat : Int), .int .u64 ((s.q).toNat : Int), .int .u64 ((s.z).toNat : Int), .int .u64 ((s.r.a).toNat : Int), .int .u64 ((s.r.b).toNat : Int), .int .u64 ((s.r.c).toNat : Int), .int .u64 ((s.r.d).toNat : Int)] wa := Ta.1
      go_wp2_with (first
        | (with_reducible refine wpl_load agg_slot T 0 [.int .u64 ((y).toNat : Int), .int .u64 ((s.q).toNat : Int), .int .u64 ((s.z).toNat : Int), .int .u64 ((s.r.a).toNat : Int), .int .u64 ((s.r.b).toNat : Int), .int .u64 ((s.r.c).toNat : Int), .int .u64 ((s.r.d).toNat : Int)] (by kernel_rfl) (by kernel_rfl) ta ?_)
        | (go_at_call 12; refine (c1 _).mono ?_; rintro e wb ⟨rfl, bb⟩; have Ub := Ua.call bb; have Vb := Va.call bb; have zb := below_after za bb za.size; have ub : Lies U 0 [.int .u64 0, .int .u64 ((s.q).toNat : Int), .int .u64 ((s.z).toNat : Int), .int .u64 ((s.r.a).toNat : Int), .int .u64 ((s.r.b).toNat : Int), .int .u64 ((s.r.c).toNat : Int), .int .u64 ((s.r.d).toNat : Int)] wb := Ub.1; obtain ⟨u0, u1, u2, u3, u4, u5, u6⟩ := cells7 ub; clear ub ta Ta Ua Va za bb c1)
        | (go_at_call 12; refine (c2 _).mono ?_; rintro e wc ⟨rfl, bc⟩; have Vc := Vb.call bc; have zc := below_after zb bc zb.size; have vc : Lies V 0 [.int .u64 (((y + 2)).toNat : Int), .int .u64 ((s.q).toNat : Int), .int .u64 ((s.z).toNat : Int), .int .u64 ((s.r.a).toNat : Int), .int .u64 ((s.r.b).toNat : Int), .int .u64 ((s.r.c).toNat : Int), .int .u64 ((s.r.d).toNat : Int)] wc := Vc.1; clear u0 u1 u2 u3 u4 u5 u6; obtain ⟨u0, u1, u2, u3, u4, u5, u6⟩ := cells7 vc; clear vc Ub Vb zb bc c2)
        | (go_at_call 12; refine (c3 _).mono ?_; rintro e wd ⟨rfl, bd⟩; have zd := below_after zc bd zc.size; clear u0 u1 u2 u3 u4 u5 u6 Vc zc bd c3))
      go_ret
      exact ⟨rfl, zd⟩
end Go.Proofs.Ytepgmdgcappfpaa
