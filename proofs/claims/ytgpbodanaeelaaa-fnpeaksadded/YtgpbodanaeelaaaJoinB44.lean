/-
  The law of TreeRoot, walked.
-/
import Derived.Test.YtgpbodanaeelaaaTree2
import Derived.Test.YtgpbodanaeelaaaJoinB10
import Derived.Test.YtgpbodanaeelaaaDraw8
import Derived.Test.YtgpbodanaeelaaaPkTk
import Derived.Test.YtgpbodanaeelaaaTPk2
import Derived.Test.YtgpbodanaeelaaaPkRoot2
namespace Go.Proofs.Ytgpbodanaeelaaa
open Go.RowKit

end Go.Proofs.Ytgpbodanaeelaaa

/-
  The law of the peaks, walked.
-/
namespace Go.Proofs.Ytgpbodanaeelaaa
open Go.RowKit

set_option maxRecDepth 20000 in
theorem drawPeaks_is (W : World) (v : Value) (L : List UInt8) (h : Byt W v L) :
    Calls Try.prog 6 #[v] W fun e w' => ∃ (u : Value) (S : List ByteArray), e = .returned u ∧ Txt w' u S ∧ S.length ≤ 300 ∧ (∀ s ∈ S, s.size ≤ 100000) ∧ Below W.heap.size W w' := by
  have c := open2_is W v L h
  obtain ⟨oa, n, cap, rfl⟩ : ∃ a n cap, v = .slice a n cap := by
    rcases h with ⟨rfl, _⟩ | ⟨a, cap, rfl, _⟩
    · exact ⟨none, 0, 0, rfl⟩
    · exact ⟨some a, _, cap, rfl⟩
  clear h
  go_enter Try.func6, Try.ntmps6
  go_wp2_with (first
    | (go_at_call 23; refine c.mono ?_; rintro e w1 ⟨X, v', L', rfl, hr, hb⟩; clear c)
    | (go_at_call 24; refine (some_is X W.heap.size v' L' _ hr).mono ?_; rintro e w2 ⟨u, S, rfl, hT, hl, hz, hg⟩))
  go_ret
  exact ⟨u, S, rfl, hT, hl, hz, hb.grown hg hb.size (fun k e => by injection e with e; omega)⟩
theorem txt_sl {W : World} {v : Value} {S : List ByteArray} (h : Txt W v S) : ∃ oa cap, v = .slice oa S.length cap := by
  rcases h with ⟨rfl, rfl⟩ | ⟨a, cap, rfl, _⟩
  · exact ⟨none, 0, rfl⟩
  · exact ⟨some a, cap, rfl⟩
theorem pc_le8 : ∀ n : Fin 257, pc n.val ≤ 8 := by decide +kernel
theorem tkL_pc {S : List ByteArray} (h : lok S = true) : (tkL S).length = pc S.length := by
  have := (lok_yes h).1
  unfold tkL
  rw [if_pos h]
  exact tk_count S.length S (Nat.le_refl _) this
theorem tkL_root {S : List ByteArray} (h : lok S = true) : pkr (tkL S) = trv S := by
  have h2 := (lok_yes h).1
  have hl := tkL_pc h
  have h8 := pc_le8 ⟨S.length, by omega⟩
  simp only at h8
  unfold pkr
  rw [if_neg (by omega)]
  unfold tkL trv
  rw [if_pos h, if_pos h]
  by_cases h0 : S.length = 0
  · have : S = [] := List.length_eq_zero_iff.1 h0
    subst this
    rw [tk_nil]
    rfl
  · exact tk_root S.length S (Nat.le_refl _) h2 (by omega)

set_option maxRecDepth 20000 in
set_option maxHeartbeats 4000000 in
theorem lawFnPeaks (v : Value) (L : List UInt8) (w : World) (hV : Byt w v L) :
    Calls Try.prog 3 #[v] w fun e w' => e = .returned (.bool true) ∧ Below w.heap.size w w' := by
  obtain ⟨oa, cap, hv⟩ : ∃ a cap, v = .slice a L.length cap := by
    rcases hV with ⟨rfl, rfl⟩ | ⟨a, cap, rfl, _⟩
    · exact ⟨none, 0, rfl⟩
    · exact ⟨some a, cap, rfl⟩
  by_cases hbig : 1048576 < L.length
  · have hbI : (1048576 : Int) < (L.length : Int) := by omega
    subst hv
    clear hV
    go_enter Try.func3, Try.ntmps3
    go_wp2_with fail
    go_ret
    exact ⟨rfl, Below.refl _ _⟩
  · have hbI : ¬ (1048576 : Int) < (L.length : Int) := by omega
    subst hv
    have k1 := drawPeaks_is w _ L hV
    clear hV
    go_enter Try.func3, Try.ntmps3
    go_wp2_with (go_at_call 6; refine k1.mono ?_; rintro e w1 ⟨u, S, rfl, hT, hl, hz, hb1⟩; obtain ⟨ob, cb, hu⟩ := txt_sl hT; clear k1)
    have k2 := tpk_impl S u w1 hT
    by_cases hlk : lok S = true
    · have hN := tkL_pc hlk
      have hZ := tkL_root hlk
      have hS2 := (lok_yes hlk).1
      have h8 := pc_le8 ⟨S.length, by omega⟩
      simp only at h8
      have cl : ∀ W : World, Below w1.heap.size w1 W → Calls Try.prog 8 #[u] W fun e w' => e = .returned (.bool true) ∧ w' = W := fun W h => by have := lok_spec W u S (hT.call h); rwa [hlk] at this
      have p1 : ∀ W : World, Calls Try.prog 9 #[.int .i64 (S.length : Int)] W fun e w' => e = .returned (.int .i64 ((tkL S).length : Int)) ∧ w' = W := fun W => by
        have := pc_impl_all (S.length : Int) W
        unfold pcI at this
        rwa [if_neg (by omega), Int.toNat_natCast, ← hN] at this
      have p2 : ∀ W : World, Calls Try.prog 10 #[.int .i64 (S.length : Int)] W fun e w' => e = .returned (.int .i64 ((tkL S).length : Int)) ∧ w' = W := fun W => by
        have := pc_spec_all (S.length : Int) W
        unfold pcI at this
        rwa [if_neg (by omega), Int.toNat_natCast, ← hN] at this
      have p3 := fun (W : World) (x : Value) (h : Dgs W x (tkL S)) => pkr_impl (tkL S) x W h (by omega)
      have p4 : ∀ W : World, Below w1.heap.size w1 W → Calls Try.prog 12 #[u] W fun e w' => e = .returned (.agg #[.int .u64 ((trv S).a.toNat : Int), .int .u64 ((trv S).b.toNat : Int), .int .u64 ((trv S).c.toNat : Int), .int .u64 ((trv S).d.toNat : Int)]) ∧ Below w1.heap.size w1 w' := fun W h => (tr_impl S u W (hT.call h)).mono (fun e w' ⟨he, hb⟩ => ⟨he, below_after h hb h.size⟩)
      have p5 : ∀ W : World, Below w1.heap.size w1 W → Calls Try.prog 13 #[u] W fun e w' => e = .returned (.agg #[.int .u64 ((trv S).a.toNat : Int), .int .u64 ((trv S).b.toNat : Int), .int .u64 ((trv S).c.toNat : Int), .int .u64 ((trv S).d.toNat : Int)]) ∧ Below w1.heap.size w1 w' := fun W h => (tr_spec S u W (hT.call h)).mono (fun e w' ⟨he, hb⟩ => ⟨he, below_after h hb h.size⟩)
      rw [hZ] at p3
      have hlR : (tkL S).length ≤ 8 := by omega
      obtain ⟨z, hz'⟩ : ∃ z, z = trv S := ⟨_, rfl⟩
      rw [← hz'] at p3 p4 p5
      obtain ⟨R, hR⟩ : ∃ R, R = tkL S := ⟨_, rfl⟩
      rw [← hR] at p1 p2 p3 k2 hlR
      obtain ⟨n, hn⟩ : ∃ n, n = S.length := ⟨_, rfl⟩
      rw [← hn] at p1 p2 hu
      have hn256 : n ≤ 300 := by omega
      have hS : (Value.slice ob S.length cb) = Value.slice ob n cb := by rw [hn]
      rw [hS]
      clear hR hz' hZ hN hlk hT hz hl h8 hS2 hn hS
      subst hu
      go_wp2_with (first
        | (go_at_call 7; refine k2.mono ?_; rintro e w2 ⟨x, rfl, hO, hb2⟩; have hD := own_dgs hO; obtain ⟨oc, cc, rfl⟩ := own_len hO; clear k2 hO)
        | (go_at_call 8; refine (cl _ hb2).mono ?_; rintro e w3 ⟨rfl, hw⟩; replace hw := hw.symm; subst hw)
        | (go_at_call 9; refine (p1 _).mono ?_; rintro e w3 ⟨rfl, hw⟩; replace hw := hw.symm; subst hw)
        | (go_at_call 10; refine (p2 _).mono ?_; rintro e w3 ⟨rfl, hw⟩; replace hw := hw.symm; subst hw)
        | (go_at_call 11; refine (p3 _ _ hD).mono ?_; rintro e w3 ⟨rfl, hb3⟩; have h3 := below_after hb2 hb3 hb2.size; clear hb3)
        | (go_at_call 13; refine (p5 _ h5).mono ?_; rintro e w6 ⟨rfl, h6⟩)
        | (have hh := h4; go_at_call 12; refine (p4 _ h4).mono ?_; rintro e w5 ⟨rfl, h5⟩)
        | (go_at_call 12; refine (p4 _ h3).mono ?_; rintro e w4 ⟨rfl, h4⟩))
      go_ret
      exact ⟨rfl, below_after hb1 h6 hb1.size⟩
    · have hlf : lok S = false := by simpa using hlk
      have cl : ∀ W : World, Below w1.heap.size w1 W → Calls Try.prog 8 #[u] W fun e w' => e = .returned (.bool false) ∧ w' = W := fun W h => by have := lok_spec W u S (hT.call h); rwa [hlf] at this
      have e0 : tkL S = [] := by unfold tkL; rw [if_neg hlk]
      rw [e0] at k2
      simp only [List.length_nil] at k2
      clear hlk hlf e0 hT hz
      subst hu
      go_wp2_with (first
        | (go_at_call 7; refine k2.mono ?_; rintro e w2 ⟨x, rfl, hO, hb2⟩; obtain ⟨oc, cc, rfl⟩ := own_len hO; clear k2 hO)
        | (go_at_call 8; refine (cl _ hb2).mono ?_; rintro e w3 ⟨rfl, hw⟩; replace hw := hw.symm; subst hw))
      go_ret
      exact ⟨rfl, below_after hb1 hb2 hb1.size⟩
end Go.Proofs.Ytgpbodanaeelaaa
