/-
  DrawHashOf, walked: whatever it draws.
-/
import Derived.Test.YtnaaeooieljkmaaDraw4
namespace Go.Proofs.Ytnaaeooieljkmaa
open Go.RowKit

set_option maxRecDepth 20000 in
set_option maxHeartbeats 1000000 in
theorem many2_is (s0 : ByteArray) (h1 : s0.size = 2) (N : Nat) (hN : N ≤ 50000) (W : World) :
    Calls Try.prog 17 #[.string s0, .int .i64 (N : Int)] W fun e w' => ∃ S : ByteArray, S.size ≤ 100000 ∧ e = .returned (.string S) ∧ w' = W := by
  go_enter Try.func17, Try.ntmps17
  go_wp2_with fail
  go_loopw [0, 1, 5] (fun s n o wr => ∃ (x y : ByteArray) (k : Nat), s = .string x ∧ n = .int .i64 (k : Int) ∧ o = .string y ∧ Hid (y.size + k * x.size = N * 2 ∧ 1 ≤ x.size ∧ x.size ≤ 200000) ∧ k ≤ 100000 ∧ Hid (W = wr)) (fun _ n _ _ => (intOf n).toNat)
  case atStart => exact ⟨s0, ByteArray.mk #[], N, rfl, rfl, rfl, ⟨by rw [h1]; show 0 + N * 2 = N * 2; omega, by omega, by omega⟩, by omega, rfl⟩
  case round =>
    obtain ⟨x, y, k, rfl, rfl, rfl, HI, hk, HW⟩ := hrel
    have hw := HW.out
    subst hw
    by_cases hlt : 0 < k
    · have hltI : (0 : Int) < (k : Int) := by omega
      obtain ⟨i1, i2, i3⟩ := HI.out
      have hxk : x.size ≤ k * x.size := Nat.le_mul_of_pos_left _ hlt
      have a2 := fun W : World => add_ok2 x x (by omega) (by omega) W
      have a1 := fun W : World => add_ok2 y x (by omega) (by omega) W
      have hdd : (x ++ x).size = x.size + x.size := ByteArray.size_append
      have hyy : (y ++ x).size = y.size + x.size := ByteArray.size_append
      have hdiv : (k : Int).tdiv 2 = ((k / 2 : Nat) : Int) := by rw [Int.tdiv_eq_ediv_of_nonneg (by omega)]; omega
      by_cases hm : k % 2 = 1
      · have hmI : ((k : Int).tmod 2 == 1) = true := by rw [Int.tmod_eq_emod_of_nonneg (by omega)]; rw [beq_iff_eq]; omega
        have hmI2 : ((k : Int) % 2 == 1) = true := by rw [beq_iff_eq]; omega
        have HN : Hid ((y ++ x).size + k / 2 * (x ++ x).size = N * 2 ∧ 1 ≤ (x ++ x).size ∧ (x ++ x).size ≤ 200000) := by
          refine ⟨?_, by omega, by omega⟩
          rw [hyy, hdd]
          exact half_sum k x.size y.size (N * 2) i1 hm
        clear i1 i2 i3 hxk hdd hyy
        go_wp2_with fail
        go_roundw
        case rel => exact ⟨x ++ x, y ++ x, k / 2, rfl, congrArg (Value.int IntKind.i64) (by omega), rfl, HN, by omega, trivial⟩
        case measure => simp only [intOf]; omega
      · have hmI : ((k : Int).tmod 2 == 1) = false := by rw [Int.tmod_eq_emod_of_nonneg (by omega)]; rw [beq_eq_false_iff_ne]; omega
        have hmI2 : ((k : Int) % 2 == 1) = false := by rw [beq_eq_false_iff_ne]; omega
        have HN : Hid (y.size + k / 2 * (x ++ x).size = N * 2 ∧ 1 ≤ (x ++ x).size ∧ (x ++ x).size ≤ 200000) := by
          refine ⟨?_, by omega, by omega⟩
          rw [hdd]
          exact half_sum0 k x.size y.size (N * 2) i1 (by omega)
        clear i1 i2 i3 hxk hdd hyy
        go_wp2_with fail
        go_roundw
        case rel => exact ⟨x ++ x, y, k / 2, rfl, congrArg (Value.int IntKind.i64) (by omega), rfl, HN, by omega, trivial⟩
        case measure => simp only [intOf]; omega
    · have hge : ¬ (0 : Int) < (k : Int) := by omega
      have HZ : Hid (y.size ≤ 100000) := by
        have := HI.out.1
        show _ ≤ _
        omega
      go_wp2
      go_ret
      exact ⟨y, HZ.out, rfl, rfl⟩

set_option maxRecDepth 20000 in
set_option maxHeartbeats 1000000 in
theorem pad2_is (B : Nat) (v : Value) (L : List UInt8) (p : Nat) (W : World) (h : RdAt B v L p W) (hp8 : p ≤ 900000) (s : ByteArray) (hs : s.size ≤ 200) :
    Calls Try.prog 18 #[.pointer (some ⟨B, 0, none⟩), .string s] W fun e w' => ∃ S : ByteArray, S.size ≤ s.size + 1 ∧ e = .returned (.string S) ∧ RdAt B v L (p + 1) w' ∧ W.grownBy w' (some B) := by
  have hw1 : IntKind.i64.wrap ((s.size : Int) + 1) = (s.size : Int) + 1 := IntWalk.i64_in _ (by omega)
  have c1 := pick_is B v L p W h (by omega) ((s.size : Int) + 1) (by omega) (by omega)
  clear h
  go_enter Try.func18, Try.ntmps18
  go_wp2_with (go_at_call 16; refine c1.mono ?_; rintro e w1 ⟨k, hk, rfl, hR1, hg1⟩)
  have hk0 : (0 : Int) ≤ (k : Int) := by omega
  have hkS : (k : Int) ≤ (s.size : Int) := by omega
  have z1 : (s.extract 0 k).size ≤ 200 := ext_le _ _ _ _ hs
  have z2 : (s.extract k s.size).size ≤ 200 := ext_le _ _ _ _ hs
  have a1 := fun W' : World => add_ok (s.extract 0 k) (str [255]) (Nat.le_trans z1 (by decide)) (str_le _ _ (by simp)) W'
  have a2 := fun W' : World => add_ok (s.extract 0 k ++ str [255]) (s.extract k s.size) (app_le _ _ 200 1 1000 z1 (str_le _ _ (by simp)) (by decide)) (Nat.le_trans z2 (by decide)) W'
  have hcv := fun (W' : World) (b : Nat) (h : W'.cell? ⟨b, 0, none⟩ = some (.int .u8 255)) => run_str_one W' b 255 h
  have HZ : Hid ((s.extract 0 k ++ str [255] ++ s.extract k s.size).size ≤ s.size + 1) := by
    have e1 : (s.extract 0 k).size + (s.extract k s.size).size ≤ s.size := by rw [ByteArray.size_extract, ByteArray.size_extract]; omega
    have e2 : (str ([255] : List UInt8)).size ≤ 1 := str_le _ _ (by simp)
    show _ ≤ _
    rw [ByteArray.size_append, ByteArray.size_append]
    omega
  clear z1 z2
  go_region
  all_goals (go_wp2_with fail)
  all_goals go_ret
  all_goals first
    | exact ⟨_, HZ.out, rfl, (hR1.grown (World.grownBy_alloc w1 _ none)).drew, grown_drew (hg1.trans (World.grownBy_alloc w1 _ _))⟩
    | exact ⟨_, HZ.out, rfl, hR1.drew.grown (World.grownBy_alloc w1.drew _ none), (grown_drew hg1).trans (World.grownBy_alloc w1.drew _ _)⟩


set_option maxRecDepth 20000 in
set_option maxHeartbeats 2000000 in
theorem drawOf_is (W : World) (v : Value) (L : List UInt8) (h : Byt W v L) :
    Calls Try.prog 9 #[v] W fun e w' => ∃ s : ByteArray, s.size ≤ 200000 ∧ e = .returned (.string s) ∧ Below W.heap.size W w' := by
  have c1 := open_is W v L h
  have cp := fun (W' : World) (v' : Value) (L' : List UInt8) (p : Nat) (hp : p ≤ 1000) (hr : RdAt W.heap.size v' L' p W') (n : Int) (hn : 1 ≤ n) (hn2 : n ≤ 1000) => pick_is W.heap.size v' L' p W' hr (by omega) n hn (by omega)
  have ct := fun (W' : World) (v' : Value) (L' : List UInt8) (p : Nat) (hp : p ≤ 1000) (hr : RdAt W.heap.size v' L' p W') (n : Nat) (hn : n ≤ 1000) => text_is W.heap.size v' L' p W' hr (by omega) n hn
  have cd := fun (W' : World) (v' : Value) (L' : List UInt8) (p : Nat) (hp : p ≤ 1000) (hr : RdAt W.heap.size v' L' p W') (s : ByteArray) (hs : s.size ≤ 200) => pad2_is W.heap.size v' L' p W' hr (by omega) s hs
  have cm := fun (s : ByteArray) (hs : s.size = 1) (N : Nat) (hN : N ≤ 100000) (W' : World) => many_is s hs N hN W'
  have cn := fun (s : ByteArray) (hs : s.size = 2) (N : Nat) (hN : N ≤ 50000) (W' : World) => many2_is s hs N hN W'
  clear h
  go_enter Try.func9, Try.ntmps9
  go_wp2_with (first
    | (go_at_call 12; refine c1.mono ?_; rintro e w1 ⟨v1, L1, rfl, hR1, hb1⟩)
    | (go_at_call_of 16 (12 : Int); refine (cp w1 v1 L1 0 (by omega) hR1 12 (by omega) (by omega)).mono ?_; rintro e w2 ⟨r, hr, rfl, hR2, hg2⟩; have hB2 : Below W.heap.size W w2 := below_far hb1 hg2 (Nat.le_refl _) hb1.size)
    | (go_at_call_of 16 (5 : Int); refine (cp w2 v1 L1 1 (by omega) hR2 5 (by omega) (by omega)).mono ?_; rintro e w3 ⟨r3, hr3, rfl, hR3, hg3⟩; have hB3 : Below W.heap.size W w3 := below_far hB2 hg3 (Nat.le_refl _) hB2.size)
    | (go_at_call_of 16 (2 : Int); refine (cp w2 v1 L1 1 (by omega) hR2 2 (by omega) (by omega)).mono ?_; rintro e w3 ⟨r3, hr3, rfl, hR3, hg3⟩; have hB3 : Below W.heap.size W w3 := below_far hB2 hg3 (Nat.le_refl _) hB2.size; have hwm : IntKind.i64.wrap (10000 + (r3 : Int)) = ((10000 + r3 : Nat) : Int) := (by rw [IntWalk.i64_in _ (by omega)]; omega))
    | (go_at_call_of 16 (16 : Int); refine (cp w2 v1 L1 1 (by omega) hR2 16 (by omega) (by omega)).mono ?_; rintro e w3 ⟨r3, hr3, rfl, hR3, hg3⟩; have hB3 : Below W.heap.size W w3 := below_far hB2 hg3 (Nat.le_refl _) hB2.size; have hwm : IntKind.i64.wrap (20 + (r3 : Int)) = ((20 + r3 : Nat) : Int) := (by rw [IntWalk.i64_in _ (by omega)]; omega))
    | (go_at_call_of 17 (ByteArray.mk #[97, 98]); refine (cn (ByteArray.mk #[97, 98]) rfl (10000 + r3) (by omega) _).mono ?_; rintro e w5 ⟨S5, hS5, rfl, hw⟩; replace hw := hw.symm; subst hw)
    | (go_at_call 17; refine (cm (ByteArray.mk #[120]) rfl (20 + r3) (by omega) _).mono ?_; rintro e w5 ⟨S5, hS5, rfl, hw⟩; replace hw := hw.symm; subst hw)
    | (go_at_call_of 19 (60 : Int); refine (ct w3 v1 L1 2 (by omega) hR3 60 (by omega)).mono ?_; rintro e w4 ⟨t4, p4, ht4, hp4, rfl, hR4, hg4⟩; have hB4 : Below W.heap.size W w4 := below_far hB3 hg4 (Nat.le_refl _) hB3.size; have hz4 : (str t4).size ≤ 60 := str_le _ _ ht4)
    | (go_at_call_of 19 (100 : Int); refine (ct w3 v1 L1 2 (by omega) hR3 100 (by omega)).mono ?_; rintro e w4 ⟨t4, p4, ht4, hp4, rfl, hR4, hg4⟩; have hB4 : Below W.heap.size W w4 := below_far hB3 hg4 (Nat.le_refl _) hB3.size; have hz4 : (str t4).size ≤ 100 := str_le _ _ ht4)
    | (go_at_call_of 18 t4; refine (cd w4 v1 L1 p4 (by omega) hR4 (str t4) (by omega)).mono ?_; rintro e w5 ⟨S5, hS5, rfl, hR5, hg5⟩; have hB5 : Below W.heap.size W w5 := below_far hB4 hg5 (Nat.le_refl _) hB4.size)
    | (go_at_call_of 18 S5; refine (cd w5 v1 L1 (p4 + 1) (by omega) hR5 S5 (by omega)).mono ?_; rintro e w6 ⟨S6, hS6, rfl, hR6, hg6⟩; have hB6 : Below W.heap.size W w6 := below_far hB5 hg6 (Nat.le_refl _) hB5.size))
  all_goals go_ret
  all_goals first
    | exact ⟨_, (by omega), rfl, hB6⟩
    | exact ⟨_, (by omega), rfl, hB4⟩
    | exact ⟨_, (by omega), rfl, hB3⟩
    | trace_state
end Go.Proofs.Ytnaaeooieljkmaa
