/-
  l1Many, pad and DrawClashOk, walked: whatever is drawn.
-/
import Derived.Test.YtjfiafnbmejaeaaDraw1
namespace Go.Proofs.Ytjfiafnbmejaeaa
open Go.RowKit

theorem add_ok2 (x y : ByteArray) (hx : x.size ≤ 1000000) (hy : y.size ≤ 1000000) (W : World) : (Op.stringOp .add x y).run Try.prog W = .ok (.string (x ++ y)) W := run_string_add_sum W x y (by omega)
theorem half_sum (n s o N : Nat) (h : o + n * s = N) (hm : n % 2 = 1) : (o + s) + n / 2 * (s + s) = N := by
  have e : n = 2 * (n / 2) + 1 := by omega
  rw [e, Nat.add_mul, Nat.one_mul] at h
  rw [← h, Nat.mul_add, Nat.mul_comm 2 (n / 2), Nat.mul_assoc, Nat.two_mul, Nat.mul_add]
  omega
theorem half_sum0 (n s o N : Nat) (h : o + n * s = N) (hm : n % 2 = 0) : o + n / 2 * (s + s) = N := by
  have e : n = 2 * (n / 2) := by omega
  rw [e] at h
  rw [← h, Nat.mul_add, Nat.mul_comm 2 (n / 2), Nat.mul_assoc, Nat.two_mul, Nat.mul_add]

set_option maxRecDepth 20000 in
set_option maxHeartbeats 1000000 in
theorem many_is (s0 : ByteArray) (h1 : s0.size = 1) (N : Nat) (hN : N ≤ 100000) (W : World) :
    Calls Try.prog 51 #[.string s0, .int .i64 (N : Int)] W fun e w' => ∃ S : ByteArray, S.size ≤ 100000 ∧ e = .returned (.string S) ∧ w' = W := by
  go_enter Try.func51, Try.ntmps51
  go_wp2_with fail
  go_loopw [0, 1, 5] (fun s n o wr => ∃ (x y : ByteArray) (k : Nat), s = .string x ∧ n = .int .i64 (k : Int) ∧ o = .string y ∧ Hid (y.size + k * x.size = N ∧ 1 ≤ x.size ∧ x.size ≤ 200000) ∧ k ≤ 100000 ∧ Hid (W = wr)) (fun _ n _ _ => (intOf n).toNat)
  case atStart => exact ⟨s0, ByteArray.mk #[], N, rfl, rfl, rfl, ⟨by rw [h1]; show 0 + N * 1 = N; omega, by omega, by omega⟩, hN, rfl⟩
  case round =>
    obtain ⟨x, y, k, rfl, rfl, rfl, HI, hk, HW⟩ := hrel
    have hw := HW.out
    subst hw
    by_cases hlt : 0 < k
    · have hltI : (0 : Int) < (k : Int) := by omega
      obtain ⟨i1, i2, i3⟩ := HI.out
      have hxk : x.size ≤ k * x.size := Nat.le_mul_of_pos_left _ hlt
      have a2 := fun W : World => add_ok2 x x (by omega) (by omega) W
      have a1 := fun W : World => add_ok2 y x (by omega) (by omega) W
      have hdd : (x ++ x).size = x.size + x.size := ByteArray.size_append
      have hyy : (y ++ x).size = y.size + x.size := ByteArray.size_append
      have hdiv : (k : Int).tdiv 2 = ((k / 2 : Nat) : Int) := by rw [Int.tdiv_eq_ediv_of_nonneg (by omega)]; omega
      by_cases hm : k % 2 = 1
      · have hmI : ((k : Int).tmod 2 == 1) = true := by rw [Int.tmod_eq_emod_of_nonneg (by omega)]; rw [beq_iff_eq]; omega
        have hmI2 : ((k : Int) % 2 == 1) = true := by rw [beq_iff_eq]; omega
        have HN : Hid ((y ++ x).size + k / 2 * (x ++ x).size = N ∧ 1 ≤ (x ++ x).size ∧ (x ++ x).size ≤ 200000) := by
          refine ⟨?_, by omega, by omega⟩
          rw [hyy, hdd]
          exact half_sum k x.size y.size N i1 hm
        clear i1 i2 i3 hxk hdd hyy
        go_wp2_with fail
        go_roundw
        case rel => exact ⟨x ++ x, y ++ x, k / 2, rfl, congrArg (Value.int IntKind.i64) (by omega), rfl, HN, by omega, trivial⟩
        case measure => simp only [intOf]; omega
      · have hmI : ((k : Int).tmod 2 == 1) = false := by rw [Int.tmod_eq_emod_of_nonneg (by omega)]; rw [beq_eq_false_iff_ne]; omega
        have hmI2 : ((k : Int) % 2 == 1) = false := by rw [beq_eq_false_iff_ne]; omega
        have HN : Hid (y.size + k / 2 * (x ++ x).size = N ∧ 1 ≤ (x ++ x).size ∧ (x ++ x).size ≤ 200000) := by
          refine ⟨?_, by omega, by omega⟩
          rw [hdd]
          exact half_sum0 k x.size y.size N i1 (by omega)
        clear i1 i2 i3 hxk hdd hyy
        go_wp2_with fail
        go_roundw
        case rel => exact ⟨x ++ x, y, k / 2, rfl, congrArg (Value.int IntKind.i64) (by omega), rfl, HN, by omega, trivial⟩
        case measure => simp only [intOf]; omega
    · have hge : ¬ (0 : Int) < (k : Int) := by omega
      have HZ : Hid (y.size ≤ 100000) := by
        have := HI.out.1
        show _ ≤ _
        omega
      go_wp2
      go_ret
      exact ⟨y, HZ.out, rfl, rfl⟩

set_option maxRecDepth 20000 in
set_option maxHeartbeats 1000000 in
theorem pad_is (B : Nat) (v : Value) (L : List UInt8) (p : Nat) (W : World) (h : RdAt B v L p W) (hp8 : p ≤ 900000) (s : ByteArray) (hs : s.size ≤ 200) :
    Calls Try.prog 52 #[.pointer (some ⟨B, 0, none⟩), .string s] W fun e w' => ∃ S : ByteArray, S.size ≤ 201 ∧ e = .returned (.string S) ∧ RdAt B v L (p + 1) w' ∧ W.grownBy w' (some B) := by
  have hw1 : IntKind.i64.wrap ((s.size : Int) + 1) = (s.size : Int) + 1 := IntWalk.i64_in _ (by omega)
  have c1 := pick_is B v L p W h (by omega) ((s.size : Int) + 1) (by omega) (by omega)
  clear h
  go_enter Try.func52, Try.ntmps52
  go_wp2_with (go_at_call 50; refine c1.mono ?_; rintro e w1 ⟨k, hk, rfl, hR1, hg1⟩)
  have hk0 : (0 : Int) ≤ (k : Int) := by omega
  have hkS : (k : Int) ≤ (s.size : Int) := by omega
  have z1 : (s.extract 0 k).size ≤ 200 := ext_le _ _ _ _ hs
  have z2 : (s.extract k s.size).size ≤ 200 := ext_le _ _ _ _ hs
  have a1 := fun W' : World => add_ok (s.extract 0 k) (str [255]) (Nat.le_trans z1 (by decide)) (str_le _ _ (by simp)) W'
  have a2 := fun W' : World => add_ok (s.extract 0 k ++ str [255]) (s.extract k s.size) (app_le _ _ 200 1 1000 z1 (str_le _ _ (by simp)) (by decide)) (Nat.le_trans z2 (by decide)) W'
  have hcv := fun (W' : World) (b : Nat) (h : W'.cell? ⟨b, 0, none⟩ = some (.int .u8 255)) => run_str_one W' b 255 h
  have HZ : Hid ((s.extract 0 k ++ str [255] ++ s.extract k s.size).size ≤ 201) := by
    have e1 : (s.extract 0 k).size + (s.extract k s.size).size ≤ s.size := by rw [ByteArray.size_extract, ByteArray.size_extract]; omega
    have e2 : (str ([255] : List UInt8)).size ≤ 1 := str_le _ _ (by simp)
    show _ ≤ _
    rw [ByteArray.size_append, ByteArray.size_append]
    omega
  clear z1 z2
  go_region
  all_goals (go_wp2_with fail)
  all_goals go_ret
  all_goals first
    | exact ⟨_, HZ.out, rfl, (hR1.grown (World.grownBy_alloc w1 _ none)).drew, grown_drew (hg1.trans (World.grownBy_alloc w1 _ _))⟩
    | exact ⟨_, HZ.out, rfl, hR1.drew.grown (World.grownBy_alloc w1.drew _ none), (grown_drew hg1).trans (World.grownBy_alloc w1.drew _ _)⟩

/-- The block B holds two texts that may be written over. -/
def Box2 (B : Nat) (W : World) : Prop := B < W.heap.size ∧ (∃ x, W.cell? ⟨B, 0, none⟩ = some x) ∧ (∃ x, W.cell? ⟨B, 1, none⟩ = some x) ∧ W.frozen? ⟨B, 0, none⟩ = false ∧ W.frozen? ⟨B, 1, none⟩ = false
theorem Box2.start (w : World) (x y : Value) : Box2 w.heap.size (w.alloc (.cells #[x, y] 40)) :=
  ⟨by simp, ⟨x, by simp [go_sem]⟩, ⟨y, by simp [go_sem]⟩, by simp [go_sem], by simp [go_sem]⟩
theorem Box2.call {B : Nat} {W W' : World} (h : Box2 B W) (hb : Below W.heap.size W W') : Box2 B W' := by
  obtain ⟨h0, ⟨x, hx⟩, ⟨y, hy⟩, f0, f1⟩ := h
  exact ⟨Nat.lt_of_lt_of_le h0 hb.size, ⟨x, (hb.cell h0).trans hx⟩, ⟨y, (hb.cell h0).trans hy⟩, (hb.frozen h0).trans f0, (hb.frozen h0).trans f1⟩
theorem Box2.far {b B : Nat} {W W' : World} (h : Box2 b W) (g : W.grownBy W' (some B)) (hne : b ≠ B) : Box2 b W' := by
  obtain ⟨h0, ⟨x, hx⟩, ⟨y, hy⟩, f0, f1⟩ := h
  have ne : some b ≠ some B := fun e => hne (by simpa using e)
  exact ⟨Nat.lt_of_lt_of_le h0 g.size, ⟨x, g.cell hx ne⟩, ⟨y, g.cell hy ne⟩, (g.frozen_far _ h0 ne).trans f0, (g.frozen_far _ h0 ne).trans f1⟩
theorem two_set {w : World} {b : Nat} {x0 x1 : Value} (h : Box2 b w) : ((w.setCell ⟨b, 0, none⟩ x0).setCell ⟨b, 1, none⟩ x1).cell? ⟨b, 0, none⟩ = some x0 ∧ ((w.setCell ⟨b, 0, none⟩ x0).setCell ⟨b, 1, none⟩ x1).cell? ⟨b, 1, none⟩ = some x1 := by
  obtain ⟨h0, ⟨x, hx⟩, ⟨y, hy⟩, f0, f1⟩ := h
  refine ⟨?_, ?_⟩
  · rw [set_off (by omega), set_same (by rw [hx]; rfl)]
  · rw [set_same (by rw [set_off (by omega), hy]; rfl)]

set_option maxRecDepth 20000 in
set_option maxHeartbeats 2000000 in
theorem drawClash_is (W : World) (v : Value) (L : List UInt8) (h : Byt W v L) :
    Calls Try.prog 31 #[v] W fun e w' => ∃ a b : ByteArray, e = .returned (.agg #[.string a, .string b]) ∧ Below W.heap.size W w' := by
  have c1 := open_is _ v L (h.call ((Below.refl W.heap.size W).alloc (Nat.le_refl _) (.cells #[Value.string (ByteArray.mk #[]), Value.string (ByteArray.mk #[])] 40)))
  simp only [World.size_alloc] at c1
  have ct := fun (W' : World) (v' : Value) (L' : List UInt8) (p : Nat) (hp : p ≤ 1000) (hr : RdAt (W.heap.size + 1) v' L' p W') => text_is (W.heap.size + 1) v' L' p W' hr (by omega) 40 (by omega)
  have cp := fun (W' : World) (v' : Value) (L' : List UInt8) (p : Nat) (hp : p ≤ 1000) (hr : RdAt (W.heap.size + 1) v' L' p W') (n : Int) (hn : 1 ≤ n) (hn2 : n ≤ 1000) => pick_is (W.heap.size + 1) v' L' p W' hr (by omega) n hn (by omega)
  have cd := fun (W' : World) (v' : Value) (L' : List UInt8) (p : Nat) (hp : p ≤ 1000) (hr : RdAt (W.heap.size + 1) v' L' p W') (s : ByteArray) (hs : s.size ≤ 200) => pad_is (W.heap.size + 1) v' L' p W' hr (by omega) s hs
  have cm := fun (s : ByteArray) (hs : s.size = 1) (N : Nat) (hN : N ≤ 100000) (W' : World) => many_is s hs N hN W'
  clear h
  go_enter Try.func31, Try.ntmps31
  go_wp2_with (first
    | (go_at_call 46; refine c1.mono ?_; rintro e w1 ⟨v1, L1, rfl, hR1, hb1⟩; have hs1 := hb1.size; simp only [World.size_alloc] at hs1; have hX1 : Box2 W.heap.size w1 := (Box2.start W _ _).call (by simpa only [World.size_alloc] using hb1); have hB1 : Below W.heap.size W w1 := ((Below.refl _ _).alloc (Nat.le_refl _) _).trans (hb1.mono (by omega)))
    | (go_at_call 53; have hh := hB3; refine (ct w3 v1 L1 (p2 + 1) (by omega) hR3).mono ?_; rintro e w4 ⟨t4, p4, ht4, hp4, rfl, hR4, hg4⟩; have hX4 : Box2 W.heap.size w4 := hX3.far hg4 (by omega); have hB4 : Below W.heap.size W w4 := below_far hB3 hg4 (by omega) hB3.size; have hh4 := hX4; obtain ⟨_, ⟨z0, e0⟩, ⟨z1, e1⟩, f0, f1⟩ := hh4)
    | (go_at_call 53; refine (ct w1 v1 L1 0 (by omega) hR1).mono ?_; rintro e w2 ⟨t2, p2, ht2, hp2, rfl, hR2, hg2⟩; have hX2 : Box2 W.heap.size w2 := hX1.far hg2 (by omega); have hB2 : Below W.heap.size W w2 := below_far hB1 hg2 (by omega) hB1.size)
    | (go_at_call_of 50 (6 : Int); refine (cp w2 v1 L1 p2 (by omega) hR2 6 (by omega) (by omega)).mono ?_; rintro e w3 ⟨r, hr, rfl, hR3, hg3⟩; have hX3 : Box2 W.heap.size w3 := hX2.far hg3 (by omega); have hB3 : Below W.heap.size W w3 := below_far hB2 hg3 (by omega) hB2.size; have hh3 := hX3; obtain ⟨_, ⟨z0, e0⟩, ⟨z1, e1⟩, f0, f1⟩ := hh3)
    | (go_at_call 52; refine (cd w3 v1 L1 (p2 + 1) (by omega) hR3 (str t2) (str_le _ _ (by omega))).mono ?_; rintro e w4 ⟨S4, hS4, rfl, hR4, hg4⟩; have hX4 : Box2 W.heap.size w4 := hX3.far hg4 (by omega); have hB4 : Below W.heap.size W w4 := below_far hB3 hg4 (by omega) hB3.size; have hh4 := hX4; obtain ⟨_, ⟨z0, e0⟩, ⟨z1, e1⟩, f0, f1⟩ := hh4)
    | (go_at_call_of 51 (20001 : Int); refine (cm (ByteArray.mk #[121]) rfl 20001 (by omega) _).mono ?_; rintro e w5 ⟨S5, hS5, rfl, hw⟩; replace hw := hw.symm; subst hw)
    | (go_at_call_of 50 (2 : Int); refine (cp w3 v1 L1 (p2 + 1) (by omega) hR3 2 (by omega) (by omega)).mono ?_; rintro e w6 ⟨r6, hr6, rfl, hR6, hg6⟩; have hX6 : Box2 W.heap.size w6 := hX3.far hg6 (by omega); have hB6 : Below W.heap.size W w6 := below_far hB3 hg6 (by omega) hB3.size; have hh6 := hX6; obtain ⟨_, ⟨z0, e0⟩, ⟨z1, e1⟩, f0, f1⟩ := hh6; have hwm : IntKind.i64.wrap (20000 + (r6 : Int)) = ((20000 + r6 : Nat) : Int) := (by rw [IntWalk.i64_in _ (by omega)]; omega))
    | (go_at_call 51; refine (cm (ByteArray.mk #[119]) rfl (20000 + r6) (by omega) _).mono ?_; rintro e w7 ⟨S7, hS7, rfl, hw⟩; replace hw := hw.symm; subst hw))
  · obtain ⟨q0, q1⟩ := two_set (w := w4) (b := W.heap.size) (x0 := .string S4) (x1 := .string (str t2)) hX4
    exact bodyPost_ret (v := .agg #[.string S4, .string (str t2)]) (by simp [results, Try.results31, go_sem, q0, q1]) rfl ⟨S4, (str t2), rfl, by repeat' (first | (with_reducible exact hB4) | (with_reducible refine Below.setCell ?_ ?_ _) | go_size)⟩
  · obtain ⟨q0, q1⟩ := two_set (w := w3) (b := W.heap.size) (x0 := .string (str t2)) (x1 := .string (str t2)) hX3
    exact bodyPost_ret (v := .agg #[.string (str t2), .string (str t2)]) (by simp [results, Try.results31, go_sem, q0, q1]) rfl ⟨(str t2), (str t2), rfl, by repeat' (first | (with_reducible exact hB3) | (with_reducible refine Below.setCell ?_ ?_ _) | go_size)⟩
  · obtain ⟨q0, q1⟩ := two_set (w := w6) (b := W.heap.size) (x0 := .string S5) (x1 := .string S7) hX6
    exact bodyPost_ret (v := .agg #[.string S5, .string S7]) (by simp [results, Try.results31, go_sem, q0, q1]) rfl ⟨S5, S7, rfl, by repeat' (first | (with_reducible exact hB6) | (with_reducible refine Below.setCell ?_ ?_ _) | go_size)⟩
  · obtain ⟨q0, q1⟩ := two_set (w := w4) (b := W.heap.size) (x0 := .string (str t2)) (x1 := .string (str t4)) hX4
    exact bodyPost_ret (v := .agg #[.string (str t2), .string (str t4)]) (by simp [results, Try.results31, go_sem, q0, q1]) rfl ⟨(str t2), (str t4), rfl, by repeat' (first | (with_reducible exact hB4) | (with_reducible refine Below.setCell ?_ ?_ _) | go_size)⟩
end Go.Proofs.Ytjfiafnbmejaeaa
