/-
  DrawHashBytes, DrawHashBack, walked: whatever they draw.
-/
import Derived.Test.YtjfiafnbmejaeaaRd2
import Derived.Test.YtjfiafnbmejaeaaWalks7
import Derived.Test.YtjfiafnbmejaeaaWalks20
import Derived.Test.YtjfiafnbmejaeaaWalks22
import Derived.Test.YtjfiafnbmejaeaaWalks11
namespace Go.Proofs.Ytjfiafnbmejaeaa
open Go.RowKit

theorem RdAt.call {B : Nat} {v : Value} {L : List UInt8} {p : Nat} {W W' : World} (h : RdAt B v L p W) (hb : Below W.heap.size W W') : RdAt B v L p W' := by
  obtain ⟨h0, h1, h2, h3, h4, h5⟩ := h
  refine ⟨Nat.lt_of_lt_of_le h0 hb.size, (hb.cell h0).trans h1, (hb.cell h0).trans h2, (hb.frozen h0).trans h3, h4, ?_⟩
  rcases h5 with h5 | ⟨a, cap, hv, hl, hbl, hc⟩
  · exact .inl h5
  · exact .inr ⟨a, cap, hv, hl, hbl, fun i hi => (hb.cell (by rw [add_block']; omega)).trans (hc i hi)⟩
theorem below_far {base B : Nat} {w W W' : World} (h : Below base w W) (g : W.grownBy W' (some B)) (hB : base ≤ B) (hs : base ≤ W.heap.size) : Below base w W' :=
  h.grown g hs (fun k e => by have e2 : B = k := (by simpa using e); omega)

set_option maxRecDepth 20000 in
set_option maxHeartbeats 1000000 in
theorem drawBytes_is (W : World) (v : Value) (L : List UInt8) (h : Byt W v L) :
    Calls Try.prog 23 #[v] W fun e w' => ∃ q : Qd, e = .returned (.agg #[.int .u64 ((q).a.toNat : Int), .int .u64 ((q).b.toNat : Int), .int .u64 ((q).c.toNat : Int), .int .u64 ((q).d.toNat : Int)]) ∧ Below W.heap.size W w' := by
  have c1 := open_is _ v L (h.call ((Below.refl W.heap.size W).alloc (Nat.le_refl _) (.cells #[Value.int IntKind.u64 0, Value.int IntKind.u64 0, Value.int IntKind.u64 0, Value.int IntKind.u64 0] 25)))
  simp only [World.size_alloc] at c1
  have cd := fun (W' : World) (v' : Value) (L' : List UInt8) (hr : RdAt (W.heap.size + 1) v' L' 0 W') => digest_is (W.heap.size + 1) v' L' 0 W' hr (by omega)
  clear h
  go_enter Try.func23, Try.ntmps23
  go_wp2_with (first
    | (go_at_call 46; refine c1.mono ?_; rintro e w1 ⟨v1, L1, rfl, hR1, hb1⟩; have hX1 : Box W.heap.size w1 := (Box.start W).call (by simpa only [World.size_alloc] using hb1))
    | (go_at_call 47; refine (cd w1 v1 L1 hR1).mono ?_; rintro e w2 ⟨q, p2, hp2, rfl, hR2, hg2⟩; have hX2 : Box W.heap.size w2 := hX1.far hg2 (by omega); obtain ⟨s0, s1, s2, s3, t0, t1, t2, t3⟩ := hX2.facts))
  have hs1 := hb1.size
  simp only [World.size_alloc] at hs1
  have hB1 : Below W.heap.size W w1 := ((Below.refl _ _).alloc (Nat.le_refl _) _).trans (hb1.mono (by omega))
  have hB2 : Below W.heap.size W w2 := below_far hB1 hg2 (by omega) (by omega)
  obtain ⟨q0, q1, q2, q3⟩ := four_set_at (w := w2) (b := W.heap.size) (q := q) s0 s1 s2 s3
  exact bodyPost_ret (v := .agg #[.int .u64 ((q).a.toNat : Int), .int .u64 ((q).b.toNat : Int), .int .u64 ((q).c.toNat : Int), .int .u64 ((q).d.toNat : Int)]) (by simp [results, Try.results23, go_sem, q0, q1, q2, q3]) rfl ⟨q, rfl, by repeat' (first | (with_reducible exact hB2) | (with_reducible refine Below.setCell ?_ ?_ _) | go_size)⟩

theorem str_le (t : List UInt8) (k : Nat) (h : t.length ≤ k) : (str t).size ≤ k := by
  have e : (str t).size = t.length := by simp [ByteArray.size]
  rw [e]; exact h
theorem ext_le (S : ByteArray) (i j k : Nat) (h : S.size ≤ k) : (S.extract i j).size ≤ k := by rw [ByteArray.size_extract]; omega
theorem app_le (x y : ByteArray) (a b c : Nat) (hx : x.size ≤ a) (hy : y.size ≤ b) (h : a + b ≤ c) : (x ++ y).size ≤ c := by rw [ByteArray.size_append]; omega
theorem add_ok (x y : ByteArray) (hx : x.size ≤ 1000) (hy : y.size ≤ 1000) (W : World) : (Op.stringOp .add x y).run Try.prog W = .ok (.string (x ++ y)) W := run_string_add_sum W x y (by omega)
theorem ext_size (S : ByteArray) (k : Nat) (t : List UInt8) (hS : S.size = 32) (ht : t.length ≤ 1) : (S.extract k 32 ++ str t).size ≤ 100 :=
  app_le _ _ 32 1 100 (ext_le _ _ _ _ (by omega)) (str_le _ _ ht) (by omega)
theorem ext_size2 (S : ByteArray) (i j : Nat) (t : List UInt8) (hS : S.size = 64) (ht : t.length ≤ 1) : (S.extract 0 i ++ str t ++ S.extract j 64).size ≤ 200 :=
  app_le _ _ 65 64 200 (app_le _ _ 64 1 65 (ext_le _ _ _ _ (by omega)) (str_le _ _ ht) (by omega)) (ext_le _ _ _ _ (by omega)) (by omega)

set_option maxRecDepth 20000 in
set_option maxHeartbeats 1000000 in
theorem drawBack_is (W : World) (v : Value) (L : List UInt8) (h : Byt W v L) :
    Calls Try.prog 30 #[v] W fun e w' => ∃ s : ByteArray, s.size ≤ 100 ∧ e = .returned (.string s) ∧ Below W.heap.size W w' := by
  have c1 := open_is W v L h
  have cd := fun (W' : World) (v' : Value) (L' : List UInt8) (hr : RdAt W.heap.size v' L' 0 W') => digest_is W.heap.size v' L' 0 W' hr (by omega)
  have ch := fun (q : Qd) (W' : World) => (hby_spec q W').mono (fun e w' h => (⟨str (db q), rfl, h.1, h.2⟩ : ∃ S : ByteArray, S.size = 32 ∧ e = .returned (.string S) ∧ Below W'.heap.size W' w'))
  have cp := fun (W' : World) (v' : Value) (L' : List UInt8) (p : Nat) (hp : p ≤ 1000) (hr : RdAt W.heap.size v' L' p W') => pick_is W.heap.size v' L' p W' hr (by omega) 4 (by omega) (by omega)
  have cp2 := fun (W' : World) (v' : Value) (L' : List UInt8) (p : Nat) (hp : p ≤ 1000) (hr : RdAt W.heap.size v' L' p W') => pick_is W.heap.size v' L' p W' hr (by omega) 2 (by omega) (by omega)
  have ct := fun (W' : World) (v' : Value) (L' : List UInt8) (p : Nat) (hp : p ≤ 1000) (hr : RdAt W.heap.size v' L' p W') => text_is W.heap.size v' L' p W' hr (by omega) 1 (by omega)
  clear h
  go_enter Try.func30, Try.ntmps30
  go_wp2_with (first
    | (go_at_call 46; refine c1.mono ?_; rintro e w1 ⟨v1, L1, rfl, hR1, hb1⟩)
    | (go_at_call 47; refine (cd w1 v1 L1 hR1).mono ?_; rintro e w2 ⟨q, p2, hp2, rfl, hR2, hg2⟩; have hB2 : Below W.heap.size W w2 := below_far hb1 hg2 (Nat.le_refl _) hb1.size)
    | (go_at_call 41; refine (ch q _).mono ?_; rintro e w3 ⟨S, hS, rfl, hb3⟩; have hR3 := hR2.call hb3; have hB3 : Below W.heap.size W w3 := below_after hB2 hb3 hB2.size)
    | (go_at_call 50; refine (cp w3 v1 L1 p2 (by omega) hR3).mono ?_; rintro e w4 ⟨r, hr, rfl, hR4, hg4⟩; have hB4 : Below W.heap.size W w4 := below_far hB3 hg4 (Nat.le_refl _) hB3.size))
  · have hS4 : (S.size : Int) = 32 := by omega
    go_region_with (first
      | (go_at_call 50; refine (cp2 _ v1 L1 (p2 + 1) (by omega) hR4.drew).mono ?_; rintro e w5 ⟨r2, hr2, rfl, hR5, hg5⟩; have hB5 : Below W.heap.size W w5 := below_far hB4.drew hg5 (Nat.le_refl _) hB4.size; have hr0 : (0 : Int) ≤ (r2 : Int) := (by omega); have hr32 : (r2 : Int) ≤ 32 := (by omega))
      | (go_at_call 53; refine (ct w5 v1 L1 (p2 + 1 + 1) (by omega) hR5).mono ?_; rintro e w6 ⟨t, p6, ht, hp6, rfl, hR6, hg6⟩; have hB6 : Below W.heap.size W w6 := below_far hB5 hg6 (Nat.le_refl _) hB5.size))
    all_goals (have HZ : Hid ((S.extract r2 32 ++ str t).size ≤ 100) := ext_size S r2 t hS ht)
    all_goals (go_wp2_with fail)
    all_goals go_ret
    all_goals (exact ⟨S.extract r2 32 ++ str t, HZ.out, rfl, hB6⟩)
  · go_ret
    exact ⟨S, by omega, rfl, hB4⟩

set_option maxRecDepth 20000 in
set_option maxHeartbeats 1000000 in
theorem drawRead_is (W : World) (v : Value) (L : List UInt8) (h : Byt W v L) :
    Calls Try.prog 28 #[v] W fun e w' => ∃ s : ByteArray, s.size ≤ 200 ∧ e = .returned (.string s) ∧ Below W.heap.size W w' := by
  have c1 := open_is W v L h
  have cd := fun (W' : World) (v' : Value) (L' : List UInt8) (hr : RdAt W.heap.size v' L' 0 W') => digest_is W.heap.size v' L' 0 W' hr (by omega)
  have ch := fun (q : Qd) (W' : World) => (ht_spec q W').mono (fun e w' h => (⟨str (hexs (db q)), by show (hexs (db q)).toArray.size = 64; simp [hexs_length, db_len], h.1, h.2⟩ : ∃ S : ByteArray, S.size = 64 ∧ e = .returned (.string S) ∧ Below W'.heap.size W' w'))
  have cp := fun (W' : World) (v' : Value) (L' : List UInt8) (p : Nat) (hp : p ≤ 1000) (hr : RdAt W.heap.size v' L' p W') (n : Int) (hn : 1 ≤ n) (hn2 : n ≤ 1000) => pick_is W.heap.size v' L' p W' hr (by omega) n hn (by omega)
  have ct := fun (W' : World) (v' : Value) (L' : List UInt8) (p : Nat) (hp : p ≤ 1000) (hr : RdAt W.heap.size v' L' p W') => text_is W.heap.size v' L' p W' hr (by omega) 1 (by omega)
  clear h
  go_enter Try.func28, Try.ntmps28
  go_wp2_with (first
    | (go_at_call 46; refine c1.mono ?_; rintro e w1 ⟨v1, L1, rfl, hR1, hb1⟩)
    | (go_at_call 47; refine (cd w1 v1 L1 hR1).mono ?_; rintro e w2 ⟨q, p2, hp2, rfl, hR2, hg2⟩; have hB2 : Below W.heap.size W w2 := below_far hb1 hg2 (Nat.le_refl _) hb1.size)
    | (go_at_call 43; refine (ch q _).mono ?_; rintro e w3 ⟨S, hS, rfl, hb3⟩; have hR3 := hR2.call hb3; have hB3 : Below W.heap.size W w3 := below_after hB2 hb3 hB2.size)
    | (go_at_call 50; refine (cp w4 v1 L1 (p2 + 1) (by omega) hR4 64 (by omega) (by omega)).mono ?_; rintro e w5 ⟨i, hi, rfl, hR5, hg5⟩; have hB5 : Below W.heap.size W w5 := below_far hB4 hg5 (Nat.le_refl _) hB4.size)
    | (go_at_call 50; refine (cp w3 v1 L1 p2 (by omega) hR3 6 (by omega) (by omega)).mono ?_; rintro e w4 ⟨r, hr, rfl, hR4, hg4⟩; have hB4 : Below W.heap.size W w4 := below_far hB3 hg4 (Nat.le_refl _) hB3.size))
  · have hS4 : (S.size : Int) = 64 := by omega
    have hi0 : (0 : Int) ≤ (i : Int) := by omega
    have hi64 : (i : Int) ≤ 64 := by omega
    have hi1 : (0 : Int) ≤ (i : Int) + 1 := by omega
    have hi65 : (i : Int) + 1 ≤ 64 := by omega
    have hwi : IntKind.i64.wrap ((i : Int) + 1) = (i : Int) + 1 := IntWalk.i64_in _ (by omega)
    have z1 : (S.extract 0 i).size ≤ 64 := ext_le _ _ _ _ (by omega)
    have z2 : (S.extract (i + 1) 64).size ≤ 64 := ext_le _ _ _ _ (by omega)
    go_region_with (go_at_call 53; refine (ct _ v1 L1 (p2 + 1 + 1) (by omega) hR5.drew).mono ?_; rintro e w6 ⟨t, p6, ht, hp6, rfl, hR6, hg6⟩; have hB6 : Below W.heap.size W w6 := below_far hB5.drew hg6 (Nat.le_refl _) hB5.size; have a1 := fun W' : World => add_ok (S.extract 0 i) (str t) (Nat.le_trans z1 (by decide)) (str_le _ _ (Nat.le_trans ht (by decide))) W'; have a2 := fun W' : World => add_ok (S.extract 0 i ++ str t) (S.extract (i + 1) 64) (app_le _ _ 64 1 1000 z1 (str_le _ _ ht) (by decide)) (Nat.le_trans z2 (by decide)) W')
    all_goals (have HZ : Hid ((S.extract 0 i ++ str t ++ S.extract (i + 1) 64).size ≤ 200) := ext_size2 S i (i + 1) t hS ht)
    all_goals (go_wp2_with fail)
    all_goals go_ret
    all_goals (exact ⟨S.extract 0 i ++ str t ++ S.extract (i + 1) 64, HZ.out, rfl, hB6⟩)
  · have hS4 : (S.size : Int) = 64 := by omega
    have hi0 : (0 : Int) ≤ (i : Int) := by omega
    have hi64 : (i : Int) ≤ 64 := by omega
    have hi1 : (0 : Int) ≤ (i : Int) + 1 := by omega
    have hi65 : (i : Int) + 1 ≤ 64 := by omega
    have hwi : IntKind.i64.wrap ((i : Int) + 1) = (i : Int) + 1 := IntWalk.i64_in _ (by omega)
    have z1 : (S.extract 0 i).size ≤ 64 := ext_le _ _ _ _ (by omega)
    have z2 : (S.extract (i + 1) 64).size ≤ 64 := ext_le _ _ _ _ (by omega)
    have hT7 : (⟨#[65, 70, 103, 71, 58, 47, 32]⟩ : ByteArray).size = 7 := by decide
    generalize (⟨#[65, 70, 103, 71, 58, 47, 32]⟩ : ByteArray) = T at hT7 ⊢
    have a1 := fun (W' : World) (x : UInt8) => add_ok (S.extract 0 i) (str [x]) (Nat.le_trans z1 (by decide)) (str_le _ _ (by simp)) W'
    have a2 := fun (W' : World) (x : UInt8) => add_ok (S.extract 0 i ++ str [x]) (S.extract (i + 1) 64) (app_le _ _ 64 1 1000 z1 (str_le _ _ (by simp)) (by decide)) (Nat.le_trans z2 (by decide)) W'
    go_region_with (go_at_call 50; refine (cp _ v1 L1 (p2 + 1 + 1) (by omega) hR5.drew 7 (by omega) (by omega)).mono ?_; rintro e w6 ⟨r3, hr3, rfl, hR6, hg6⟩; have hB6 : Below W.heap.size W w6 := below_far hB5.drew hg6 (Nat.le_refl _) hB5.size; have hr30 : (0 : Int) ≤ (r3 : Int) := (by omega); have hr37 : (r3 : Int) < (T.size : Int) := (by omega); have hx7 : r3 < T.size := (by omega); have hcv := run_str_one (w6.alloc (.cells #[Value.int IntKind.u8 (T[r3].toNat : Int)] 5)) w6.heap.size T[r3] (by simp [go_sem]))
    all_goals (have HZ : Hid ((S.extract 0 i ++ str [T[r3]] ++ S.extract (i + 1) 64).size ≤ 200) := ext_size2 S i (i + 1) [T[r3]] hS (by simp))
    all_goals (have hz6 := hB6.size)
    all_goals (go_wp2_with fail)
    all_goals go_ret
    all_goals (exact ⟨S.extract 0 i ++ str [T[r3]] ++ S.extract (i + 1) 64, HZ.out, rfl, hB6.alloc (by omega) _⟩)
  · go_ret
    exact ⟨S, by omega, rfl, hB4⟩
end Go.Proofs.Ytjfiafnbmejaeaa
