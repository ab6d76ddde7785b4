/-
  The law of letters that come back out of bags, walked.
-/
import Derived.Test.YtiipfedjjhpbpaaDBag3
import Derived.Test.YtiipfedjjhpbpaaJoinB42
import Derived.Test.YtiipfedjjhpbpaaDbl4
import Derived.Test.YtiipfedjjhpbpaaSame
namespace Go.Proofs.Ytiipfedjjhpbpaa
open Go.RowKit

theorem bagOk_iff {m : Int} {L : List Lt} : bagOk m L = true ↔ (1 ≤ m ∧ m ≤ 64 ∧ (L.length : Int) ≤ m) ∧ ∀ l ∈ L, letOk l.f l.t l.s.size = true := by
  unfold bagOk
  rw [Bool.and_eq_true, decide_eq_true_iff, List.all_eq_true]
theorem bagOk_more {m : Int} {L : List Lt} {x : Lt} (h : bagOk m L = true) (hm : (L.length : Int) < m) (hx : letOk x.f x.t x.s.size = true) : bagOk m (L ++ [x]) = true := by
  obtain ⟨⟨h1, h2, h3⟩, h4⟩ := bagOk_iff.1 h
  refine bagOk_iff.2 ⟨⟨h1, h2, by rw [List.length_append]; simp; omega⟩, fun l hl => ?_⟩
  rcases List.mem_append.1 hl with hl | hl
  · exact h4 l hl
  · rw [List.mem_singleton] at hl; subst hl; exact hx
theorem send_sizes (m : Int) (Y : List Lt) (x : Lt) : (bsend m Y x).2.1.length ≤ Y.length + 1 ∧ ((∀ l ∈ Y, l.s.size ≤ 100000) → x.s.size ≤ 100000 → ∀ l ∈ (bsend m Y x).2.1, l.s.size ≤ 100000) := by
  unfold bsend
  split
  · split
    · refine ⟨by simp, fun hY hx l hl => ?_⟩
      rcases List.mem_append.1 hl with hl | hl
      · exact hY l hl
      · rw [List.mem_singleton] at hl; subst hl; exact hx
    · exact ⟨by simp, fun hY _ l hl => hY l hl⟩
  · exact ⟨by simp, fun _ _ l hl => by simp at hl⟩
/-- A bag in a box, its letters anywhere. -/
def BX (b : Nat) (m : Int) (u : Value) (Y : List Lt) (W : World) : Prop := C2 b (.int .i64 m) u W ∧ Lts W u Y
theorem BX.call {b : Nat} {m : Int} {u : Value} {Y : List Lt} {W W' : World} (h : BX b m u Y W) (hb : Below W.heap.size W W') : BX b m u Y W' := ⟨h.1.call hb, h.2.call hb⟩
theorem BX.new {W : World} {m : Int} {u : Value} {Y : List Lt} (h : Lts W u Y) (t : TypeId) : BX W.heap.size m u Y (W.alloc (.cells #[.int .i64 m, u] t)) := ⟨C2.new W _ _ t, h.call ((Below.refl _ _).alloc (Nat.le_refl _) _)⟩
theorem below_one {W : World} {o : Obj} : Below W.heap.size W (W.alloc o) := (Below.refl _ _).alloc (Nat.le_refl _) o
theorem below_pair {W : World} {o o' : Obj} : Below W.heap.size W ((W.alloc o).alloc o') := ((Below.refl _ _).alloc (Nat.le_refl _) o).alloc (by simp only [World.size_alloc]; omega) o'
theorem send_true {m : Int} {Y : List Lt} {x : Lt} {m5 : Int} {Y5 : List Lt} (h : bsend m Y x = (m5, Y5, true)) : m = m5 ∧ Y ++ [x] = Y5 ∧ bagOk m (Y ++ [x]) = true := by
  unfold bsend at h
  split at h
  · next hok =>
    split at h
    · next hm =>
      injection h with h1 h2
      injection h2 with h2 h3
      exact ⟨h1, h2, bagOk_more hok.1 hm hok.2⟩
    · injection h with h1 h2
      injection h2 with h2 h3
      cases h3
  · injection h with h1 h2
    injection h2 with h2 h3
    cases h3
theorem dbl_true {m : Int} {Y : List Lt} {k : Int} {m5 : Int} {Y5 : List Lt} (h : bdbl m Y k = (m5, Y5, true)) : ∃ y : Lt, m = m5 ∧ Y ++ [y] = Y5 ∧ bagOk m (Y ++ [y]) = true ∧ (btake m Y k).2.2.1 = y ∧ y.s.size ≤ 100000 := by
  unfold bdbl at h
  split at h
  · next hok =>
    split at h
    · next hp =>
      split at h
      · next hm =>
        injection h with h1 h2
        injection h2 with h2 h3
        have hy := (bagOk_iff.1 hok).2 _ (List.getElem_mem (bpos_lt k _ hp))
        refine ⟨_, h1, h2, bagOk_more hok hm hy, ?_, ?_⟩
        · unfold btake tk
          rw [if_pos hok, dif_pos hp]
        · have := (bagOk_sizes hok).1 _ (List.getElem_mem (bpos_lt k _ hp))
          omega
      · injection h with h1 h2
        injection h2 with h2 h3
        cases h3
    · injection h with h1 h2
      injection h2 with h2 h3
      cases h3
  · injection h with h1 h2
    injection h2 with h2 h3
    cases h3
/-- A letter put behind all others is taken at its place. -/
theorem back_is (m : Int) (Y : List Lt) (x : Lt) (k : Int) (hk : bpos k (Y.length + 1) = Y.length) (hok : bagOk m (Y ++ [x]) = true) (V : World) (u : Value) (h : Lts V u (Y ++ [x])) :
    Calls Try.prog 15 #[.agg #[.int .i64 m, u], .int .i64 k] V fun e w' => ∃ o, e = .returned (.tuple #[.agg #[.int .i64 m, .slice o Y.length Y.length], .agg #[.int .i64 (x).f, .int .i64 (x).t, .string (x).s], .bool true]) ∧ Lts w' (.slice o Y.length Y.length) Y ∧ Below V.heap.size V w' := by
  have e : btake m (Y ++ [x]) k = (m, Y, x, true) := by unfold btake; rw [if_pos hok, tk_last Y x k hk]
  have c := btake_impl V m u (Y ++ [x]) k h (fun l hl => by have := (bagOk_sizes hok).1 l hl; unfold maxLen; omega)
  rw [e] at c
  simp only at c
  refine c.mono ?_
  rintro e w' ⟨u', rfl, h1, h2⟩
  obtain ⟨o, hu⟩ := h1.len
  subst hu
  have hl := (bagOk_sizes hok).2.1
  rw [List.length_append] at hl
  exact ⟨o, rfl, h1.lts (by omega), h2⟩
theorem dbl_sizes (m : Int) (Y : List Lt) (k : Int) : (bdbl m Y k).2.1.length ≤ Y.length + 1 := by
  unfold bdbl
  split
  · split
    · split
      · simp
      · simp
    · simp
  · simp
set_option maxRecDepth 20000 in
set_option maxHeartbeats 4000000 in
theorem lawFnBagBack (v : Value) (L : List UInt8) (w : World) (hV : Byt w v L) :
    Calls Try.prog 4 #[v] w fun e w' => e = .returned (.bool true) ∧ Below w.heap.size w w' := by
  obtain ⟨oa, cap, hv⟩ : ∃ a cap, v = .slice a L.length cap := by
    rcases hV with ⟨rfl, rfl⟩ | ⟨a, cap, rfl, _⟩
    · exact ⟨none, 0, rfl⟩
    · exact ⟨some a, cap, rfl⟩
  by_cases hbig : 1048576 < L.length
  · have hbI : (1048576 : Int) < (L.length : Int) := by omega
    subst hv
    clear hV
    go_enter Try.func4, Try.ntmps4
    go_wp2_with fail
    go_ret
    exact ⟨rfl, Below.refl _ _⟩
  · have hbI : ¬ (1048576 : Int) < (L.length : Int) := by omega
    subst hv
    have k1 := drawSend_is w _ L hV
    have ka := fun (V : World) (h : Byt V (.slice oa L.length cap) L) => at_any 7 (by omega) V _ L h (by omega)
    have HV : Hid (Byt w (.slice oa L.length cap) L) := hV
    clear hV
    go_enter Try.func4, Try.ntmps4
    go_upto_region 4 with (go_at_call 9; refine k1.mono ?_; rintro e w1 ⟨m, ob, cq, Y, x, rfl, hYl, hYs, hxs, hT1, hb1⟩; clear k1)
    have k2 := fun (V : World) (h : Lts V (.slice ob Y.length cq) Y) => bsend_impl V m _ Y x h (fun l hl => by have := hYs l hl; unfold maxLen; omega) (by unfold maxLen; omega)
    have k3 := fun (V : World) (h : Lts V (.slice ob Y.length cq) Y) => bsend_spec V m _ Y x h (fun l hl => by have := hYs l hl; unfold maxLen; omega) (by unfold maxLen; omega)
    have k5 := fun (V : World) (k : Int) (h : Lts V (.slice ob Y.length cq) Y) => bdbl_impl V m _ Y k h (fun l hl => by have := hYs l hl; unfold maxLen; omega)
    obtain ⟨hSl, hSs⟩ := send_sizes m Y x
    have hSs := hSs hYs hxs
    have kB := BX.new (m := m) hT1 25
    have kB1 : BX w1.heap.size m (.slice ob Y.length cq) Y ((w1.alloc (.cells #[.int .i64 m, .slice ob Y.length cq] 25)).alloc (.cells #[Value.int IntKind.i64 (x).f, Value.int IntKind.i64 (x).t, Value.string (x).s] 27)) := kB.call below_one
    have kL1 : L3 (w1.heap.size + 1) x.f x.t x.s ((w1.alloc (.cells #[.int .i64 m, .slice ob Y.length cq] 25)).alloc (.cells #[Value.int IntKind.i64 (x).f, Value.int IntKind.i64 (x).t, Value.string (x).s] 27)) := by
      have := L3.new (w1.alloc (.cells #[.int .i64 m, .slice ob Y.length cq] 25)) x.f x.t x.s 27
      rwa [World.size_alloc] at this
    have hb2 : Below w.heap.size w ((w1.alloc (.cells #[.int .i64 m, .slice ob Y.length cq] 25)).alloc (.cells #[Value.int IntKind.i64 (x).f, Value.int IntKind.i64 (x).t, Value.string (x).s] 27)) := below_after hb1 below_pair hb1.size
    obtain ⟨-, a0, a1, -, -⟩ := id kB1.1
    obtain ⟨⟨-, l0, l1, l2⟩, -, -, -⟩ := id kL1
    clear kB hT1 hb1
    generalize hR5 : bsend m Y x = R5 at k2 k3 hSl hSs
    obtain ⟨m5, Y5, ok⟩ := R5
    simp only at k2 k3 hSl hSs
    go_upto_region 8 with (first
      | (go_at_call 11; refine (k3 _ kB3.2).mono ?_; rintro e w4 ⟨u4, c4, rfl, ho4, hb4⟩; have hbA := below_call hb4 (below_one (W := w4) (o := .cells #[.int .i64 m5, .slice u4 Y5.length c4] 25)); have kB4 := kB3.call hbA; have kL4 := kL3.call hbA; have kS4 := kS3.call hbA; have hb4' := below_after hb3' hbA hb3'.size; obtain ⟨-, a0, a1, -, -⟩ := id kB4.1; obtain ⟨⟨-, l0, l1, l2⟩, -, -, -⟩ := id kL4; clear kB3 kL3 kS3 hb3' k3)
      | (go_at_call 10; refine (k2 _ kB1.2).mono ?_; rintro e w3 ⟨u3, rfl, ho3, hb3⟩; obtain ⟨o3, hu3⟩ := ho3.len; subst hu3; have hbA := below_call hb3 (below_one (W := w3) (o := .cells #[.int .i64 m5, .slice o3 Y5.length Y5.length] 25)); have kB3 := kB1.call hbA; have kL3 := kL1.call hbA; have kS3 := BX.new (m := m5) (ho3.lts (by omega)) 25; have hb3' := below_after hb2 hbA hb2.size; obtain ⟨-, a0, a1, -, -⟩ := id kB3.1; obtain ⟨⟨-, l0, l1, l2⟩, -, -, -⟩ := id kL3; clear kB1 kL1 hb2 k2))
    have k8 := fun (V : World) (h : Lts V (.slice ob Y.length cq) Y) (k : Int) => btake_spec V m _ Y k h (fun l hl => by have := hYs l hl; unfold maxLen; omega)
    have k6 := fun (V : World) (k : Int) (h : Lts V (.slice ob Y.length cq) Y) => bdbl_spec V m _ Y k h (fun l hl => by have := hYs l hl; unfold maxLen; omega)
    have hdlen : ∀ {k : Int} {md : Int} {Yd : List Lt} {b : Bool}, bdbl m Y k = (md, Yd, b) → Yd.length ≤ 1048576 := fun {k md Yd b} h => by
      have := dbl_sizes m Y k
      rw [h] at this
      simp only at this
      omega
    cases ok with
    | false =>
      have kBz := kB4
      have kLz := kL4
      have hbz := hb4'
      go_upto_region 17 with (first
        | (go_at_call 19; refine (k6 _ _ kB8.2).mono ?_; rintro e w9 ⟨u9, c9, rfl, ho9, hb9⟩; rw [hR8] at ho9 ⊢; simp only at ho9 ⊢; have hbA := below_call hb9 (below_one (W := w9) (o := .cells #[.int .i64 md, .slice u9 Yd.length c9] 25)); have kB9 := kB8.call hbA; have kL9 := kL8.call hbA; have kD9 := kD8.call hbA; have hb9' := below_after hb8' hbA hb8'.size; obtain ⟨-, a0, a1, -, -⟩ := id kB9.1; obtain ⟨-, d0, d1, -, -⟩ := id kD9.1)
        | (go_at_call 14; refine (k5 _ _ kB7.2).mono ?_; rintro e w8 ⟨u8, rfl, ho8, hb8⟩; obtain ⟨o8, hu8⟩ := ho8.len; subst hu8; generalize hR8 : bdbl m Y ((x7 : Int) - 100) = R8 at ho8 ⊢; obtain ⟨md, Yd, two⟩ := R8; simp only at ho8 ⊢; have hdl := hdlen hR8; have hbA := below_call hb8 (below_one (W := w8) (o := .cells #[.int .i64 md, .slice o8 Yd.length Yd.length] 25)); have kB8 := kB7.call hbA; have kL8 := kL7.call hbA; have kD8 := BX.new (m := md) (ho8.lts (by omega)) 25; have hb8' := below_after hb7' hbA hb7'.size; obtain ⟨-, a0, a1, -, -⟩ := id kB8.1)
        | (go_at_call 13; refine (ka _ (HV.out.call hbz)).mono ?_; rintro e w7 ⟨x7, hx7, rfl, hb7⟩; have kB7 := kBz.call hb7; have kL7 := kLz.call hb7; have hb7' := below_after hbz hb7 hbz.size; have hw7 : IntKind.i64.wrap ((x7 : Int) - 100) = (x7 : Int) - 100 := IntWalk.i64_in _ (by omega); obtain ⟨-, a0, a1, -, -⟩ := id kB7.1))
      cases two with
      | false =>
        go_wp2_with fail
        go_ret
        exact ⟨rfl, hb9'⟩
      | true =>
        obtain ⟨y, e1, e2, e3, e4, e5⟩ := dbl_true hR8
        subst e1 e2
        have hyl : (Y ++ [y]).length = Y.length + 1 := by simp
        simp only [hyl] at kB9 kL9 kD9 hb9' a0 a1 d0 d1 ⊢
        have k8 := fun V h => k8 V h ((x7 : Int) - 100)
        generalize hRt : btake m Y ((x7 : Int) - 100) = Rt at e4 k8
        obtain ⟨mt, Yt, yt, out⟩ := Rt
        dsimp only at e4
        subst e4
        obtain ⟨-, d0, d1, -, -⟩ := id kD9.1
        clear hyl
        go_wp2_with (first
          | (go_at_call 18; refine (same_is _ m _ _ Y kT11.2 kB11.2).mono ?_; rintro e w12 ⟨rfl, hb12⟩; have hb12' := below_after hb11' hb12 hb11'.size)
          | (go_at_call 20; refine (k8 _ kB10.2).mono ?_; rintro e w11 ⟨u11, c11, rfl, ho11, hb11⟩; have hbA := below_call hb11 (below_pair (W := w11) (o := .cells #[.int .i64 mt, .slice u11 Yt.length c11] 25) (o' := .cells #[Value.int IntKind.i64 (yt).f, Value.int IntKind.i64 (yt).t, Value.string (yt).s] 27)); have kB11 := kB10.call hbA; have kT11 := kT10.call hbA; have kX11 := kX10.call hbA; have kY11 := L3.new (w11.alloc (.cells #[.int .i64 mt, .slice u11 Yt.length c11] 25)) yt.f yt.t yt.s 27; rw [World.size_alloc] at kY11; have hb11' := below_after hb10' hbA hb10'.size; obtain ⟨-, a0, a1, -, -⟩ := id kB11.1; obtain ⟨-, t0, t1, -, -⟩ := id kT11.1; obtain ⟨⟨-, l0, l1, l2⟩, -, -, -⟩ := id kX11; obtain ⟨⟨-, y0, y1, y2⟩, -, -, -⟩ := id kY11)
          | (go_at_call 15; refine (back_is m Y yt (-1) (bpos_neg _) e3 _ _ kD9.2).mono ?_; rintro e w10 ⟨o10, rfl, hT10, hb10⟩; have hbA := below_call hb10 (below_pair (W := w10) (o := .cells #[.int .i64 m, .slice o10 Y.length Y.length] 25) (o' := .cells #[Value.int IntKind.i64 (yt).f, Value.int IntKind.i64 (yt).t, Value.string (yt).s] 27)); have kB10 := kB9.call hbA; have kT10 := (BX.new (m := m) hT10 25).call (below_one (o := .cells #[Value.int IntKind.i64 (yt).f, Value.int IntKind.i64 (yt).t, Value.string (yt).s] 27)); have kX10 := L3.new (w10.alloc (.cells #[.int .i64 m, .slice o10 Y.length Y.length] 25)) yt.f yt.t yt.s 27; rw [World.size_alloc] at kX10; have hb10' := below_after hb9' hbA hb9'.size; obtain ⟨-, a0, a1, -, -⟩ := id kB10.1))
        go_ret
        exact ⟨rfl, hb12'⟩

    | true =>
      obtain ⟨e1, e2, hok⟩ := send_true hR5
      subst e1 e2
      have hxl : (Y ++ [x]).length = Y.length + 1 := by simp
      simp only [hxl] at kB4 kL4 kS4 hb4' a0 a1 l0 l1 l2 ⊢
      obtain ⟨-, s0, s1, -, -⟩ := id kS4.1
      clear hxl
      go_upto_region 12 with (first
        | (go_at_call 18; refine (same_is _ m _ _ Y kT5.2 kB5.2).mono ?_; rintro e w6 ⟨rfl, hb6⟩; have kBz := kB5.call hb6; have kLz := kL5.call hb6; have hbz := below_after hb5' hb6 hb5'.size; obtain ⟨-, a0, a1, -, -⟩ := id kBz.1)
        | (go_at_call 15; refine (back_is m Y x _ (bpos_at _) hok _ _ kS4.2).mono ?_; rintro e w5 ⟨o5, rfl, hT5, hb5⟩; have hbA := below_call hb5 (below_pair (W := w5) (o := .cells #[.int .i64 m, .slice o5 Y.length Y.length] 25) (o' := .cells #[Value.int IntKind.i64 (x).f, Value.int IntKind.i64 (x).t, Value.string (x).s] 27)); have kB5 := kB4.call hbA; have kL5 := kL4.call hbA; have kT5 := (BX.new (m := m) hT5 25).call (below_one (o := .cells #[Value.int IntKind.i64 (x).f, Value.int IntKind.i64 (x).t, Value.string (x).s] 27)); have kX5 := L3.new (w5.alloc (.cells #[.int .i64 m, .slice o5 Y.length Y.length] 25)) x.f x.t x.s 27; rw [World.size_alloc] at kX5; have hb5' := below_after hb4' hbA hb4'.size; obtain ⟨-, a0, a1, -, -⟩ := id kB5.1; obtain ⟨-, t0, t1, -, -⟩ := id kT5.1; obtain ⟨⟨-, l0, l1, l2⟩, -, -, -⟩ := id kL5; obtain ⟨⟨-, y0, y1, y2⟩, -, -, -⟩ := id kX5))

      go_upto_region 17 with (first
        | (go_at_call 19; refine (k6 _ _ kB8.2).mono ?_; rintro e w9 ⟨u9, c9, rfl, ho9, hb9⟩; rw [hR8] at ho9 ⊢; simp only at ho9 ⊢; have hbA := below_call hb9 (below_one (W := w9) (o := .cells #[.int .i64 md, .slice u9 Yd.length c9] 25)); have kB9 := kB8.call hbA; have kL9 := kL8.call hbA; have kD9 := kD8.call hbA; have hb9' := below_after hb8' hbA hb8'.size; obtain ⟨-, a0, a1, -, -⟩ := id kB9.1; obtain ⟨-, d0, d1, -, -⟩ := id kD9.1)
        | (go_at_call 14; refine (k5 _ _ kB7.2).mono ?_; rintro e w8 ⟨u8, rfl, ho8, hb8⟩; obtain ⟨o8, hu8⟩ := ho8.len; subst hu8; generalize hR8 : bdbl m Y ((x7 : Int) - 100) = R8 at ho8 ⊢; obtain ⟨md, Yd, two⟩ := R8; simp only at ho8 ⊢; have hdl := hdlen hR8; have hbA := below_call hb8 (below_one (W := w8) (o := .cells #[.int .i64 md, .slice o8 Yd.length Yd.length] 25)); have kB8 := kB7.call hbA; have kL8 := kL7.call hbA; have kD8 := BX.new (m := md) (ho8.lts (by omega)) 25; have hb8' := below_after hb7' hbA hb7'.size; obtain ⟨-, a0, a1, -, -⟩ := id kB8.1)
        | (go_at_call 13; refine (ka _ (HV.out.call hbz)).mono ?_; rintro e w7 ⟨x7, hx7, rfl, hb7⟩; have kB7 := kBz.call hb7; have kL7 := kLz.call hb7; have hb7' := below_after hbz hb7 hbz.size; have hw7 : IntKind.i64.wrap ((x7 : Int) - 100) = (x7 : Int) - 100 := IntWalk.i64_in _ (by omega); obtain ⟨-, a0, a1, -, -⟩ := id kB7.1))
      cases two with
      | false =>
        go_wp2_with fail
        go_ret
        exact ⟨rfl, hb9'⟩
      | true =>
        obtain ⟨y, e1, e2, e3, e4, e5⟩ := dbl_true hR8
        subst e1 e2
        have hyl : (Y ++ [y]).length = Y.length + 1 := by simp
        simp only [hyl] at kB9 kL9 kD9 hb9' a0 a1 d0 d1 ⊢
        have k8 := fun V h => k8 V h ((x7 : Int) - 100)
        generalize hRt : btake m Y ((x7 : Int) - 100) = Rt at e4 k8
        obtain ⟨mt, Yt, yt, out⟩ := Rt
        dsimp only at e4
        subst e4
        obtain ⟨-, d0, d1, -, -⟩ := id kD9.1
        clear hyl
        go_wp2_with (first
          | (go_at_call 18; refine (same_is _ m _ _ Y kT11.2 kB11.2).mono ?_; rintro e w12 ⟨rfl, hb12⟩; have hb12' := below_after hb11' hb12 hb11'.size)
          | (go_at_call 20; refine (k8 _ kB10.2).mono ?_; rintro e w11 ⟨u11, c11, rfl, ho11, hb11⟩; have hbA := below_call hb11 (below_pair (W := w11) (o := .cells #[.int .i64 mt, .slice u11 Yt.length c11] 25) (o' := .cells #[Value.int IntKind.i64 (yt).f, Value.int IntKind.i64 (yt).t, Value.string (yt).s] 27)); have kB11 := kB10.call hbA; have kT11 := kT10.call hbA; have kX11 := kX10.call hbA; have kY11 := L3.new (w11.alloc (.cells #[.int .i64 mt, .slice u11 Yt.length c11] 25)) yt.f yt.t yt.s 27; rw [World.size_alloc] at kY11; have hb11' := below_after hb10' hbA hb10'.size; obtain ⟨-, a0, a1, -, -⟩ := id kB11.1; obtain ⟨-, t0, t1, -, -⟩ := id kT11.1; obtain ⟨⟨-, l0, l1, l2⟩, -, -, -⟩ := id kX11; obtain ⟨⟨-, y0, y1, y2⟩, -, -, -⟩ := id kY11)
          | (go_at_call 15; refine (back_is m Y yt (-1) (bpos_neg _) e3 _ _ kD9.2).mono ?_; rintro e w10 ⟨o10, rfl, hT10, hb10⟩; have hbA := below_call hb10 (below_pair (W := w10) (o := .cells #[.int .i64 m, .slice o10 Y.length Y.length] 25) (o' := .cells #[Value.int IntKind.i64 (yt).f, Value.int IntKind.i64 (yt).t, Value.string (yt).s] 27)); have kB10 := kB9.call hbA; have kT10 := (BX.new (m := m) hT10 25).call (below_one (o := .cells #[Value.int IntKind.i64 (yt).f, Value.int IntKind.i64 (yt).t, Value.string (yt).s] 27)); have kX10 := L3.new (w10.alloc (.cells #[.int .i64 m, .slice o10 Y.length Y.length] 25)) yt.f yt.t yt.s 27; rw [World.size_alloc] at kX10; have hb10' := below_after hb9' hbA hb9'.size; obtain ⟨-, a0, a1, -, -⟩ := id kB10.1))
        go_ret
        exact ⟨rfl, hb12'⟩

end Go.Proofs.Ytiipfedjjhpbpaa
