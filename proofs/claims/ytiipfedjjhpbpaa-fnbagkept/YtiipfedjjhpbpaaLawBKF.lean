/-
  The law of bags that stay within their room, walked.
-/
import Derived.Test.YtiipfedjjhpbpaaDBag3
import Derived.Test.YtiipfedjjhpbpaaJoinB43
import Derived.Test.YtiipfedjjhpbpaaDbl4
namespace Go.Proofs.Ytiipfedjjhpbpaa
open Go.RowKit

theorem ifint_is (b : Bool) (w : World) : Calls Try.prog 17 #[.bool b, .int .i64 1] w fun e w' => e = .returned (.int .i64 (if b then 1 else 0)) ∧ w' = w := by
  cases b
  · go_enter Try.func17, Try.ntmps17
    go_wp2
    go_ret
    exact ⟨rfl, rfl⟩
  · go_enter Try.func17, Try.ntmps17
    go_wp2
    go_ret
    exact ⟨rfl, rfl⟩
theorem ifint_no (w : World) : Calls Try.prog 17 #[.bool false, .int .i64 1] w fun e w' => e = .returned (.int .i64 0) ∧ w' = w := ifint_is false w
theorem ifint_yes (w : World) : Calls Try.prog 17 #[.bool true, .int .i64 1] w fun e w' => e = .returned (.int .i64 1) ∧ w' = w := ifint_is true w
theorem bagOk_iff {m : Int} {L : List Lt} : bagOk m L = true ↔ (1 ≤ m ∧ m ≤ 64 ∧ (L.length : Int) ≤ m) ∧ ∀ l ∈ L, letOk l.f l.t l.s.size = true := by
  unfold bagOk
  rw [Bool.and_eq_true, decide_eq_true_iff, List.all_eq_true]
theorem bagOk_more {m : Int} {L : List Lt} {x : Lt} (h : bagOk m L = true) (hm : (L.length : Int) < m) (hx : letOk x.f x.t x.s.size = true) : bagOk m (L ++ [x]) = true := by
  obtain ⟨⟨h1, h2, h3⟩, h4⟩ := bagOk_iff.1 h
  refine bagOk_iff.2 ⟨⟨h1, h2, by rw [List.length_append]; simp; omega⟩, fun l hl => ?_⟩
  rcases List.mem_append.1 hl with hl | hl
  · exact h4 l hl
  · rw [List.mem_singleton] at hl; subst hl; exact hx
theorem bagOk_less {m : Int} {L : List Lt} {p : Nat} (h : bagOk m L = true) (hp : p < L.length) : bagOk m (less L p) = true := by
  obtain ⟨⟨h1, h2, h3⟩, h4⟩ := bagOk_iff.1 h
  have hl := less_len L p hp
  refine bagOk_iff.2 ⟨⟨h1, h2, by omega⟩, fun l hl => ?_⟩
  unfold less at hl
  rcases List.mem_append.1 hl with hl | hl
  · exact h4 l (List.mem_of_mem_take hl)
  · exact h4 l (List.mem_of_mem_drop hl)
/-- What comes of a bag that is ok when a letter is doubled. -/
theorem dbl_facts (m : Int) (Y : List Lt) (k : Int) (h : bagOk m Y = true) :
    bagOk (bdbl m Y k).1 (bdbl m Y k).2.1 = true ∧ (bdbl m Y k).2.2 = (decide (0 < Y.length) && decide ((Y.length : Int) < m)) ∧ (bdbl m Y k).2.1.length = Y.length + (if (bdbl m Y k).2.2 then 1 else 0) := by
  unfold bdbl
  rw [if_pos h]
  obtain ⟨⟨h1, h2, h3⟩, h4⟩ := bagOk_iff.1 h
  by_cases hp : 0 < Y.length
  · rw [dif_pos hp]
    by_cases hm : (Y.length : Int) < m
    · rw [if_pos hm]
      exact ⟨bagOk_more h hm (h4 _ (List.getElem_mem _)), by simp [hp, hm], by simp⟩
    · rw [if_neg hm]
      exact ⟨h, by simp [hm], by simp⟩
  · rw [dif_neg hp]
    exact ⟨h, by simp [hp], by simp⟩
theorem take_facts (m : Int) (Y : List Lt) (k : Int) (h : bagOk m Y = true) :
    bagOk (btake m Y k).1 (btake m Y k).2.1 = true ∧ (btake m Y k).2.2.2 = decide (0 < Y.length) ∧ (btake m Y k).2.1.length + (if (btake m Y k).2.2.2 then 1 else 0) = Y.length := by
  unfold btake
  rw [if_pos h]
  unfold tk
  by_cases hp : 0 < Y.length
  · rw [dif_pos hp]
    have hl := less_len Y (bpos k Y.length) (bpos_lt k _ hp)
    have hb := bpos_lt k Y.length hp
    exact ⟨bagOk_less h hb, by simp [hp], by simp only [if_true]; omega⟩
  · rw [dif_neg hp]
    have hY : Y = [] := List.length_eq_zero_iff.1 (by omega)
    subst hY
    exact ⟨h, by simp, by simp⟩
theorem send_facts (m : Int) (Y : List Lt) (x : Lt) (h : bagOk m Y = true) (hx : letOk x.f x.t x.s.size = true) :
    bagOk (bsend m Y x).1 (bsend m Y x).2.1 = true ∧ (bsend m Y x).2.1.length = Y.length + (if (bsend m Y x).2.2 then 1 else 0) := by
  unfold bsend
  rw [if_pos ⟨h, hx⟩]
  by_cases hm : (Y.length : Int) < m
  · rw [if_pos hm]; exact ⟨bagOk_more h hm hx, by simp⟩
  · rw [if_neg hm]; exact ⟨h, by simp⟩
theorem send_sizes (m : Int) (Y : List Lt) (x : Lt) : (bsend m Y x).2.1.length ≤ Y.length + 1 ∧ ((∀ l ∈ Y, l.s.size ≤ 100000) → x.s.size ≤ 100000 → ∀ l ∈ (bsend m Y x).2.1, l.s.size ≤ 100000) := by
  unfold bsend
  split
  · split
    · refine ⟨by simp, fun hY hx l hl => ?_⟩
      rcases List.mem_append.1 hl with hl | hl
      · exact hY l hl
      · rw [List.mem_singleton] at hl; subst hl; exact hx
    · exact ⟨by simp, fun hY _ l hl => hY l hl⟩
  · exact ⟨by simp, fun _ _ l hl => by simp at hl⟩
/-- A bag in a box, its letters anywhere. -/
def BX (b : Nat) (m : Int) (u : Value) (Y : List Lt) (W : World) : Prop := C2 b (.int .i64 m) u W ∧ Lts W u Y
theorem BX.call {b : Nat} {m : Int} {u : Value} {Y : List Lt} {W W' : World} (h : BX b m u Y W) (hb : Below W.heap.size W W') : BX b m u Y W' := ⟨h.1.call hb, h.2.call hb⟩
theorem BX.new {W : World} {m : Int} {u : Value} {Y : List Lt} (h : Lts W u Y) (t : TypeId) : BX W.heap.size m u Y (W.alloc (.cells #[.int .i64 m, u] t)) := ⟨C2.new W _ _ t, h.call ((Below.refl _ _).alloc (Nat.le_refl _) _)⟩
/-- All that stands ahead of the law's last two questions. -/
def AllK (w : World) (bl : Nat) (x : Lt) (bs : Nat) (ms : Int) (us : Value) (Ys : List Lt) (bd : Nat) (md : Int) (ud : Value) (Yd : List Lt) (bt : Nat) (mt : Int) (ut : Value) (Yt : List Lt) (W : World) : Prop :=
  L3 bl x.f x.t x.s W ∧ BX bs ms us Ys W ∧ BX bd md ud Yd W ∧ BX bt mt ut Yt W ∧ Below w.heap.size w W
theorem AllK.call {w : World} {bl : Nat} {x : Lt} {bs : Nat} {ms : Int} {us : Value} {Ys : List Lt} {bd : Nat} {md : Int} {ud : Value} {Yd : List Lt} {bt : Nat} {mt : Int} {ut : Value} {Yt : List Lt} {W W' : World} (h : AllK w bl x bs ms us Ys bd md ud Yd bt mt ut Yt W) (hb : Below W.heap.size W W') : AllK w bl x bs ms us Ys bd md ud Yd bt mt ut Yt W' :=
  ⟨h.1.call hb, h.2.1.call hb, h.2.2.1.call hb, h.2.2.2.1.call hb, below_after h.2.2.2.2 hb h.2.2.2.2.size⟩
theorem below_one {W : World} {o : Obj} : Below W.heap.size W (W.alloc o) := (Below.refl _ _).alloc (Nat.le_refl _) o
theorem below_pair {W : World} {o o' : Obj} : Below W.heap.size W ((W.alloc o).alloc o') := ((Below.refl _ _).alloc (Nat.le_refl _) o).alloc (by simp only [World.size_alloc]; omega) o'
set_option maxRecDepth 20000 in
set_option maxHeartbeats 4000000 in
theorem lawFnBagKept (v : Value) (L : List UInt8) (w : World) (hV : Byt w v L) :
    Calls Try.prog 3 #[v] w fun e w' => e = .returned (.bool true) ∧ Below w.heap.size w w' := by
  obtain ⟨oa, cap, hv⟩ : ∃ a cap, v = .slice a L.length cap := by
    rcases hV with ⟨rfl, rfl⟩ | ⟨a, cap, rfl, _⟩
    · exact ⟨none, 0, rfl⟩
    · exact ⟨some a, cap, rfl⟩
  by_cases hbig : 1048576 < L.length
  · have hbI : (1048576 : Int) < (L.length : Int) := by omega
    subst hv
    clear hV
    go_enter Try.func3, Try.ntmps3
    go_wp2_with fail
    go_ret
    exact ⟨rfl, Below.refl _ _⟩
  · have hbI : ¬ (1048576 : Int) < (L.length : Int) := by omega
    subst hv
    have k1 := drawSend_is w _ L hV
    have ka := fun (V : World) (h : Byt V (.slice oa L.length cap) L) => at_any 7 (by omega) V _ L h (by omega)
    have HV : Hid (Byt w (.slice oa L.length cap) L) := hV
    clear hV
    go_enter Try.func3, Try.ntmps3
    go_upto_region 4 with (go_at_call 9; refine k1.mono ?_; rintro e w1 ⟨m, ob, cq, Y, x, rfl, hYl, hYs, hxs, hT1, hb1⟩; clear k1)
    have k2 := fun (V : World) (h : Lts V (.slice ob Y.length cq) Y) => bsend_impl V m _ Y x h (fun l hl => by have := hYs l hl; unfold maxLen; omega) (by unfold maxLen; omega)
    have k3 := fun (V : World) (h : Lts V (.slice ob Y.length cq) Y) => bsend_spec V m _ Y x h (fun l hl => by have := hYs l hl; unfold maxLen; omega) (by unfold maxLen; omega)
    have k4 := fun (V : World) (h : Lts V (.slice ob Y.length cq) Y) => bagok_spec V m _ Y h (fun l hl => by have := hYs l hl; unfold maxLen; omega)
    have k5 := fun (V : World) (k : Int) (h : Lts V (.slice ob Y.length cq) Y) => bdbl_impl V m _ Y k h (fun l hl => by have := hYs l hl; unfold maxLen; omega)
    have k6 := fun (V : World) (k : Int) (h : Lts V (.slice ob Y.length cq) Y) => btake_impl V m _ Y k h (fun l hl => by have := hYs l hl; unfold maxLen; omega)
    have k7 := fun V : World => letok_spec x.f x.t x.s (by unfold maxLen; omega) V
    obtain ⟨hSl, hSs⟩ := send_sizes m Y x
    have hSs := hSs hYs hxs
    have kB := BX.new (m := m) hT1 25
    have kB1 : BX w1.heap.size m (.slice ob Y.length cq) Y ((w1.alloc (.cells #[.int .i64 m, .slice ob Y.length cq] 25)).alloc (.cells #[Value.int IntKind.i64 (x).f, Value.int IntKind.i64 (x).t, Value.string (x).s] 27)) := kB.call below_one
    have kL1 : L3 (w1.heap.size + 1) x.f x.t x.s ((w1.alloc (.cells #[.int .i64 m, .slice ob Y.length cq] 25)).alloc (.cells #[Value.int IntKind.i64 (x).f, Value.int IntKind.i64 (x).t, Value.string (x).s] 27)) := by
      have := L3.new (w1.alloc (.cells #[.int .i64 m, .slice ob Y.length cq] 25)) x.f x.t x.s 27
      rwa [World.size_alloc] at this
    have hb2 : Below w.heap.size w ((w1.alloc (.cells #[.int .i64 m, .slice ob Y.length cq] 25)).alloc (.cells #[Value.int IntKind.i64 (x).f, Value.int IntKind.i64 (x).t, Value.string (x).s] 27)) := below_after hb1 below_pair hb1.size
    obtain ⟨-, a0, a1, -, -⟩ := id kB1.1
    obtain ⟨⟨-, l0, l1, l2⟩, -, -, -⟩ := id kL1
    clear kB hT1 hb1
    generalize hR5 : bsend m Y x = R5 at k2 k3 hSl hSs
    obtain ⟨m5, Y5, ok⟩ := R5
    simp only at k2 k3 hSl hSs
    go_upto_region 8 with (first
      | (go_at_call 11; refine (k3 _ kB3.2).mono ?_; rintro e w4 ⟨u4, c4, rfl, ho4, hb4⟩; have hbA := below_call hb4 (below_one (W := w4) (o := .cells #[.int .i64 m5, .slice u4 Y5.length c4] 25)); have kB4 := kB3.call hbA; have kL4 := kL3.call hbA; have kS4 := kS3.call hbA; have hb4' := below_after hb3' hbA hb3'.size; obtain ⟨-, a0, a1, -, -⟩ := id kB4.1; obtain ⟨⟨-, l0, l1, l2⟩, -, -, -⟩ := id kL4; clear kB3 kL3 kS3 hb3' k3)
      | (go_at_call 10; refine (k2 _ kB1.2).mono ?_; rintro e w3 ⟨u3, rfl, ho3, hb3⟩; obtain ⟨o3, hu3⟩ := ho3.len; subst hu3; have hbA := below_call hb3 (below_one (W := w3) (o := .cells #[.int .i64 m5, .slice o3 Y5.length Y5.length] 25)); have kB3 := kB1.call hbA; have kL3 := kL1.call hbA; have kS3 := BX.new (m := m5) (ho3.lts (by omega)) 25; have hb3' := below_after hb2 hbA hb2.size; obtain ⟨-, a0, a1, -, -⟩ := id kB3.1; obtain ⟨⟨-, l0, l1, l2⟩, -, -, -⟩ := id kL3; clear kB1 kL1 hb2 k2))
    cases hbk : bagOk m Y with
    | false =>
      have hR : bsend m Y x = (0, [], false) := by unfold bsend; rw [if_neg (by rw [hbk]; simp)]
      rw [hR] at hR5
      injection hR5 with e1 e2
      injection e2 with e2 e3
      subst e1 e2 e3
      rw [hbk] at k4
      clear k5 k6 k7 hSs hSl
      simp only [List.length_nil] at a0 a1 kB4 kL4 kS4 hb4' ⊢
      go_wp2_with (go_at_call 12; refine (k4 _ kB4.2).mono ?_; rintro e w5 ⟨rfl, hb5⟩; have kS5 := kS4.call hb5; obtain ⟨-, s0, s1, -, -⟩ := id kS5.1; have hb5' := below_after hb4' hb5 hb4'.size)
      go_ret
      exact ⟨rfl, hb5'⟩
    | true =>
      have hDf := fun k : Int => dbl_facts m Y k hbk
      have hTf := fun k : Int => take_facts m Y k hbk
      have hSf := send_facts m Y x hbk
      rw [hR5] at hSf
      simp only at hSf
      rw [hbk] at k4
      generalize bdbl m Y = D at k5 hDf
      generalize btake m Y = T at k6 hTf
      go_upto_region 14 with (first
        | (go_at_call 15; refine (k6 _ _ kB7.2).mono ?_; rintro e w8 ⟨u8, rfl, ho8, hb8⟩; obtain ⟨o8, hu8⟩ := ho8.len; subst hu8; obtain ⟨ft1, ft2, ft3⟩ := hTf ((x6 : Int) - 100); generalize T ((x6 : Int) - 100) = R8 at ho8 ft1 ft2 ft3 ⊢; obtain ⟨m8, Y8, x8, out⟩ := R8; simp only at ho8 ft1 ft2 ft3 ⊢; have hl8 : Y8.length ≤ 1048576 := (by omega); have HT8 : Hid (bagOk m8 Y8 = true ∧ out = decide (0 < Y.length) ∧ Y8.length + (if out = true then 1 else 0) = Y.length) := ⟨ft1, ft2, ft3⟩; clear ft1 ft2 ft3; have hbA := below_call hb8 (below_pair (W := w8) (o := .cells #[.int .i64 m8, .slice o8 Y8.length Y8.length] 25) (o' := .cells #[Value.int IntKind.i64 (x8).f, Value.int IntKind.i64 (x8).t, Value.string (x8).s] 27)); have kB8 := kB7.call hbA; have kL8 := kL7.call hbA; have kS8 := kS7.call hbA; have kD8 := kD7.call hbA; have kT8 := (BX.new (m := m8) (ho8.lts hl8) 25).call (below_one (o := .cells #[Value.int IntKind.i64 (x8).f, Value.int IntKind.i64 (x8).t, Value.string (x8).s] 27)); have hb8' := below_after hb7' hbA hb7'.size; obtain ⟨-, a0, a1, -, -⟩ := id kB8.1; obtain ⟨⟨-, l0, l1, l2⟩, -, -, -⟩ := id kL8; obtain ⟨-, s0, s1, -, -⟩ := id kS8.1; obtain ⟨-, d0, d1, -, -⟩ := id kD8.1; obtain ⟨-, t0, t1, -, -⟩ := id kT8.1; clear kB7 kL7 kS7 kD7 hb7' k6)
        | (go_at_call 14; refine (k5 _ _ kB6.2).mono ?_; rintro e w7 ⟨u7, rfl, ho7, hb7⟩; obtain ⟨o7, hu7⟩ := ho7.len; subst hu7; obtain ⟨fd1, fd2, fd3⟩ := hDf ((x6 : Int) - 100); generalize D ((x6 : Int) - 100) = R7 at ho7 fd1 fd2 fd3 ⊢; obtain ⟨m7, Y7, two⟩ := R7; simp only at ho7 fd1 fd2 fd3 ⊢; have hl7 : Y7.length ≤ 1048576 := (by have : (if two = true then 1 else 0) ≤ 1 := (by split <;> omega); omega); have HD7 : Hid (bagOk m7 Y7 = true ∧ two = (decide (0 < Y.length) && decide ((Y.length : Int) < m)) ∧ Y7.length = Y.length + (if two = true then 1 else 0)) := ⟨fd1, fd2, fd3⟩; clear fd1 fd2 fd3; have hbA := below_call hb7 (below_one (W := w7) (o := .cells #[.int .i64 m7, .slice o7 Y7.length Y7.length] 25)); have kB7 := kB6.call hbA; have kL7 := kL6.call hbA; have kS7 := kS6.call hbA; have kD7 := BX.new (m := m7) (ho7.lts hl7) 25; have hb7' := below_after hb6' hbA hb6'.size; obtain ⟨-, a0, a1, -, -⟩ := id kB7.1; clear kB6 kL6 kS6 hb6' k5)
        | (go_at_call 13; refine (ka _ (HV.out.call hb5')).mono ?_; rintro e w6 ⟨x6, hx6, rfl, hb6⟩; have kB6 := kB5.call hb6; have kL6 := kL5.call hb6; have kS6 := kS5.call hb6; have hb6' := below_after hb5' hb6 hb5'.size; have hw6 : IntKind.i64.wrap ((x6 : Int) - 100) = (x6 : Int) - 100 := IntWalk.i64_in _ (by omega); obtain ⟨-, a0, a1, -, -⟩ := id kB6.1; clear kB5 kL5 kS5 hb5' ka)
        | (go_at_call 12; refine (k4 _ kB4.2).mono ?_; rintro e w5 ⟨rfl, hb5⟩; have kB5 := kB4.call hb5; have kL5 := kL4.call hb5; have kS5 := kS4.call hb5; have hb5' := below_after hb4' hb5 hb4'.size; obtain ⟨-, a0, a1, -, -⟩ := id kB5.1; clear kB4 kL4 kS4 hb4'))
      have hn : (Y.length = 0 ∧ (Y.length : Int) < m) ∨ (0 < Y.length ∧ (Y.length : Int) < m) ∨ (0 < Y.length ∧ ¬ (Y.length : Int) < m) := by
        have := (bagOk_sizes hbk).2.2
        omega
      obtain ⟨V, hVV⟩ : ∃ V, V = ((w8.alloc (.cells #[.int .i64 m8, .slice o8 Y8.length Y8.length] 25)).alloc (.cells #[Value.int IntKind.i64 (x8).f, Value.int IntKind.i64 (x8).t, Value.string (x8).s] 27)) := ⟨_, rfl⟩
      rw [← hVV] at kB8 kL8 kS8 kD8 kT8 hb8' a0 a1 l0 l1 l2 s0 s1 d0 d1 t0 t1 ⊢
      clear hVV
      obtain ⟨n, hnn⟩ : ∃ n, n = Y.length := ⟨_, rfl⟩
      rw [← hnn] at hn HD7 HT8 a1 hSf hYl
      rw [← hnn]
      have hq : ∃ (two' out' : Bool) (n7 n8 : Nat), two = two' ∧ out = out' ∧ Y7.length = n7 ∧ Y8.length = n8 ∧ ((¬ 0 < n ∧ two' = false ∧ out' = false ∧ n = n7 ∧ n = n8) ∨ (0 < n ∧ (n : Int) < m ∧ two' = true ∧ out' = true ∧ n7 = n + 1 ∧ n8 + 1 = n) ∨ (0 < n ∧ ¬ (n : Int) < m ∧ two' = false ∧ out' = true ∧ n = n7 ∧ n8 + 1 = n)) := by
        obtain ⟨-, f1, f2⟩ := HD7.out
        obtain ⟨-, g1, g2⟩ := HT8.out
        refine ⟨two, out, Y7.length, Y8.length, rfl, rfl, rfl, rfl, ?_⟩
        rcases hn with ⟨h1, h2⟩ | ⟨h1, h2⟩ | ⟨h1, h2⟩
        · have e1 : two = false := by rw [f1, h1]; rfl
          have e2 : out = false := by rw [g1, h1]; rfl
          rw [e1] at f2
          rw [e2] at g2
          simp at f2 g2
          exact .inl ⟨by omega, e1, e2, by omega, by omega⟩
        · have e1 : two = true := by rw [f1, decide_eq_true h1, decide_eq_true h2]; rfl
          have e2 : out = true := by rw [g1, decide_eq_true h1]
          rw [e1] at f2
          rw [e2] at g2
          simp at f2 g2
          exact .inr (.inl ⟨h1, h2, e1, e2, by omega, by omega⟩)
        · have e1 : two = false := by rw [f1, decide_eq_true h1, decide_eq_false h2]; rfl
          have e2 : out = true := by rw [g1, decide_eq_true h1]
          rw [e1] at f2
          rw [e2] at g2
          simp at f2 g2
          exact .inr (.inr ⟨h1, h2, e1, e2, by omega, by omega⟩)
      have HO7 : Hid (bagOk m7 Y7 = true) := HD7.out.1
      have HO8 : Hid (bagOk m8 Y8 = true) := HT8.out.1
      obtain ⟨two', out', n7, n8, rfl, rfl, h7, h8, hq⟩ := hq
      have k9 := fun (V : World) (h : Lts V (.slice o7 Y7.length Y7.length) Y7) => (bagok_spec V m7 _ Y7 h (fun l hl => by have := (bagOk_sizes HO7.out).1 l hl; unfold maxLen; omega))
      have k10 := fun (V : World) (h : Lts V (.slice o8 Y8.length Y8.length) Y8) => (bagok_spec V m8 _ Y8 h (fun l hl => by have := (bagOk_sizes HO8.out).1 l hl; unfold maxLen; omega))
      rw [HO7.out, h7] at k9
      rw [HO8.out, h8] at k10
      have ci0 := fun V : World => ifint_no V
      have ci1 := fun V : World => ifint_yes V
      rw [h7] at d1
      rw [h8] at t1
      rcases hq with ⟨q1, rfl, rfl, rfl, rfl⟩ | ⟨q1, q2, rfl, rfl, rfl, q3⟩ | ⟨q1, q2, rfl, rfl, rfl, q3⟩
      · cases hlx : letOk x.f x.t x.s.size with
        | false =>
          rw [hlx] at k7
          have kV : AllK w (w1.heap.size + 1) x w3.heap.size m5 (.slice o3 Y5.length Y5.length) Y5 w7.heap.size m7 (.slice o7 n n) Y7 w8.heap.size m8 (.slice o8 n n) Y8 V := ⟨kL8, ⟨kS8.1, kS8.2⟩, ⟨(by have := kD8.1; rwa [h7] at this), (by have := kD8.2; rwa [h7] at this)⟩, ⟨(by have := kT8.1; rwa [h8] at this), (by have := kT8.2; rwa [h8] at this)⟩, hb8'⟩
          have hn66 : n ≤ 66 := hYl
          have hw1 : IntKind.i64.wrap ((n : Int)) = (n : Int) := IntWalk.i64_in _ (by omega)
          have hp0 : ¬ (0 : Int) < (n : Int) := by omega
          have hb80 := hb8'.size
          clear hn hSf hSs hSl hYs hYl hxs h7 h8 HD7 HT8 HO7 HO8 hnn kS8 kD8 kT8 hR5 hbig
          go_upto_region 16 with fail
          refine wp_region_held_drew (S := fun w' => w'.cell? ⟨w1.heap.size + 1, 0, none⟩ = some (.int .i64 x.f) ∧ w'.cell? ⟨w1.heap.size + 1, 1, none⟩ = some (.int .i64 x.t) ∧ w'.cell? ⟨w1.heap.size + 1, 2, none⟩ = some (.string x.s)) (by kernel_rfl) ⟨c_drew l0, c_drew l1, c_drew l2⟩ (fun hHeld => ?_)
          refine wpAnyH_take (i := 0) (oi := { dst := some 87, op := Op.load 27 (Operand.tmp 4), type := 27, pos := "laws.go:483", after := #[], guard := none }) (v := .agg #[.int .i64 (x).f, .int .i64 (x).t, .string (x).s]) rfl (by kernel_rfl) (by kernel_rfl) (by kernel_rfl) (fun _ _ _ h => h) (Or.inl ⟨by rfl, ?_⟩) (by assumption) ?_
          · (intro wq hq; (try dsimp only at hq); obtain ⟨hq0, hq1, hq2⟩ := hq; go_simp)
          try simp only [Act.put, List.setIfInBounds_toArray, List.set_cons_zero, List.set_cons_succ]
          refine wpAnyH_ready (rs := [1]) (by kernel_rfl) (by simp) ?_
          refine AllReadyH.cons (o := { dst := some 88, op := Op.call { callee := Callee.value (Operand.func 16), args := #[Operand.tmp 87], argTypes := #[27] }, type := 4, pos := "laws.go:483", after := #[{ on := 0, ground := Ground.data }], guard := none }) rfl (fun K hK => ?_) AllReadyH.nil
          go_simp
          go_at_call 16
          refine (k7 _).mono ?_
          rintro e w9 ⟨rfl, hb9⟩
          have e9 : Below V.heap.size V w9 := below_after (by repeat' (first | (with_reducible exact Below.refl _ _) | (with_reducible assumption) | (with_reducible refine below_drewN ?_ _) | (with_reducible refine Below.setCell ?_ ?_ _) | (with_reducible refine Below.alloc ?_ ?_ _) | (with_reducible refine Below.drew ?_) | go_size)) hb9 (by first | (simp; done) | (simp; omega) | omega)
          have kA := kV.call e9
          obtain ⟨⟨⟨-, f0, f1, f2⟩, -, -, -⟩, ⟨⟨-, f3, f4, -, -⟩, -⟩, ⟨⟨-, f5, f6, -, -⟩, -⟩, ⟨⟨-, f7, f8, -, -⟩, -⟩, -⟩ := id kA
          go_simp
          refine hK.out _ _ ⟨f0, f1, f2⟩ (fun hHeld => ?_)
          clear hK K
          refine wpAnyH_take (i := 2) (oi := { dst := some 89, op := Op.move (Operand.tmp 88), type := 4, pos := "laws.go:483", after := #[{ on := 1, ground := Ground.data }, { on := 1, ground := Ground.chain }], guard := none }) (v := .bool false) rfl (by kernel_rfl) (by kernel_rfl) (by kernel_rfl) (fun _ _ _ h => h) (Or.inl ⟨by rfl, ?_⟩) (by assumption) ?_
          · (intro wq hq; go_simp)
          try simp only [Act.put, List.setIfInBounds_toArray, List.set_cons_zero, List.set_cons_succ]
          refine wpAnyH_take (i := 3) (oi := { dst := some 90, op := Op.load 25 (Operand.tmp 5), type := 25, pos := "laws.go:483", after := #[{ on := 2, ground := Ground.guard }], guard := some (2, true) }) (v := undef) rfl (by kernel_rfl) (by kernel_rfl) (by kernel_rfl) (fun _ _ _ h => h) (Or.inr ⟨by rfl, rfl⟩) (by assumption) ?_
          try simp only [Act.put, List.setIfInBounds_toArray, List.set_cons_zero, List.set_cons_succ]
          refine wpAnyH_take (i := 4) (oi := { dst := some 91, op := Op.call { callee := Callee.value (Operand.func 12), args := #[Operand.tmp 90], argTypes := #[25] }, type := 4, pos := "laws.go:483", after := #[{ on := 3, ground := Ground.data }, { on := 2, ground := Ground.chain }, { on := 2, ground := Ground.guard }], guard := some (2, true) }) (v := undef) rfl (by kernel_rfl) (by kernel_rfl) (by kernel_rfl) (fun _ _ _ h => h) (Or.inr ⟨by rfl, rfl⟩) (by assumption) ?_
          try simp only [Act.put, List.setIfInBounds_toArray, List.set_cons_zero, List.set_cons_succ]
          refine wpAnyH_take (i := 5) (oi := { dst := some 92, op := Op.unOp UnOp.not 4 (Operand.tmp 91), type := 4, pos := "laws.go:483", after := #[{ on := 4, ground := Ground.data }, { on := 2, ground := Ground.guard }], guard := some (2, true) }) (v := undef) rfl (by kernel_rfl) (by kernel_rfl) (by kernel_rfl) (fun _ _ _ h => h) (Or.inr ⟨by rfl, rfl⟩) (by assumption) ?_
          try simp only [Act.put, List.setIfInBounds_toArray, List.set_cons_zero, List.set_cons_succ]
          refine wpAnyH_take (i := 6) (oi := { dst := some 93, op := Op.move (Operand.tmp 92), type := 4, pos := "laws.go:483", after := #[{ on := 5, ground := Ground.data }, { on := 4, ground := Ground.chain }, { on := 2, ground := Ground.guard }], guard := some (2, true) }) (v := undef) rfl (by kernel_rfl) (by kernel_rfl) (by kernel_rfl) (fun _ _ _ h => h) (Or.inr ⟨by rfl, rfl⟩) (by assumption) ?_
          try simp only [Act.put, List.setIfInBounds_toArray, List.set_cons_zero, List.set_cons_succ]
          refine wpAnyH_take (i := 7) (oi := { dst := some 94, op := Op.fieldAddr 25 (Operand.tmp 5) 1, type := 0, pos := "laws.go:483", after := #[{ on := 6, ground := Ground.guard }], guard := some (6, false) }) (v := undef) rfl (by kernel_rfl) (by kernel_rfl) (by kernel_rfl) (fun _ _ _ h => h) (Or.inr ⟨by rfl, rfl⟩) (by assumption) ?_
          try simp only [Act.put, List.setIfInBounds_toArray, List.set_cons_zero, List.set_cons_succ]
          refine wpAnyH_take (i := 8) (oi := { dst := some 95, op := Op.load 23 (Operand.tmp 94), type := 23, pos := "laws.go:483", after := #[{ on := 7, ground := Ground.data }, { on := 6, ground := Ground.guard }], guard := some (6, false) }) (v := undef) rfl (by kernel_rfl) (by kernel_rfl) (by kernel_rfl) (fun _ _ _ h => h) (Or.inr ⟨by rfl, rfl⟩) (by assumption) ?_
          try simp only [Act.put, List.setIfInBounds_toArray, List.set_cons_zero, List.set_cons_succ]
          refine wpAnyH_take (i := 9) (oi := { dst := some 96, op := Op.call { callee := Callee.builtin Builtin.len, args := #[Operand.tmp 95], argTypes := #[23] }, type := 3, pos := "laws.go:483", after := #[{ on := 8, ground := Ground.data }, { on := 6, ground := Ground.guard }], guard := some (6, false) }) (v := undef) rfl (by kernel_rfl) (by kernel_rfl) (by kernel_rfl) (fun _ _ _ h => h) (Or.inr ⟨by rfl, rfl⟩) (by assumption) ?_
          try simp only [Act.put, List.setIfInBounds_toArray, List.set_cons_zero, List.set_cons_succ]
          refine wpAnyH_take (i := 10) (oi := { dst := some 97, op := Op.move (Operand.tmp 9), type := 3, pos := "laws.go:483", after := #[{ on := 6, ground := Ground.guard }], guard := some (6, false) }) (v := undef) rfl (by kernel_rfl) (by kernel_rfl) (by kernel_rfl) (fun _ _ _ h => h) (Or.inr ⟨by rfl, rfl⟩) (by assumption) ?_
          try simp only [Act.put, List.setIfInBounds_toArray, List.set_cons_zero, List.set_cons_succ]
          refine wpAnyH_take (i := 11) (oi := { dst := some 98, op := Op.move (Operand.tmp 6), type := 4, pos := "laws.go:483", after := #[{ on := 6, ground := Ground.guard }], guard := some (6, false) }) (v := undef) rfl (by kernel_rfl) (by kernel_rfl) (by kernel_rfl) (fun _ _ _ h => h) (Or.inr ⟨by rfl, rfl⟩) (by assumption) ?_
          try simp only [Act.put, List.setIfInBounds_toArray, List.set_cons_zero, List.set_cons_succ]
          refine wpAnyH_take (i := 12) (oi := { dst := some 99, op := Op.call { callee := Callee.value (Operand.func 17), args := #[Operand.tmp 98, Operand.const (Value.int IntKind.i64 1)], argTypes := #[4, 3] }, type := 3, pos := "laws.go:483", after := #[{ on := 11, ground := Ground.data }, { on := 6, ground := Ground.chain }, { on := 6, ground := Ground.guard }], guard := some (6, false) }) (v := undef) rfl (by kernel_rfl) (by kernel_rfl) (by kernel_rfl) (fun _ _ _ h => h) (Or.inr ⟨by rfl, rfl⟩) (by assumption) ?_
          try simp only [Act.put, List.setIfInBounds_toArray, List.set_cons_zero, List.set_cons_succ]
          refine wpAnyH_take (i := 13) (oi := { dst := some 100, op := Op.binOp BinOp.add 3 (Operand.tmp 97) (Operand.tmp 99) 3, type := 3, pos := "laws.go:483", after := #[{ on := 10, ground := Ground.data }, { on := 12, ground := Ground.data }, { on := 6, ground := Ground.guard }], guard := some (6, false) }) (v := undef) rfl (by kernel_rfl) (by kernel_rfl) (by kernel_rfl) (fun _ _ _ h => h) (Or.inr ⟨by rfl, rfl⟩) (by assumption) ?_
          try simp only [Act.put, List.setIfInBounds_toArray, List.set_cons_zero, List.set_cons_succ]
          refine wpAnyH_take (i := 14) (oi := { dst := some 101, op := Op.binOp BinOp.neq 3 (Operand.tmp 96) (Operand.tmp 100) 3, type := 4, pos := "laws.go:483", after := #[{ on := 9, ground := Ground.data }, { on := 13, ground := Ground.data }, { on := 6, ground := Ground.guard }], guard := some (6, false) }) (v := undef) rfl (by kernel_rfl) (by kernel_rfl) (by kernel_rfl) (fun _ _ _ h => h) (Or.inr ⟨by rfl, rfl⟩) (by assumption) ?_
          try simp only [Act.put, List.setIfInBounds_toArray, List.set_cons_zero, List.set_cons_succ]
          refine wpAnyH_take (i := 15) (oi := { dst := some 102, op := Op.pick (Operand.tmp 93) (Operand.const (Value.bool true)) (Operand.tmp 101), type := 4, pos := "laws.go:483", after := #[{ on := 6, ground := Ground.data }, { on := 14, ground := Ground.data }, { on := 2, ground := Ground.guard }], guard := some (2, true) }) (v := undef) rfl (by kernel_rfl) (by kernel_rfl) (by kernel_rfl) (fun _ _ _ h => h) (Or.inr ⟨by rfl, rfl⟩) (by assumption) ?_
          try simp only [Act.put, List.setIfInBounds_toArray, List.set_cons_zero, List.set_cons_succ]
          refine wpAnyH_take (i := 16) (oi := { dst := some 103, op := Op.pick (Operand.tmp 89) (Operand.tmp 102) (Operand.const (Value.bool false)), type := 4, pos := "laws.go:483", after := #[{ on := 2, ground := Ground.data }, { on := 15, ground := Ground.data }], guard := none }) (v := .bool false) rfl (by kernel_rfl) (by kernel_rfl) (by kernel_rfl) (fun _ _ _ h => h) (Or.inl ⟨by rfl, ?_⟩) (by assumption) ?_
          · (intro wq hq; go_simp)
          try simp only [Act.put, List.setIfInBounds_toArray, List.set_cons_zero, List.set_cons_succ]
          refine wpAnyH_done (by kernel_rfl) ?_ _
          go_wp2_with fail
          go_region_held3 (fun w' => w'.cell? ⟨w7.heap.size, 0, none⟩ = some (.int .i64 m7) ∧ w'.cell? ⟨w7.heap.size, 1, none⟩ = some (.slice o7 n n) ∧ w'.cell? ⟨w8.heap.size, 0, none⟩ = some (.int .i64 m8) ∧ w'.cell? ⟨w8.heap.size, 1, none⟩ = some (.slice o8 n n)) ((refine ⟨?_, ?_, ?_, ?_⟩ <;> (repeat (first | (with_reducible assumption) | (with_reducible refine c_drew ?_))))) ((first
            | ((try go_simp); go_at_call 17; refine (ci0 _).mono ?_; rintro e wz ⟨rfl, hwe⟩; replace hwe := hwe.symm; subst hwe)
            | ((try go_simp); go_at_call 17; refine (ci1 _).mono ?_; rintro e wz ⟨rfl, hwe⟩; replace hwe := hwe.symm; subst hwe)
            | ((try go_simp); go_at_call_of 12 (Value.int IntKind.i64 m8); refine (k10 _ (kE.2.2.2.1.2.call (by repeat' (first | (with_reducible exact Below.refl _ _) | (with_reducible assumption) | (with_reducible refine below_drewN ?_ _) | (with_reducible refine Below.setCell ?_ ?_ _) | (with_reducible refine Below.alloc ?_ ?_ _) | (with_reducible refine Below.drew ?_) | go_size)))).mono ?_; rintro e w12 ⟨rfl, hb12⟩; have e12 : Below w11.heap.size w11 w12 := below_after (by repeat' (first | (with_reducible exact Below.refl _ _) | (with_reducible assumption) | (with_reducible refine below_drewN ?_ _) | (with_reducible refine Below.setCell ?_ ?_ _) | (with_reducible refine Below.alloc ?_ ?_ _) | (with_reducible refine Below.drew ?_) | go_size)) hb12 (by first | (simp; done) | (simp; omega) | omega); have kF := kE.call e12; obtain ⟨-, -, ⟨⟨-, n5, n6, -, -⟩, -⟩, ⟨⟨-, n7, n8', -, -⟩, -⟩, -⟩ := id kF)
            | ((try go_simp); go_at_call_of 12 (Value.int IntKind.i64 m7); refine (k9 _ (kA.2.2.1.2.call (by repeat' (first | (with_reducible exact Below.refl _ _) | (with_reducible assumption) | (with_reducible refine below_drewN ?_ _) | (with_reducible refine Below.setCell ?_ ?_ _) | (with_reducible refine Below.alloc ?_ ?_ _) | (with_reducible refine Below.drew ?_) | go_size)))).mono ?_; rintro e w11 ⟨rfl, hb11⟩; have e11 : Below w9.heap.size w9 w11 := below_after (by repeat' (first | (with_reducible exact Below.refl _ _) | (with_reducible assumption) | (with_reducible refine below_drewN ?_ _) | (with_reducible refine Below.setCell ?_ ?_ _) | (with_reducible refine Below.alloc ?_ ?_ _) | (with_reducible refine Below.drew ?_) | go_size)) hb11 (by first | (simp; done) | (simp; omega) | omega); have kE := kA.call e11; obtain ⟨-, -, ⟨⟨-, m5', m6, -, -⟩, -⟩, ⟨⟨-, m7', m8', -, -⟩, -⟩, -⟩ := id kE)))
          go_wp2_with fail
          go_ret
          exact ⟨rfl, kF.2.2.2.2⟩
        | true =>
          rw [hlx] at k7
          obtain ⟨hs1, hs2⟩ := hSf hlx
          obtain ⟨z, hz⟩ : ∃ z : Nat, z = if ok = true then 1 else 0 := ⟨_, rfl⟩
          rw [← hz] at hs2
          have hz1 : z ≤ 1 := by rw [hz]; split <;> omega
          have ciok : ∀ V : World, Calls Try.prog 17 #[.bool ok, .int .i64 1] V fun e w' => e = .returned (.int .i64 (z : Int)) ∧ w' = V := fun V => by
            have := ifint_is ok V
            rw [hz]
            cases ok <;> exact this
          have k11 := fun (V : World) (h : Lts V (.slice o3 Y5.length Y5.length) Y5) => (bagok_spec V m5 _ Y5 h (fun l hl => by have := hSs l hl; unfold maxLen; omega))
          rw [hs1, hs2] at k11
          rw [hs2] at s1
          have kV : AllK w (w1.heap.size + 1) x w3.heap.size m5 (.slice o3 (n + z) (n + z)) Y5 w7.heap.size m7 (.slice o7 n n) Y7 w8.heap.size m8 (.slice o8 n n) Y8 V := ⟨kL8, ⟨(by have := kS8.1; rwa [hs2] at this), (by have := kS8.2; rwa [hs2] at this)⟩, ⟨(by have := kD8.1; rwa [h7] at this), (by have := kD8.2; rwa [h7] at this)⟩, ⟨(by have := kT8.1; rwa [h8] at this), (by have := kT8.2; rwa [h8] at this)⟩, hb8'⟩
          have hn66 : n ≤ 66 := hYl
          have hw1 : IntKind.i64.wrap ((n : Int)) = (n : Int) := IntWalk.i64_in _ (by omega)
          have hp0 : ¬ (0 : Int) < (n : Int) := by omega
          have hb80 := hb8'.size
          have hwz : IntKind.i64.wrap ((n : Int) + (z : Int)) = (n : Int) + (z : Int) := IntWalk.i64_in _ (by omega)
          clear hz hs1 hs2 hn hSf hSs hSl hYs hYl hxs h7 h8 HD7 HT8 HO7 HO8 hnn kS8 kD8 kT8 hR5 hbig
          go_upto_region 16 with fail
          go_region_held3 (fun w' => w'.cell? ⟨w1.heap.size + 1, 0, none⟩ = some (.int .i64 x.f) ∧ w'.cell? ⟨w1.heap.size + 1, 1, none⟩ = some (.int .i64 x.t) ∧ w'.cell? ⟨w1.heap.size + 1, 2, none⟩ = some (.string x.s) ∧ w'.cell? ⟨w3.heap.size, 0, none⟩ = some (.int .i64 m5) ∧ w'.cell? ⟨w3.heap.size, 1, none⟩ = some (.slice o3 (n + z) (n + z))) ((refine ⟨?_, ?_, ?_, ?_, ?_⟩ <;> (repeat (first | (with_reducible assumption) | (with_reducible refine c_drew ?_))))) ((first
            | ((try go_simp); go_at_call 17; refine (ciok _).mono ?_; rintro e wz ⟨rfl, hwe⟩; replace hwe := hwe.symm; subst hwe)
            | ((try go_simp); go_at_call 12; refine (k11 _ (kA.2.1.2.call (by repeat' (first | (with_reducible exact Below.refl _ _) | (with_reducible assumption) | (with_reducible refine below_drewN ?_ _) | (with_reducible refine Below.setCell ?_ ?_ _) | (with_reducible refine Below.alloc ?_ ?_ _) | (with_reducible refine Below.drew ?_) | go_size)))).mono ?_; rintro e w10 ⟨rfl, hb10⟩; have e10 : Below w9.heap.size w9 w10 := below_after (by repeat' (first | (with_reducible exact Below.refl _ _) | (with_reducible assumption) | (with_reducible refine below_drewN ?_ _) | (with_reducible refine Below.setCell ?_ ?_ _) | (with_reducible refine Below.alloc ?_ ?_ _) | (with_reducible refine Below.drew ?_) | go_size)) hb10 (by first | (simp; done) | (simp; omega) | omega); have kC := kA.call e10; obtain ⟨⟨⟨-, g0, g1, g2⟩, -, -, -⟩, ⟨⟨-, g3, g4, -, -⟩, -⟩, ⟨⟨-, g5, g6, -, -⟩, -⟩, ⟨⟨-, g7, g8, -, -⟩, -⟩, -⟩ := id kC)
            | ((try go_simp); go_at_call 16; refine (k7 _).mono ?_; rintro e w9 ⟨rfl, hb9⟩; have e9 : Below V.heap.size V w9 := below_after (by repeat' (first | (with_reducible exact Below.refl _ _) | (with_reducible assumption) | (with_reducible refine below_drewN ?_ _) | (with_reducible refine Below.setCell ?_ ?_ _) | (with_reducible refine Below.alloc ?_ ?_ _) | (with_reducible refine Below.drew ?_) | go_size)) hb9 (by first | (simp; done) | (simp; omega) | omega); have kA := kV.call e9; obtain ⟨⟨⟨-, f0, f1, f2⟩, -, -, -⟩, ⟨⟨-, f3, f4, -, -⟩, -⟩, ⟨⟨-, f5, f6, -, -⟩, -⟩, ⟨⟨-, f7, f8, -, -⟩, -⟩, -⟩ := id kA)))
          go_wp2_with fail
          go_region_held3 (fun w' => w'.cell? ⟨w7.heap.size, 0, none⟩ = some (.int .i64 m7) ∧ w'.cell? ⟨w7.heap.size, 1, none⟩ = some (.slice o7 n n) ∧ w'.cell? ⟨w8.heap.size, 0, none⟩ = some (.int .i64 m8) ∧ w'.cell? ⟨w8.heap.size, 1, none⟩ = some (.slice o8 n n)) ((refine ⟨?_, ?_, ?_, ?_⟩ <;> (repeat (first | (with_reducible assumption) | (with_reducible refine c_drew ?_))))) ((first
            | ((try go_simp); go_at_call 17; refine (ci0 _).mono ?_; rintro e wz ⟨rfl, hwe⟩; replace hwe := hwe.symm; subst hwe)
            | ((try go_simp); go_at_call 17; refine (ci1 _).mono ?_; rintro e wz ⟨rfl, hwe⟩; replace hwe := hwe.symm; subst hwe)
            | ((try go_simp); go_at_call_of 12 (Value.int IntKind.i64 m8); refine (k10 _ (kE.2.2.2.1.2.call (by repeat' (first | (with_reducible exact Below.refl _ _) | (with_reducible assumption) | (with_reducible refine below_drewN ?_ _) | (with_reducible refine Below.setCell ?_ ?_ _) | (with_reducible refine Below.alloc ?_ ?_ _) | (with_reducible refine Below.drew ?_) | go_size)))).mono ?_; rintro e w12 ⟨rfl, hb12⟩; have e12 : Below w11.heap.size w11 w12 := below_after (by repeat' (first | (with_reducible exact Below.refl _ _) | (with_reducible assumption) | (with_reducible refine below_drewN ?_ _) | (with_reducible refine Below.setCell ?_ ?_ _) | (with_reducible refine Below.alloc ?_ ?_ _) | (with_reducible refine Below.drew ?_) | go_size)) hb12 (by first | (simp; done) | (simp; omega) | omega); have kF := kE.call e12; obtain ⟨-, -, ⟨⟨-, n5, n6, -, -⟩, -⟩, ⟨⟨-, n7, n8', -, -⟩, -⟩, -⟩ := id kF)
            | ((try go_simp); go_at_call_of 12 (Value.int IntKind.i64 m7); refine (k9 _ (kC.2.2.1.2.call (by repeat' (first | (with_reducible exact Below.refl _ _) | (with_reducible assumption) | (with_reducible refine below_drewN ?_ _) | (with_reducible refine Below.setCell ?_ ?_ _) | (with_reducible refine Below.alloc ?_ ?_ _) | (with_reducible refine Below.drew ?_) | go_size)))).mono ?_; rintro e w11 ⟨rfl, hb11⟩; have e11 : Below w10.heap.size w10 w11 := below_after (by repeat' (first | (with_reducible exact Below.refl _ _) | (with_reducible assumption) | (with_reducible refine below_drewN ?_ _) | (with_reducible refine Below.setCell ?_ ?_ _) | (with_reducible refine Below.alloc ?_ ?_ _) | (with_reducible refine Below.drew ?_) | go_size)) hb11 (by first | (simp; done) | (simp; omega) | omega); have kE := kC.call e11; obtain ⟨-, -, ⟨⟨-, m5', m6, -, -⟩, -⟩, ⟨⟨-, m7', m8', -, -⟩, -⟩, -⟩ := id kE)))
          go_wp2_with fail
          go_ret
          exact ⟨rfl, kF.2.2.2.2⟩
      · cases hlx : letOk x.f x.t x.s.size with
        | false =>
          rw [hlx] at k7
          have kV : AllK w (w1.heap.size + 1) x w3.heap.size m5 (.slice o3 Y5.length Y5.length) Y5 w7.heap.size m7 (.slice o7 (n + 1) (n + 1)) Y7 w8.heap.size m8 (.slice o8 n8 n8) Y8 V := ⟨kL8, ⟨kS8.1, kS8.2⟩, ⟨(by have := kD8.1; rwa [h7] at this), (by have := kD8.2; rwa [h7] at this)⟩, ⟨(by have := kT8.1; rwa [h8] at this), (by have := kT8.2; rwa [h8] at this)⟩, hb8'⟩
          have hn66 : n ≤ 66 := hYl
          have hw1 : IntKind.i64.wrap ((n : Int) + 1) = (n : Int) + 1 := IntWalk.i64_in _ (by omega)
          have hw2 : IntKind.i64.wrap ((n : Int) - 1) = (n8 : Int) := by rw [IntWalk.i64_in _ (by omega)]; omega
          have hp0 : (0 : Int) < (n : Int) := by omega
          have hb80 := hb8'.size
          clear hn hSf hSs hSl hYs hYl hxs h7 h8 HD7 HT8 HO7 HO8 hnn kS8 kD8 kT8 hR5 hbig q3
          go_upto_region 16 with fail
          refine wp_region_held_drew (S := fun w' => w'.cell? ⟨w1.heap.size + 1, 0, none⟩ = some (.int .i64 x.f) ∧ w'.cell? ⟨w1.heap.size + 1, 1, none⟩ = some (.int .i64 x.t) ∧ w'.cell? ⟨w1.heap.size + 1, 2, none⟩ = some (.string x.s)) (by kernel_rfl) ⟨c_drew l0, c_drew l1, c_drew l2⟩ (fun hHeld => ?_)
          refine wpAnyH_take (i := 0) (oi := { dst := some 87, op := Op.load 27 (Operand.tmp 4), type := 27, pos := "laws.go:483", after := #[], guard := none }) (v := .agg #[.int .i64 (x).f, .int .i64 (x).t, .string (x).s]) rfl (by kernel_rfl) (by kernel_rfl) (by kernel_rfl) (fun _ _ _ h => h) (Or.inl ⟨by rfl, ?_⟩) (by assumption) ?_
          · (intro wq hq; (try dsimp only at hq); obtain ⟨hq0, hq1, hq2⟩ := hq; go_simp)
          try simp only [Act.put, List.setIfInBounds_toArray, List.set_cons_zero, List.set_cons_succ]
          refine wpAnyH_ready (rs := [1]) (by kernel_rfl) (by simp) ?_
          refine AllReadyH.cons (o := { dst := some 88, op := Op.call { callee := Callee.value (Operand.func 16), args := #[Operand.tmp 87], argTypes := #[27] }, type := 4, pos := "laws.go:483", after := #[{ on := 0, ground := Ground.data }], guard := none }) rfl (fun K hK => ?_) AllReadyH.nil
          go_simp
          go_at_call 16
          refine (k7 _).mono ?_
          rintro e w9 ⟨rfl, hb9⟩
          have e9 : Below V.heap.size V w9 := below_after (by repeat' (first | (with_reducible exact Below.refl _ _) | (with_reducible assumption) | (with_reducible refine below_drewN ?_ _) | (with_reducible refine Below.setCell ?_ ?_ _) | (with_reducible refine Below.alloc ?_ ?_ _) | (with_reducible refine Below.drew ?_) | go_size)) hb9 (by first | (simp; done) | (simp; omega) | omega)
          have kA := kV.call e9
          obtain ⟨⟨⟨-, f0, f1, f2⟩, -, -, -⟩, ⟨⟨-, f3, f4, -, -⟩, -⟩, ⟨⟨-, f5, f6, -, -⟩, -⟩, ⟨⟨-, f7, f8, -, -⟩, -⟩, -⟩ := id kA
          go_simp
          refine hK.out _ _ ⟨f0, f1, f2⟩ (fun hHeld => ?_)
          clear hK K
          refine wpAnyH_take (i := 2) (oi := { dst := some 89, op := Op.move (Operand.tmp 88), type := 4, pos := "laws.go:483", after := #[{ on := 1, ground := Ground.data }, { on := 1, ground := Ground.chain }], guard := none }) (v := .bool false) rfl (by kernel_rfl) (by kernel_rfl) (by kernel_rfl) (fun _ _ _ h => h) (Or.inl ⟨by rfl, ?_⟩) (by assumption) ?_
          · (intro wq hq; go_simp)
          try simp only [Act.put, List.setIfInBounds_toArray, List.set_cons_zero, List.set_cons_succ]
          refine wpAnyH_take (i := 3) (oi := { dst := some 90, op := Op.load 25 (Operand.tmp 5), type := 25, pos := "laws.go:483", after := #[{ on := 2, ground := Ground.guard }], guard := some (2, true) }) (v := undef) rfl (by kernel_rfl) (by kernel_rfl) (by kernel_rfl) (fun _ _ _ h => h) (Or.inr ⟨by rfl, rfl⟩) (by assumption) ?_
          try simp only [Act.put, List.setIfInBounds_toArray, List.set_cons_zero, List.set_cons_succ]
          refine wpAnyH_take (i := 4) (oi := { dst := some 91, op := Op.call { callee := Callee.value (Operand.func 12), args := #[Operand.tmp 90], argTypes := #[25] }, type := 4, pos := "laws.go:483", after := #[{ on := 3, ground := Ground.data }, { on := 2, ground := Ground.chain }, { on := 2, ground := Ground.guard }], guard := some (2, true) }) (v := undef) rfl (by kernel_rfl) (by kernel_rfl) (by kernel_rfl) (fun _ _ _ h => h) (Or.inr ⟨by rfl, rfl⟩) (by assumption) ?_
          try simp only [Act.put, List.setIfInBounds_toArray, List.set_cons_zero, List.set_cons_succ]
          refine wpAnyH_take (i := 5) (oi := { dst := some 92, op := Op.unOp UnOp.not 4 (Operand.tmp 91), type := 4, pos := "laws.go:483", after := #[{ on := 4, ground := Ground.data }, { on := 2, ground := Ground.guard }], guard := some (2, true) }) (v := undef) rfl (by kernel_rfl) (by kernel_rfl) (by kernel_rfl) (fun _ _ _ h => h) (Or.inr ⟨by rfl, rfl⟩) (by assumption) ?_
          try simp only [Act.put, List.setIfInBounds_toArray, List.set_cons_zero, List.set_cons_succ]
          refine wpAnyH_take (i := 6) (oi := { dst := some 93, op := Op.move (Operand.tmp 92), type := 4, pos := "laws.go:483", after := #[{ on := 5, ground := Ground.data }, { on := 4, ground := Ground.chain }, { on := 2, ground := Ground.guard }], guard := some (2, true) }) (v := undef) rfl (by kernel_rfl) (by kernel_rfl) (by kernel_rfl) (fun _ _ _ h => h) (Or.inr ⟨by rfl, rfl⟩) (by assumption) ?_
          try simp only [Act.put, List.setIfInBounds_toArray, List.set_cons_zero, List.set_cons_succ]
          refine wpAnyH_take (i := 7) (oi := { dst := some 94, op := Op.fieldAddr 25 (Operand.tmp 5) 1, type := 0, pos := "laws.go:483", after := #[{ on := 6, ground := Ground.guard }], guard := some (6, false) }) (v := undef) rfl (by kernel_rfl) (by kernel_rfl) (by kernel_rfl) (fun _ _ _ h => h) (Or.inr ⟨by rfl, rfl⟩) (by assumption) ?_
          try simp only [Act.put, List.setIfInBounds_toArray, List.set_cons_zero, List.set_cons_succ]
          refine wpAnyH_take (i := 8) (oi := { dst := some 95, op := Op.load 23 (Operand.tmp 94), type := 23, pos := "laws.go:483", after := #[{ on := 7, ground := Ground.data }, { on := 6, ground := Ground.guard }], guard := some (6, false) }) (v := undef) rfl (by kernel_rfl) (by kernel_rfl) (by kernel_rfl) (fun _ _ _ h => h) (Or.inr ⟨by rfl, rfl⟩) (by assumption) ?_
          try simp only [Act.put, List.setIfInBounds_toArray, List.set_cons_zero, List.set_cons_succ]
          refine wpAnyH_take (i := 9) (oi := { dst := some 96, op := Op.call { callee := Callee.builtin Builtin.len, args := #[Operand.tmp 95], argTypes := #[23] }, type := 3, pos := "laws.go:483", after := #[{ on := 8, ground := Ground.data }, { on := 6, ground := Ground.guard }], guard := some (6, false) }) (v := undef) rfl (by kernel_rfl) (by kernel_rfl) (by kernel_rfl) (fun _ _ _ h => h) (Or.inr ⟨by rfl, rfl⟩) (by assumption) ?_
          try simp only [Act.put, List.setIfInBounds_toArray, List.set_cons_zero, List.set_cons_succ]
          refine wpAnyH_take (i := 10) (oi := { dst := some 97, op := Op.move (Operand.tmp 9), type := 3, pos := "laws.go:483", after := #[{ on := 6, ground := Ground.guard }], guard := some (6, false) }) (v := undef) rfl (by kernel_rfl) (by kernel_rfl) (by kernel_rfl) (fun _ _ _ h => h) (Or.inr ⟨by rfl, rfl⟩) (by assumption) ?_
          try simp only [Act.put, List.setIfInBounds_toArray, List.set_cons_zero, List.set_cons_succ]
          refine wpAnyH_take (i := 11) (oi := { dst := some 98, op := Op.move (Operand.tmp 6), type := 4, pos := "laws.go:483", after := #[{ on := 6, ground := Ground.guard }], guard := some (6, false) }) (v := undef) rfl (by kernel_rfl) (by kernel_rfl) (by kernel_rfl) (fun _ _ _ h => h) (Or.inr ⟨by rfl, rfl⟩) (by assumption) ?_
          try simp only [Act.put, List.setIfInBounds_toArray, List.set_cons_zero, List.set_cons_succ]
          refine wpAnyH_take (i := 12) (oi := { dst := some 99, op := Op.call { callee := Callee.value (Operand.func 17), args := #[Operand.tmp 98, Operand.const (Value.int IntKind.i64 1)], argTypes := #[4, 3] }, type := 3, pos := "laws.go:483", after := #[{ on := 11, ground := Ground.data }, { on := 6, ground := Ground.chain }, { on := 6, ground := Ground.guard }], guard := some (6, false) }) (v := undef) rfl (by kernel_rfl) (by kernel_rfl) (by kernel_rfl) (fun _ _ _ h => h) (Or.inr ⟨by rfl, rfl⟩) (by assumption) ?_
          try simp only [Act.put, List.setIfInBounds_toArray, List.set_cons_zero, List.set_cons_succ]
          refine wpAnyH_take (i := 13) (oi := { dst := some 100, op := Op.binOp BinOp.add 3 (Operand.tmp 97) (Operand.tmp 99) 3, type := 3, pos := "laws.go:483", after := #[{ on := 10, ground := Ground.data }, { on := 12, ground := Ground.data }, { on := 6, ground := Ground.guard }], guard := some (6, false) }) (v := undef) rfl (by kernel_rfl) (by kernel_rfl) (by kernel_rfl) (fun _ _ _ h => h) (Or.inr ⟨by rfl, rfl⟩) (by assumption) ?_
          try simp only [Act.put, List.setIfInBounds_toArray, List.set_cons_zero, List.set_cons_succ]
          refine wpAnyH_take (i := 14) (oi := { dst := some 101, op := Op.binOp BinOp.neq 3 (Operand.tmp 96) (Operand.tmp 100) 3, type := 4, pos := "laws.go:483", after := #[{ on := 9, ground := Ground.data }, { on := 13, ground := Ground.data }, { on := 6, ground := Ground.guard }], guard := some (6, false) }) (v := undef) rfl (by kernel_rfl) (by kernel_rfl) (by kernel_rfl) (fun _ _ _ h => h) (Or.inr ⟨by rfl, rfl⟩) (by assumption) ?_
          try simp only [Act.put, List.setIfInBounds_toArray, List.set_cons_zero, List.set_cons_succ]
          refine wpAnyH_take (i := 15) (oi := { dst := some 102, op := Op.pick (Operand.tmp 93) (Operand.const (Value.bool true)) (Operand.tmp 101), type := 4, pos := "laws.go:483", after := #[{ on := 6, ground := Ground.data }, { on := 14, ground := Ground.data }, { on := 2, ground := Ground.guard }], guard := some (2, true) }) (v := undef) rfl (by kernel_rfl) (by kernel_rfl) (by kernel_rfl) (fun _ _ _ h => h) (Or.inr ⟨by rfl, rfl⟩) (by assumption) ?_
          try simp only [Act.put, List.setIfInBounds_toArray, List.set_cons_zero, List.set_cons_succ]
          refine wpAnyH_take (i := 16) (oi := { dst := some 103, op := Op.pick (Operand.tmp 89) (Operand.tmp 102) (Operand.const (Value.bool false)), type := 4, pos := "laws.go:483", after := #[{ on := 2, ground := Ground.data }, { on := 15, ground := Ground.data }], guard := none }) (v := .bool false) rfl (by kernel_rfl) (by kernel_rfl) (by kernel_rfl) (fun _ _ _ h => h) (Or.inl ⟨by rfl, ?_⟩) (by assumption) ?_
          · (intro wq hq; go_simp)
          try simp only [Act.put, List.setIfInBounds_toArray, List.set_cons_zero, List.set_cons_succ]
          refine wpAnyH_done (by kernel_rfl) ?_ _
          go_wp2_with fail
          go_region_held3 (fun w' => w'.cell? ⟨w7.heap.size, 0, none⟩ = some (.int .i64 m7) ∧ w'.cell? ⟨w7.heap.size, 1, none⟩ = some (.slice o7 (n + 1) (n + 1)) ∧ w'.cell? ⟨w8.heap.size, 0, none⟩ = some (.int .i64 m8) ∧ w'.cell? ⟨w8.heap.size, 1, none⟩ = some (.slice o8 n8 n8)) ((refine ⟨?_, ?_, ?_, ?_⟩ <;> (repeat (first | (with_reducible assumption) | (with_reducible refine c_drew ?_))))) ((first
            | ((try go_simp); go_at_call 17; refine (ci0 _).mono ?_; rintro e wz ⟨rfl, hwe⟩; replace hwe := hwe.symm; subst hwe)
            | ((try go_simp); go_at_call 17; refine (ci1 _).mono ?_; rintro e wz ⟨rfl, hwe⟩; replace hwe := hwe.symm; subst hwe)
            | ((try go_simp); go_at_call_of 12 (Value.int IntKind.i64 m8); refine (k10 _ (kE.2.2.2.1.2.call (by repeat' (first | (with_reducible exact Below.refl _ _) | (with_reducible assumption) | (with_reducible refine below_drewN ?_ _) | (with_reducible refine Below.setCell ?_ ?_ _) | (with_reducible refine Below.alloc ?_ ?_ _) | (with_reducible refine Below.drew ?_) | go_size)))).mono ?_; rintro e w12 ⟨rfl, hb12⟩; have e12 : Below w11.heap.size w11 w12 := below_after (by repeat' (first | (with_reducible exact Below.refl _ _) | (with_reducible assumption) | (with_reducible refine below_drewN ?_ _) | (with_reducible refine Below.setCell ?_ ?_ _) | (with_reducible refine Below.alloc ?_ ?_ _) | (with_reducible refine Below.drew ?_) | go_size)) hb12 (by first | (simp; done) | (simp; omega) | omega); have kF := kE.call e12; obtain ⟨-, -, ⟨⟨-, n5, n6, -, -⟩, -⟩, ⟨⟨-, n7, n8', -, -⟩, -⟩, -⟩ := id kF)
            | ((try go_simp); go_at_call_of 12 (Value.int IntKind.i64 m7); refine (k9 _ (kA.2.2.1.2.call (by repeat' (first | (with_reducible exact Below.refl _ _) | (with_reducible assumption) | (with_reducible refine below_drewN ?_ _) | (with_reducible refine Below.setCell ?_ ?_ _) | (with_reducible refine Below.alloc ?_ ?_ _) | (with_reducible refine Below.drew ?_) | go_size)))).mono ?_; rintro e w11 ⟨rfl, hb11⟩; have e11 : Below w9.heap.size w9 w11 := below_after (by repeat' (first | (with_reducible exact Below.refl _ _) | (with_reducible assumption) | (with_reducible refine below_drewN ?_ _) | (with_reducible refine Below.setCell ?_ ?_ _) | (with_reducible refine Below.alloc ?_ ?_ _) | (with_reducible refine Below.drew ?_) | go_size)) hb11 (by first | (simp; done) | (simp; omega) | omega); have kE := kA.call e11; obtain ⟨-, -, ⟨⟨-, m5', m6, -, -⟩, -⟩, ⟨⟨-, m7', m8', -, -⟩, -⟩, -⟩ := id kE)))
          go_wp2_with fail
          go_ret
          exact ⟨rfl, kF.2.2.2.2⟩
        | true =>
          rw [hlx] at k7
          obtain ⟨hs1, hs2⟩ := hSf hlx
          obtain ⟨z, hz⟩ : ∃ z : Nat, z = if ok = true then 1 else 0 := ⟨_, rfl⟩
          rw [← hz] at hs2
          have hz1 : z ≤ 1 := by rw [hz]; split <;> omega
          have ciok : ∀ V : World, Calls Try.prog 17 #[.bool ok, .int .i64 1] V fun e w' => e = .returned (.int .i64 (z : Int)) ∧ w' = V := fun V => by
            have := ifint_is ok V
            rw [hz]
            cases ok <;> exact this
          have k11 := fun (V : World) (h : Lts V (.slice o3 Y5.length Y5.length) Y5) => (bagok_spec V m5 _ Y5 h (fun l hl => by have := hSs l hl; unfold maxLen; omega))
          rw [hs1, hs2] at k11
          rw [hs2] at s1
          have kV : AllK w (w1.heap.size + 1) x w3.heap.size m5 (.slice o3 (n + z) (n + z)) Y5 w7.heap.size m7 (.slice o7 (n + 1) (n + 1)) Y7 w8.heap.size m8 (.slice o8 n8 n8) Y8 V := ⟨kL8, ⟨(by have := kS8.1; rwa [hs2] at this), (by have := kS8.2; rwa [hs2] at this)⟩, ⟨(by have := kD8.1; rwa [h7] at this), (by have := kD8.2; rwa [h7] at this)⟩, ⟨(by have := kT8.1; rwa [h8] at this), (by have := kT8.2; rwa [h8] at this)⟩, hb8'⟩
          have hn66 : n ≤ 66 := hYl
          have hw1 : IntKind.i64.wrap ((n : Int) + 1) = (n : Int) + 1 := IntWalk.i64_in _ (by omega)
          have hw2 : IntKind.i64.wrap ((n : Int) - 1) = (n8 : Int) := by rw [IntWalk.i64_in _ (by omega)]; omega
          have hp0 : (0 : Int) < (n : Int) := by omega
          have hb80 := hb8'.size
          have hwz : IntKind.i64.wrap ((n : Int) + (z : Int)) = (n : Int) + (z : Int) := IntWalk.i64_in _ (by omega)
          clear hz hs1 hs2 hn hSf hSs hSl hYs hYl hxs h7 h8 HD7 HT8 HO7 HO8 hnn kS8 kD8 kT8 hR5 hbig q3
          go_upto_region 16 with fail
          go_region_held3 (fun w' => w'.cell? ⟨w1.heap.size + 1, 0, none⟩ = some (.int .i64 x.f) ∧ w'.cell? ⟨w1.heap.size + 1, 1, none⟩ = some (.int .i64 x.t) ∧ w'.cell? ⟨w1.heap.size + 1, 2, none⟩ = some (.string x.s) ∧ w'.cell? ⟨w3.heap.size, 0, none⟩ = some (.int .i64 m5) ∧ w'.cell? ⟨w3.heap.size, 1, none⟩ = some (.slice o3 (n + z) (n + z))) ((refine ⟨?_, ?_, ?_, ?_, ?_⟩ <;> (repeat (first | (with_reducible assumption) | (with_reducible refine c_drew ?_))))) ((first
            | ((try go_simp); go_at_call 17; refine (ciok _).mono ?_; rintro e wz ⟨rfl, hwe⟩; replace hwe := hwe.symm; subst hwe)
            | ((try go_simp); go_at_call 12; refine (k11 _ (kA.2.1.2.call (by repeat' (first | (with_reducible exact Below.refl _ _) | (with_reducible assumption) | (with_reducible refine below_drewN ?_ _) | (with_reducible refine Below.setCell ?_ ?_ _) | (with_reducible refine Below.alloc ?_ ?_ _) | (with_reducible refine Below.drew ?_) | go_size)))).mono ?_; rintro e w10 ⟨rfl, hb10⟩; have e10 : Below w9.heap.size w9 w10 := below_after (by repeat' (first | (with_reducible exact Below.refl _ _) | (with_reducible assumption) | (with_reducible refine below_drewN ?_ _) | (with_reducible refine Below.setCell ?_ ?_ _) | (with_reducible refine Below.alloc ?_ ?_ _) | (with_reducible refine Below.drew ?_) | go_size)) hb10 (by first | (simp; done) | (simp; omega) | omega); have kC := kA.call e10; obtain ⟨⟨⟨-, g0, g1, g2⟩, -, -, -⟩, ⟨⟨-, g3, g4, -, -⟩, -⟩, ⟨⟨-, g5, g6, -, -⟩, -⟩, ⟨⟨-, g7, g8, -, -⟩, -⟩, -⟩ := id kC)
            | ((try go_simp); go_at_call 16; refine (k7 _).mono ?_; rintro e w9 ⟨rfl, hb9⟩; have e9 : Below V.heap.size V w9 := below_after (by repeat' (first | (with_reducible exact Below.refl _ _) | (with_reducible assumption) | (with_reducible refine below_drewN ?_ _) | (with_reducible refine Below.setCell ?_ ?_ _) | (with_reducible refine Below.alloc ?_ ?_ _) | (with_reducible refine Below.drew ?_) | go_size)) hb9 (by first | (simp; done) | (simp; omega) | omega); have kA := kV.call e9; obtain ⟨⟨⟨-, f0, f1, f2⟩, -, -, -⟩, ⟨⟨-, f3, f4, -, -⟩, -⟩, ⟨⟨-, f5, f6, -, -⟩, -⟩, ⟨⟨-, f7, f8, -, -⟩, -⟩, -⟩ := id kA)))
          go_wp2_with fail
          go_region_held3 (fun w' => w'.cell? ⟨w7.heap.size, 0, none⟩ = some (.int .i64 m7) ∧ w'.cell? ⟨w7.heap.size, 1, none⟩ = some (.slice o7 (n + 1) (n + 1)) ∧ w'.cell? ⟨w8.heap.size, 0, none⟩ = some (.int .i64 m8) ∧ w'.cell? ⟨w8.heap.size, 1, none⟩ = some (.slice o8 n8 n8)) ((refine ⟨?_, ?_, ?_, ?_⟩ <;> (repeat (first | (with_reducible assumption) | (with_reducible refine c_drew ?_))))) ((first
            | ((try go_simp); go_at_call 17; refine (ci0 _).mono ?_; rintro e wz ⟨rfl, hwe⟩; replace hwe := hwe.symm; subst hwe)
            | ((try go_simp); go_at_call 17; refine (ci1 _).mono ?_; rintro e wz ⟨rfl, hwe⟩; replace hwe := hwe.symm; subst hwe)
            | ((try go_simp); go_at_call_of 12 (Value.int IntKind.i64 m8); refine (k10 _ (kE.2.2.2.1.2.call (by repeat' (first | (with_reducible exact Below.refl _ _) | (with_reducible assumption) | (with_reducible refine below_drewN ?_ _) | (with_reducible refine Below.setCell ?_ ?_ _) | (with_reducible refine Below.alloc ?_ ?_ _) | (with_reducible refine Below.drew ?_) | go_size)))).mono ?_; rintro e w12 ⟨rfl, hb12⟩; have e12 : Below w11.heap.size w11 w12 := below_after (by repeat' (first | (with_reducible exact Below.refl _ _) | (with_reducible assumption) | (with_reducible refine below_drewN ?_ _) | (with_reducible refine Below.setCell ?_ ?_ _) | (with_reducible refine Below.alloc ?_ ?_ _) | (with_reducible refine Below.drew ?_) | go_size)) hb12 (by first | (simp; done) | (simp; omega) | omega); have kF := kE.call e12; obtain ⟨-, -, ⟨⟨-, n5, n6, -, -⟩, -⟩, ⟨⟨-, n7, n8', -, -⟩, -⟩, -⟩ := id kF)
            | ((try go_simp); go_at_call_of 12 (Value.int IntKind.i64 m7); refine (k9 _ (kC.2.2.1.2.call (by repeat' (first | (with_reducible exact Below.refl _ _) | (with_reducible assumption) | (with_reducible refine below_drewN ?_ _) | (with_reducible refine Below.setCell ?_ ?_ _) | (with_reducible refine Below.alloc ?_ ?_ _) | (with_reducible refine Below.drew ?_) | go_size)))).mono ?_; rintro e w11 ⟨rfl, hb11⟩; have e11 : Below w10.heap.size w10 w11 := below_after (by repeat' (first | (with_reducible exact Below.refl _ _) | (with_reducible assumption) | (with_reducible refine below_drewN ?_ _) | (with_reducible refine Below.setCell ?_ ?_ _) | (with_reducible refine Below.alloc ?_ ?_ _) | (with_reducible refine Below.drew ?_) | go_size)) hb11 (by first | (simp; done) | (simp; omega) | omega); have kE := kC.call e11; obtain ⟨-, -, ⟨⟨-, m5', m6, -, -⟩, -⟩, ⟨⟨-, m7', m8', -, -⟩, -⟩, -⟩ := id kE)))
          go_wp2_with fail
          go_ret
          exact ⟨rfl, kF.2.2.2.2⟩
      · cases hlx : letOk x.f x.t x.s.size with
        | false =>
          rw [hlx] at k7
          have kV : AllK w (w1.heap.size + 1) x w3.heap.size m5 (.slice o3 Y5.length Y5.length) Y5 w7.heap.size m7 (.slice o7 n n) Y7 w8.heap.size m8 (.slice o8 n8 n8) Y8 V := ⟨kL8, ⟨kS8.1, kS8.2⟩, ⟨(by have := kD8.1; rwa [h7] at this), (by have := kD8.2; rwa [h7] at this)⟩, ⟨(by have := kT8.1; rwa [h8] at this), (by have := kT8.2; rwa [h8] at this)⟩, hb8'⟩
          have hn66 : n ≤ 66 := hYl
          have hw1 : IntKind.i64.wrap ((n : Int)) = (n : Int) := IntWalk.i64_in _ (by omega)
          have hw2 : IntKind.i64.wrap ((n : Int) - 1) = (n8 : Int) := by rw [IntWalk.i64_in _ (by omega)]; omega
          have hp0 : (0 : Int) < (n : Int) := by omega
          have hb80 := hb8'.size
          clear hn hSf hSs hSl hYs hYl hxs h7 h8 HD7 HT8 HO7 HO8 hnn kS8 kD8 kT8 hR5 hbig q3
          go_upto_region 16 with fail
          refine wp_region_held_drew (S := fun w' => w'.cell? ⟨w1.heap.size + 1, 0, none⟩ = some (.int .i64 x.f) ∧ w'.cell? ⟨w1.heap.size + 1, 1, none⟩ = some (.int .i64 x.t) ∧ w'.cell? ⟨w1.heap.size + 1, 2, none⟩ = some (.string x.s)) (by kernel_rfl) ⟨c_drew l0, c_drew l1, c_drew l2⟩ (fun hHeld => ?_)
          refine wpAnyH_take (i := 0) (oi := { dst := some 87, op := Op.load 27 (Operand.tmp 4), type := 27, pos := "laws.go:483", after := #[], guard := none }) (v := .agg #[.int .i64 (x).f, .int .i64 (x).t, .string (x).s]) rfl (by kernel_rfl) (by kernel_rfl) (by kernel_rfl) (fun _ _ _ h => h) (Or.inl ⟨by rfl, ?_⟩) (by assumption) ?_
          · (intro wq hq; (try dsimp only at hq); obtain ⟨hq0, hq1, hq2⟩ := hq; go_simp)
          try simp only [Act.put, List.setIfInBounds_toArray, List.set_cons_zero, List.set_cons_succ]
          refine wpAnyH_ready (rs := [1]) (by kernel_rfl) (by simp) ?_
          refine AllReadyH.cons (o := { dst := some 88, op := Op.call { callee := Callee.value (Operand.func 16), args := #[Operand.tmp 87], argTypes := #[27] }, type := 4, pos := "laws.go:483", after := #[{ on := 0, ground := Ground.data }], guard := none }) rfl (fun K hK => ?_) AllReadyH.nil
          go_simp
          go_at_call 16
          refine (k7 _).mono ?_
          rintro e w9 ⟨rfl, hb9⟩
          have e9 : Below V.heap.size V w9 := below_after (by repeat' (first | (with_reducible exact Below.refl _ _) | (with_reducible assumption) | (with_reducible refine below_drewN ?_ _) | (with_reducible refine Below.setCell ?_ ?_ _) | (with_reducible refine Below.alloc ?_ ?_ _) | (with_reducible refine Below.drew ?_) | go_size)) hb9 (by first | (simp; done) | (simp; omega) | omega)
          have kA := kV.call e9
          obtain ⟨⟨⟨-, f0, f1, f2⟩, -, -, -⟩, ⟨⟨-, f3, f4, -, -⟩, -⟩, ⟨⟨-, f5, f6, -, -⟩, -⟩, ⟨⟨-, f7, f8, -, -⟩, -⟩, -⟩ := id kA
          go_simp
          refine hK.out _ _ ⟨f0, f1, f2⟩ (fun hHeld => ?_)
          clear hK K
          refine wpAnyH_take (i := 2) (oi := { dst := some 89, op := Op.move (Operand.tmp 88), type := 4, pos := "laws.go:483", after := #[{ on := 1, ground := Ground.data }, { on := 1, ground := Ground.chain }], guard := none }) (v := .bool false) rfl (by kernel_rfl) (by kernel_rfl) (by kernel_rfl) (fun _ _ _ h => h) (Or.inl ⟨by rfl, ?_⟩) (by assumption) ?_
          · (intro wq hq; go_simp)
          try simp only [Act.put, List.setIfInBounds_toArray, List.set_cons_zero, List.set_cons_succ]
          refine wpAnyH_take (i := 3) (oi := { dst := some 90, op := Op.load 25 (Operand.tmp 5), type := 25, pos := "laws.go:483", after := #[{ on := 2, ground := Ground.guard }], guard := some (2, true) }) (v := undef) rfl (by kernel_rfl) (by kernel_rfl) (by kernel_rfl) (fun _ _ _ h => h) (Or.inr ⟨by rfl, rfl⟩) (by assumption) ?_
          try simp only [Act.put, List.setIfInBounds_toArray, List.set_cons_zero, List.set_cons_succ]
          refine wpAnyH_take (i := 4) (oi := { dst := some 91, op := Op.call { callee := Callee.value (Operand.func 12), args := #[Operand.tmp 90], argTypes := #[25] }, type := 4, pos := "laws.go:483", after := #[{ on := 3, ground := Ground.data }, { on := 2, ground := Ground.chain }, { on := 2, ground := Ground.guard }], guard := some (2, true) }) (v := undef) rfl (by kernel_rfl) (by kernel_rfl) (by kernel_rfl) (fun _ _ _ h => h) (Or.inr ⟨by rfl, rfl⟩) (by assumption) ?_
          try simp only [Act.put, List.setIfInBounds_toArray, List.set_cons_zero, List.set_cons_succ]
          refine wpAnyH_take (i := 5) (oi := { dst := some 92, op := Op.unOp UnOp.not 4 (Operand.tmp 91), type := 4, pos := "laws.go:483", after := #[{ on := 4, ground := Ground.data }, { on := 2, ground := Ground.guard }], guard := some (2, true) }) (v := undef) rfl (by kernel_rfl) (by kernel_rfl) (by kernel_rfl) (fun _ _ _ h => h) (Or.inr ⟨by rfl, rfl⟩) (by assumption) ?_
          try simp only [Act.put, List.setIfInBounds_toArray, List.set_cons_zero, List.set_cons_succ]
          refine wpAnyH_take (i := 6) (oi := { dst := some 93, op := Op.move (Operand.tmp 92), type := 4, pos := "laws.go:483", after := #[{ on := 5, ground := Ground.data }, { on := 4, ground := Ground.chain }, { on := 2, ground := Ground.guard }], guard := some (2, true) }) (v := undef) rfl (by kernel_rfl) (by kernel_rfl) (by kernel_rfl) (fun _ _ _ h => h) (Or.inr ⟨by rfl, rfl⟩) (by assumption) ?_
          try simp only [Act.put, List.setIfInBounds_toArray, List.set_cons_zero, List.set_cons_succ]
          refine wpAnyH_take (i := 7) (oi := { dst := some 94, op := Op.fieldAddr 25 (Operand.tmp 5) 1, type := 0, pos := "laws.go:483", after := #[{ on := 6, ground := Ground.guard }], guard := some (6, false) }) (v := undef) rfl (by kernel_rfl) (by kernel_rfl) (by kernel_rfl) (fun _ _ _ h => h) (Or.inr ⟨by rfl, rfl⟩) (by assumption) ?_
          try simp only [Act.put, List.setIfInBounds_toArray, List.set_cons_zero, List.set_cons_succ]
          refine wpAnyH_take (i := 8) (oi := { dst := some 95, op := Op.load 23 (Operand.tmp 94), type := 23, pos := "laws.go:483", after := #[{ on := 7, ground := Ground.data }, { on := 6, ground := Ground.guard }], guard := some (6, false) }) (v := undef) rfl (by kernel_rfl) (by kernel_rfl) (by kernel_rfl) (fun _ _ _ h => h) (Or.inr ⟨by rfl, rfl⟩) (by assumption) ?_
          try simp only [Act.put, List.setIfInBounds_toArray, List.set_cons_zero, List.set_cons_succ]
          refine wpAnyH_take (i := 9) (oi := { dst := some 96, op := Op.call { callee := Callee.builtin Builtin.len, args := #[Operand.tmp 95], argTypes := #[23] }, type := 3, pos := "laws.go:483", after := #[{ on := 8, ground := Ground.data }, { on := 6, ground := Ground.guard }], guard := some (6, false) }) (v := undef) rfl (by kernel_rfl) (by kernel_rfl) (by kernel_rfl) (fun _ _ _ h => h) (Or.inr ⟨by rfl, rfl⟩) (by assumption) ?_
          try simp only [Act.put, List.setIfInBounds_toArray, List.set_cons_zero, List.set_cons_succ]
          refine wpAnyH_take (i := 10) (oi := { dst := some 97, op := Op.move (Operand.tmp 9), type := 3, pos := "laws.go:483", after := #[{ on := 6, ground := Ground.guard }], guard := some (6, false) }) (v := undef) rfl (by kernel_rfl) (by kernel_rfl) (by kernel_rfl) (fun _ _ _ h => h) (Or.inr ⟨by rfl, rfl⟩) (by assumption) ?_
          try simp only [Act.put, List.setIfInBounds_toArray, List.set_cons_zero, List.set_cons_succ]
          refine wpAnyH_take (i := 11) (oi := { dst := some 98, op := Op.move (Operand.tmp 6), type := 4, pos := "laws.go:483", after := #[{ on := 6, ground := Ground.guard }], guard := some (6, false) }) (v := undef) rfl (by kernel_rfl) (by kernel_rfl) (by kernel_rfl) (fun _ _ _ h => h) (Or.inr ⟨by rfl, rfl⟩) (by assumption) ?_
          try simp only [Act.put, List.setIfInBounds_toArray, List.set_cons_zero, List.set_cons_succ]
          refine wpAnyH_take (i := 12) (oi := { dst := some 99, op := Op.call { callee := Callee.value (Operand.func 17), args := #[Operand.tmp 98, Operand.const (Value.int IntKind.i64 1)], argTypes := #[4, 3] }, type := 3, pos := "laws.go:483", after := #[{ on := 11, ground := Ground.data }, { on := 6, ground := Ground.chain }, { on := 6, ground := Ground.guard }], guard := some (6, false) }) (v := undef) rfl (by kernel_rfl) (by kernel_rfl) (by kernel_rfl) (fun _ _ _ h => h) (Or.inr ⟨by rfl, rfl⟩) (by assumption) ?_
          try simp only [Act.put, List.setIfInBounds_toArray, List.set_cons_zero, List.set_cons_succ]
          refine wpAnyH_take (i := 13) (oi := { dst := some 100, op := Op.binOp BinOp.add 3 (Operand.tmp 97) (Operand.tmp 99) 3, type := 3, pos := "laws.go:483", after := #[{ on := 10, ground := Ground.data }, { on := 12, ground := Ground.data }, { on := 6, ground := Ground.guard }], guard := some (6, false) }) (v := undef) rfl (by kernel_rfl) (by kernel_rfl) (by kernel_rfl) (fun _ _ _ h => h) (Or.inr ⟨by rfl, rfl⟩) (by assumption) ?_
          try simp only [Act.put, List.setIfInBounds_toArray, List.set_cons_zero, List.set_cons_succ]
          refine wpAnyH_take (i := 14) (oi := { dst := some 101, op := Op.binOp BinOp.neq 3 (Operand.tmp 96) (Operand.tmp 100) 3, type := 4, pos := "laws.go:483", after := #[{ on := 9, ground := Ground.data }, { on := 13, ground := Ground.data }, { on := 6, ground := Ground.guard }], guard := some (6, false) }) (v := undef) rfl (by kernel_rfl) (by kernel_rfl) (by kernel_rfl) (fun _ _ _ h => h) (Or.inr ⟨by rfl, rfl⟩) (by assumption) ?_
          try simp only [Act.put, List.setIfInBounds_toArray, List.set_cons_zero, List.set_cons_succ]
          refine wpAnyH_take (i := 15) (oi := { dst := some 102, op := Op.pick (Operand.tmp 93) (Operand.const (Value.bool true)) (Operand.tmp 101), type := 4, pos := "laws.go:483", after := #[{ on := 6, ground := Ground.data }, { on := 14, ground := Ground.data }, { on := 2, ground := Ground.guard }], guard := some (2, true) }) (v := undef) rfl (by kernel_rfl) (by kernel_rfl) (by kernel_rfl) (fun _ _ _ h => h) (Or.inr ⟨by rfl, rfl⟩) (by assumption) ?_
          try simp only [Act.put, List.setIfInBounds_toArray, List.set_cons_zero, List.set_cons_succ]
          refine wpAnyH_take (i := 16) (oi := { dst := some 103, op := Op.pick (Operand.tmp 89) (Operand.tmp 102) (Operand.const (Value.bool false)), type := 4, pos := "laws.go:483", after := #[{ on := 2, ground := Ground.data }, { on := 15, ground := Ground.data }], guard := none }) (v := .bool false) rfl (by kernel_rfl) (by kernel_rfl) (by kernel_rfl) (fun _ _ _ h => h) (Or.inl ⟨by rfl, ?_⟩) (by assumption) ?_
          · (intro wq hq; go_simp)
          try simp only [Act.put, List.setIfInBounds_toArray, List.set_cons_zero, List.set_cons_succ]
          refine wpAnyH_done (by kernel_rfl) ?_ _
          go_wp2_with fail
          go_region_held3 (fun w' => w'.cell? ⟨w7.heap.size, 0, none⟩ = some (.int .i64 m7) ∧ w'.cell? ⟨w7.heap.size, 1, none⟩ = some (.slice o7 n n) ∧ w'.cell? ⟨w8.heap.size, 0, none⟩ = some (.int .i64 m8) ∧ w'.cell? ⟨w8.heap.size, 1, none⟩ = some (.slice o8 n8 n8)) ((refine ⟨?_, ?_, ?_, ?_⟩ <;> (repeat (first | (with_reducible assumption) | (with_reducible refine c_drew ?_))))) ((first
            | ((try go_simp); go_at_call 17; refine (ci0 _).mono ?_; rintro e wz ⟨rfl, hwe⟩; replace hwe := hwe.symm; subst hwe)
            | ((try go_simp); go_at_call 17; refine (ci1 _).mono ?_; rintro e wz ⟨rfl, hwe⟩; replace hwe := hwe.symm; subst hwe)
            | ((try go_simp); go_at_call_of 12 (Value.int IntKind.i64 m8); refine (k10 _ (kE.2.2.2.1.2.call (by repeat' (first | (with_reducible exact Below.refl _ _) | (with_reducible assumption) | (with_reducible refine below_drewN ?_ _) | (with_reducible refine Below.setCell ?_ ?_ _) | (with_reducible refine Below.alloc ?_ ?_ _) | (with_reducible refine Below.drew ?_) | go_size)))).mono ?_; rintro e w12 ⟨rfl, hb12⟩; have e12 : Below w11.heap.size w11 w12 := below_after (by repeat' (first | (with_reducible exact Below.refl _ _) | (with_reducible assumption) | (with_reducible refine below_drewN ?_ _) | (with_reducible refine Below.setCell ?_ ?_ _) | (with_reducible refine Below.alloc ?_ ?_ _) | (with_reducible refine Below.drew ?_) | go_size)) hb12 (by first | (simp; done) | (simp; omega) | omega); have kF := kE.call e12; obtain ⟨-, -, ⟨⟨-, n5, n6, -, -⟩, -⟩, ⟨⟨-, n7, n8', -, -⟩, -⟩, -⟩ := id kF)
            | ((try go_simp); go_at_call_of 12 (Value.int IntKind.i64 m7); refine (k9 _ (kA.2.2.1.2.call (by repeat' (first | (with_reducible exact Below.refl _ _) | (with_reducible assumption) | (with_reducible refine below_drewN ?_ _) | (with_reducible refine Below.setCell ?_ ?_ _) | (with_reducible refine Below.alloc ?_ ?_ _) | (with_reducible refine Below.drew ?_) | go_size)))).mono ?_; rintro e w11 ⟨rfl, hb11⟩; have e11 : Below w9.heap.size w9 w11 := below_after (by repeat' (first | (with_reducible exact Below.refl _ _) | (with_reducible assumption) | (with_reducible refine below_drewN ?_ _) | (with_reducible refine Below.setCell ?_ ?_ _) | (with_reducible refine Below.alloc ?_ ?_ _) | (with_reducible refine Below.drew ?_) | go_size)) hb11 (by first | (simp; done) | (simp; omega) | omega); have kE := kA.call e11; obtain ⟨-, -, ⟨⟨-, m5', m6, -, -⟩, -⟩, ⟨⟨-, m7', m8', -, -⟩, -⟩, -⟩ := id kE)))
          go_wp2_with fail
          go_ret
          exact ⟨rfl, kF.2.2.2.2⟩
        | true =>
          rw [hlx] at k7
          obtain ⟨hs1, hs2⟩ := hSf hlx
          obtain ⟨z, hz⟩ : ∃ z : Nat, z = if ok = true then 1 else 0 := ⟨_, rfl⟩
          rw [← hz] at hs2
          have hz1 : z ≤ 1 := by rw [hz]; split <;> omega
          have ciok : ∀ V : World, Calls Try.prog 17 #[.bool ok, .int .i64 1] V fun e w' => e = .returned (.int .i64 (z : Int)) ∧ w' = V := fun V => by
            have := ifint_is ok V
            rw [hz]
            cases ok <;> exact this
          have k11 := fun (V : World) (h : Lts V (.slice o3 Y5.length Y5.length) Y5) => (bagok_spec V m5 _ Y5 h (fun l hl => by have := hSs l hl; unfold maxLen; omega))
          rw [hs1, hs2] at k11
          rw [hs2] at s1
          have kV : AllK w (w1.heap.size + 1) x w3.heap.size m5 (.slice o3 (n + z) (n + z)) Y5 w7.heap.size m7 (.slice o7 n n) Y7 w8.heap.size m8 (.slice o8 n8 n8) Y8 V := ⟨kL8, ⟨(by have := kS8.1; rwa [hs2] at this), (by have := kS8.2; rwa [hs2] at this)⟩, ⟨(by have := kD8.1; rwa [h7] at this), (by have := kD8.2; rwa [h7] at this)⟩, ⟨(by have := kT8.1; rwa [h8] at this), (by have := kT8.2; rwa [h8] at this)⟩, hb8'⟩
          have hn66 : n ≤ 66 := hYl
          have hw1 : IntKind.i64.wrap ((n : Int)) = (n : Int) := IntWalk.i64_in _ (by omega)
          have hw2 : IntKind.i64.wrap ((n : Int) - 1) = (n8 : Int) := by rw [IntWalk.i64_in _ (by omega)]; omega
          have hp0 : (0 : Int) < (n : Int) := by omega
          have hb80 := hb8'.size
          have hwz : IntKind.i64.wrap ((n : Int) + (z : Int)) = (n : Int) + (z : Int) := IntWalk.i64_in _ (by omega)
          clear hz hs1 hs2 hn hSf hSs hSl hYs hYl hxs h7 h8 HD7 HT8 HO7 HO8 hnn kS8 kD8 kT8 hR5 hbig q3
          go_upto_region 16 with fail
          go_region_held3 (fun w' => w'.cell? ⟨w1.heap.size + 1, 0, none⟩ = some (.int .i64 x.f) ∧ w'.cell? ⟨w1.heap.size + 1, 1, none⟩ = some (.int .i64 x.t) ∧ w'.cell? ⟨w1.heap.size + 1, 2, none⟩ = some (.string x.s) ∧ w'.cell? ⟨w3.heap.size, 0, none⟩ = some (.int .i64 m5) ∧ w'.cell? ⟨w3.heap.size, 1, none⟩ = some (.slice o3 (n + z) (n + z))) ((refine ⟨?_, ?_, ?_, ?_, ?_⟩ <;> (repeat (first | (with_reducible assumption) | (with_reducible refine c_drew ?_))))) ((first
            | ((try go_simp); go_at_call 17; refine (ciok _).mono ?_; rintro e wz ⟨rfl, hwe⟩; replace hwe := hwe.symm; subst hwe)
            | ((try go_simp); go_at_call 12; refine (k11 _ (kA.2.1.2.call (by repeat' (first | (with_reducible exact Below.refl _ _) | (with_reducible assumption) | (with_reducible refine below_drewN ?_ _) | (with_reducible refine Below.setCell ?_ ?_ _) | (with_reducible refine Below.alloc ?_ ?_ _) | (with_reducible refine Below.drew ?_) | go_size)))).mono ?_; rintro e w10 ⟨rfl, hb10⟩; have e10 : Below w9.heap.size w9 w10 := below_after (by repeat' (first | (with_reducible exact Below.refl _ _) | (with_reducible assumption) | (with_reducible refine below_drewN ?_ _) | (with_reducible refine Below.setCell ?_ ?_ _) | (with_reducible refine Below.alloc ?_ ?_ _) | (with_reducible refine Below.drew ?_) | go_size)) hb10 (by first | (simp; done) | (simp; omega) | omega); have kC := kA.call e10; obtain ⟨⟨⟨-, g0, g1, g2⟩, -, -, -⟩, ⟨⟨-, g3, g4, -, -⟩, -⟩, ⟨⟨-, g5, g6, -, -⟩, -⟩, ⟨⟨-, g7, g8, -, -⟩, -⟩, -⟩ := id kC)
            | ((try go_simp); go_at_call 16; refine (k7 _).mono ?_; rintro e w9 ⟨rfl, hb9⟩; have e9 : Below V.heap.size V w9 := below_after (by repeat' (first | (with_reducible exact Below.refl _ _) | (with_reducible assumption) | (with_reducible refine below_drewN ?_ _) | (with_reducible refine Below.setCell ?_ ?_ _) | (with_reducible refine Below.alloc ?_ ?_ _) | (with_reducible refine Below.drew ?_) | go_size)) hb9 (by first | (simp; done) | (simp; omega) | omega); have kA := kV.call e9; obtain ⟨⟨⟨-, f0, f1, f2⟩, -, -, -⟩, ⟨⟨-, f3, f4, -, -⟩, -⟩, ⟨⟨-, f5, f6, -, -⟩, -⟩, ⟨⟨-, f7, f8, -, -⟩, -⟩, -⟩ := id kA)))
          go_wp2_with fail
          go_region_held3 (fun w' => w'.cell? ⟨w7.heap.size, 0, none⟩ = some (.int .i64 m7) ∧ w'.cell? ⟨w7.heap.size, 1, none⟩ = some (.slice o7 n n) ∧ w'.cell? ⟨w8.heap.size, 0, none⟩ = some (.int .i64 m8) ∧ w'.cell? ⟨w8.heap.size, 1, none⟩ = some (.slice o8 n8 n8)) ((refine ⟨?_, ?_, ?_, ?_⟩ <;> (repeat (first | (with_reducible assumption) | (with_reducible refine c_drew ?_))))) ((first
            | ((try go_simp); go_at_call 17; refine (ci0 _).mono ?_; rintro e wz ⟨rfl, hwe⟩; replace hwe := hwe.symm; subst hwe)
            | ((try go_simp); go_at_call 17; refine (ci1 _).mono ?_; rintro e wz ⟨rfl, hwe⟩; replace hwe := hwe.symm; subst hwe)
            | ((try go_simp); go_at_call_of 12 (Value.int IntKind.i64 m8); refine (k10 _ (kE.2.2.2.1.2.call (by repeat' (first | (with_reducible exact Below.refl _ _) | (with_reducible assumption) | (with_reducible refine below_drewN ?_ _) | (with_reducible refine Below.setCell ?_ ?_ _) | (with_reducible refine Below.alloc ?_ ?_ _) | (with_reducible refine Below.drew ?_) | go_size)))).mono ?_; rintro e w12 ⟨rfl, hb12⟩; have e12 : Below w11.heap.size w11 w12 := below_after (by repeat' (first | (with_reducible exact Below.refl _ _) | (with_reducible assumption) | (with_reducible refine below_drewN ?_ _) | (with_reducible refine Below.setCell ?_ ?_ _) | (with_reducible refine Below.alloc ?_ ?_ _) | (with_reducible refine Below.drew ?_) | go_size)) hb12 (by first | (simp; done) | (simp; omega) | omega); have kF := kE.call e12; obtain ⟨-, -, ⟨⟨-, n5, n6, -, -⟩, -⟩, ⟨⟨-, n7, n8', -, -⟩, -⟩, -⟩ := id kF)
            | ((try go_simp); go_at_call_of 12 (Value.int IntKind.i64 m7); refine (k9 _ (kC.2.2.1.2.call (by repeat' (first | (with_reducible exact Below.refl _ _) | (with_reducible assumption) | (with_reducible refine below_drewN ?_ _) | (with_reducible refine Below.setCell ?_ ?_ _) | (with_reducible refine Below.alloc ?_ ?_ _) | (with_reducible refine Below.drew ?_) | go_size)))).mono ?_; rintro e w11 ⟨rfl, hb11⟩; have e11 : Below w10.heap.size w10 w11 := below_after (by repeat' (first | (with_reducible exact Below.refl _ _) | (with_reducible assumption) | (with_reducible refine below_drewN ?_ _) | (with_reducible refine Below.setCell ?_ ?_ _) | (with_reducible refine Below.alloc ?_ ?_ _) | (with_reducible refine Below.drew ?_) | go_size)) hb11 (by first | (simp; done) | (simp; omega) | omega); have kE := kC.call e11; obtain ⟨-, -, ⟨⟨-, m5', m6, -, -⟩, -⟩, ⟨⟨-, m7', m8', -, -⟩, -⟩, -⟩ := id kE)))
          go_wp2_with fail
          go_ret
          exact ⟨rfl, kF.2.2.2.2⟩
end Go.Proofs.Ytiipfedjjhpbpaa
