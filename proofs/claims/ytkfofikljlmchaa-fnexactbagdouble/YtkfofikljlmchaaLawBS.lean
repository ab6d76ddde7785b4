/-
  The law of BagSend, walked.
-/
import Derived.Test.YtkfofikljlmchaaNet7
import Derived.Test.YtkfofikljlmchaaSend6
import Derived.Test.YtkfofikljlmchaaLawBD
namespace Go.Proofs.Ytkfofikljlmchaa
open Go.RowKit

set_option maxRecDepth 20000 in
set_option maxHeartbeats 8000000 in
theorem lawBagSend (m : Int) (v : Value) (L : List Lt) (l : Lt) (w : World) (h : Lts w v L ∧ (∀ l ∈ L, l.s.size ≤ maxLen) ∧ l.s.size ≤ maxLen) :
    Calls Try.prog 6 #[.agg #[.int .i64 m, v], .agg #[.int .i64 (l).f, .int .i64 (l).t, .string (l).s]] w fun e w' => e = .returned (.bool true) ∧ Below w.heap.size w w' := by
  obtain ⟨hT, hs, hsl⟩ := h
  have c1 := fun (W : World) (h : Lts W v L) => szbag_is W m v L h hs
  have k1 := fun (W : World) (u : Value) (h : Lts W u L) => bsend_spec W m u L l h hs hsl
  have k2 := fun (W : World) (u : Value) (h : Lts W u L) => bsend_impl W m u L l h hs hsl
  have hY0 : L.length ≤ 1048576 → (bsend m L l).2.1.length ≤ 1048576 := by
    intro hl
    unfold bsend
    split
    · next hok =>
      have := (bagOk_sizes hok.1).2.1
      split
      · simp; omega
      · omega
    · simp
  generalize bsend m L l = R at k1 k2 hY0
  obtain ⟨m', Y, b'⟩ := R
  have hb0 : Below w.heap.size w ((w.alloc (.cells #[.int .i64 m, v] 47)).alloc (.cells #[Value.int IntKind.i64 (l).f, Value.int IntKind.i64 (l).t, Value.string (l).s] 48)) := (by repeat' (first | (with_reducible exact Below.refl _ _) | (with_reducible assumption) | (with_reducible refine below_drewN ?_ _) | (with_reducible refine Below.setCell ?_ ?_ _) | (with_reducible refine Below.alloc ?_ ?_ _) | (with_reducible refine Below.drew ?_) | go_size))
  have hB0 : C2 w.heap.size (.int .i64 m) v ((w.alloc (.cells #[.int .i64 m, v] 47)).alloc (.cells #[Value.int IntKind.i64 (l).f, Value.int IntKind.i64 (l).t, Value.string (l).s] 48)) := (C2.new w (.int .i64 m) v 47).alloc _
  have hD0 : L3 (w.heap.size + 1) l.f l.t l.s ((w.alloc (.cells #[.int .i64 m, v] 47)).alloc (.cells #[Value.int IntKind.i64 (l).f, Value.int IntKind.i64 (l).t, Value.string (l).s] 48)) := by
    have := L3.new (w.alloc (.cells #[.int .i64 m, v] 47)) l.f l.t l.s 48
    rwa [World.size_alloc] at this
  have hTB := LtsB.of hT
  have hT0 := hT.call hb0
  obtain ⟨oa, cap, hv, _⟩ := hT.len
  go_enter Try.func6, Try.ntmps6
  clear hT hs
  subst hv
  go_wp2_with (go_at_call 23; refine (c1 _ hT0).mono ?_; rintro e w1 ⟨r, rfl, hb1, hr⟩; obtain ⟨l1, d0, d1, -, -⟩ := id (hB0.call hb1); have hB1 := hB0.call hb1; have hD1 := hD0.call hb1; obtain ⟨⟨-, e0, e1, e2⟩, -, -, -⟩ := id hD1; have hT1 := hT0.call hb1; have z1 := below_after hb0 hb1 hb0.size; clear hB0 hD0 hb0 hb1 hT0 c1)
  · go_ret
    exact ⟨rfl, z1⟩
  · obtain ⟨hr1, hlen⟩ := hr (by omega)
    have cz := fun V : World => szlet_is l.f l.t l.s hsl r ⟨by omega, hr1⟩ V
    clear hr
    by_cases hq : r - (l.s.size : Int) < 0
    · rw [if_pos hq] at cz
      go_wp2_with (go_at_call 24; refine (cz _).mono ?_; rintro e w2 ⟨rfl, hb2⟩)
      go_ret
      exact ⟨rfl, below_after z1 hb2 z1.size⟩
    · rw [if_neg hq] at cz
      have hY := hY0 hlen
      have c2 := fun (W : World) (h : Lts W (.slice oa L.length cap) L) => tobag_is W m _ L h hlen
      have c3 := fun W : World => tolet_is l.f l.t l.s W
      clear hY0
      go_wp2_with (first
        | (go_at_call 24; refine (cz _).mono ?_; rintro e w2 ⟨rfl, hb2⟩; have hQ2 : QB w m (.slice oa L.length cap) L w2 := ⟨hTB.below (below_after z1 hb2 z1.size) (Nat.le_refl _), hB1.call hb2, below_after z1 hb2 z1.size⟩; have hD2 := hD1.call hb2; obtain ⟨l2, f0, f1, -, -⟩ := id hQ2.2.1; obtain ⟨⟨lD2, g0, g1, g2⟩, -, -, -⟩ := id hD2; clear hB1 hD1 hb2 hT1 cz z1 d0 d1 e0 e1 e2 l1))
      clear hTB
      go_cut [6, 7] (fun t6 t7 wx => ∃ (b : Nat) (u : Value), t6 = .pointer (some ⟨b, 0, none⟩) ∧ t7 = .bool b' ∧ w.heap.size + 1 < b ∧ QB w m (.slice oa L.length cap) L wx ∧ AB b wx.heap.size m' u Y wx ∧ L3 (w.heap.size + 1) l.f l.t l.s wx)
      case first =>
        go_region_held3 (fun w' => w'.cell? ⟨w.heap.size, 0, none⟩ = some (.int .i64 m) ∧ w'.cell? ⟨w.heap.size, 1, none⟩ = some (.slice oa L.length cap) ∧ w'.cell? ⟨w.heap.size + 1, 0, none⟩ = some (.int .i64 l.f) ∧ w'.cell? ⟨w.heap.size + 1, 1, none⟩ = some (.int .i64 l.t) ∧ w'.cell? ⟨w.heap.size + 1, 2, none⟩ = some (.string l.s)) ((refine ⟨?_, ?_, ?_, ?_, ?_⟩ <;> (repeat (first | (with_reducible assumption) | (with_reducible refine c_drew ?_) | (with_reducible refine c_drewN ?_) | (with_reducible refine c_alloc ?_) | (with_reducible refine c_set ?_ (by first | (simp; done) | (simp; omega) | omega)))))) ((first
          | ((try go_simp); go_at_call 25; refine (c2 _ (hQ2.1.1.call (by repeat' (first | (with_reducible exact Below.refl _ _) | (with_reducible assumption) | (with_reducible refine below_drewN ?_ _) | (with_reducible refine Below.setCell ?_ ?_ _) | (with_reducible refine Below.alloc ?_ ?_ _) | (with_reducible refine Below.drew ?_) | go_size)))).mono ?_; rintro e w3 ⟨b3, rfl, lb3, R3, hb3⟩; have e3 : Below w2.heap.size w2 w3 := below_after (by repeat' (first | (with_reducible exact Below.refl _ _) | (with_reducible assumption) | (with_reducible refine below_drewN ?_ _) | (with_reducible refine Below.setCell ?_ ?_ _) | (with_reducible refine Below.alloc ?_ ?_ _) | (with_reducible refine Below.drew ?_) | go_size)) hb3 (by first | (simp; done) | (simp; omega) | omega); (try have X3 : C2 w2.heap.size (.int .i64 0) (.slice none 0 0) w3 := (C2.new w2 (.int .i64 0) (.slice none 0 0) 25).call (below_after (by repeat' (first | (with_reducible exact Below.refl _ _) | (with_reducible assumption) | (with_reducible refine below_drewN ?_ _) | (with_reducible refine Below.setCell ?_ ?_ _) | (with_reducible refine Below.alloc ?_ ?_ _) | (with_reducible refine Below.drew ?_) | go_size)) hb3 (by first | (simp; done) | (simp; omega) | omega))); have hQ3 := hQ2.call e3; have hD3 := hD2.call e3; obtain ⟨l3, h3_0, h3_1, -, -⟩ := id hQ3.2.1; obtain ⟨⟨-, i3_0, i3_1, i3_2⟩, -, -, -⟩ := id hD3)
          | ((try go_simp); go_at_call 26; refine (c3 _).mono ?_; rintro e w4 ⟨rfl, hb4⟩; have e4 : Below w3.heap.size w3 w4 := below_after (by repeat' (first | (with_reducible exact Below.refl _ _) | (with_reducible assumption) | (with_reducible refine below_drewN ?_ _) | (with_reducible refine Below.setCell ?_ ?_ _) | (with_reducible refine Below.alloc ?_ ?_ _) | (with_reducible refine Below.drew ?_) | go_size)) hb4 (by first | (simp; done) | (simp; omega) | omega); (first | have X4 := X3.call e4 | have X4 : C2 w3.heap.size (.int .i64 0) (.slice none 0 0) w4 := (C2.new w3 (.int .i64 0) (.slice none 0 0) 25).call (below_after (by repeat' (first | (with_reducible exact Below.refl _ _) | (with_reducible assumption) | (with_reducible refine below_drewN ?_ _) | (with_reducible refine Below.setCell ?_ ?_ _) | (with_reducible refine Below.alloc ?_ ?_ _) | (with_reducible refine Below.drew ?_) | go_size)) hb4 (by first | (simp; done) | (simp; omega) | omega)) | skip); have hQ4 := hQ3.call e4; have hD4 := hD3.call e4; obtain ⟨l4, h4_0, h4_1, -, -⟩ := id hQ4.2.1; obtain ⟨⟨-, i4_0, i4_1, i4_2⟩, -, -, -⟩ := id hD4)
          | (have s4' := e4.size; (try have y4 := X4.1); (try go_simp); go_at_call 11; refine (k1 _ _ ((R3.call (Below.trans e4 (by repeat' (first | (with_reducible exact Below.refl _ _) | (with_reducible assumption) | (with_reducible refine below_drewN ?_ _) | (with_reducible refine Below.setCell ?_ ?_ _) | (with_reducible refine Below.alloc ?_ ?_ _) | (with_reducible refine Below.drew ?_) | go_size)))).lts hlen)).mono ?_; rintro e w5 ⟨u5, q5, rfl, G5, hb5⟩; have e5 : Below w4.heap.size w4 w5 := below_after (by repeat' (first | (with_reducible exact Below.refl _ _) | (with_reducible assumption) | (with_reducible refine below_drewN ?_ _) | (with_reducible refine Below.setCell ?_ ?_ _) | (with_reducible refine Below.alloc ?_ ?_ _) | (with_reducible refine Below.drew ?_) | go_size)) hb5 (by first | (simp; done) | (simp; omega) | omega); (first | have X5 := X4.call e5 | have X5 : C2 w4.heap.size (.int .i64 0) (.slice none 0 0) w5 := (C2.new w4 (.int .i64 0) (.slice none 0 0) 25).call (below_after (by repeat' (first | (with_reducible exact Below.refl _ _) | (with_reducible assumption) | (with_reducible refine below_drewN ?_ _) | (with_reducible refine Below.setCell ?_ ?_ _) | (with_reducible refine Below.alloc ?_ ?_ _) | (with_reducible refine Below.drew ?_) | go_size)) hb5 (by first | (simp; done) | (simp; omega) | omega)) | skip); have hQ5 := hQ4.call e5; have hD5 := hD4.call e5; obtain ⟨l5, h5_0, h5_1, -, -⟩ := id hQ5.2.1; obtain ⟨⟨-, i5_0, i5_1, i5_2⟩, -, -, -⟩ := id hD5; (try obtain ⟨lX, x0, x1, x2, x3⟩ := id X5); have s2 := hD2.1.1; have s3 := e3.size; have s4 := e4.size; have s5 := e5.size; have N1 : ∀ k, w2.heap.size ≤ k → k ≠ w.heap.size ∧ k ≠ w.heap.size + 1 ∧ w.heap.size ≠ k ∧ w.heap.size + 1 ≠ k := (fun k hk => by omega); have n2 := N1 _ (Nat.le_refl _); have n3 := N1 _ s3; have n4 := N1 w4.heap.size (by omega); have n5 := N1 w5.heap.size (by omega))))
        all_goals (go_wp2_with fail; go_meet)
        all_goals (first
          | exact ⟨_, _, rfl, rfl, by omega, hQ5.call ((Below.refl _ _).alloc (Nat.le_refl _) _), AB.new (own_lts G5) _, hD5.call ((Below.refl _ _).alloc (Nat.le_refl _) _)⟩
          | exact ⟨_, _, rfl, rfl, by omega, hQ5.step (below_put w5 _ _ _ (by omega)) (by omega), AB.put X5 G5 (by first | (simp; done) | (simp; omega) | omega), hD5.below (below_put w5 _ _ _ (by omega)) (by omega)⟩)
      case rest =>
        clear l2 f0 f1 lD2 g0 g1 g2 hQ2 hD2
        obtain ⟨b, u, rfl, rfl, hbb, hQ3, hA3, hD3⟩ := hcut
        rename World => w3
        obtain ⟨lQ3, p0, p1, -, -⟩ := id hQ3.2.1
        go_wp2_with (go_at_call 25; refine (c2 w3 hQ3.1.1).mono ?_; rintro e w4 ⟨B, rfl, lB, R4, hb4⟩)
        have D4 : Below w4.heap.size w4 (w4.alloc (.cells #[.int .i64 m, .slice (some ⟨B, 0, none⟩) L.length L.length] 25)) := (Below.refl _ _).alloc (Nat.le_refl _) _
        have hQ5 := (hQ3.call hb4).call D4
        have hA5 := (hA3.call hb4).call D4
        have hD5 := (hD3.call hb4).call D4
        have hX5 := XB.new (m := m) R4 25
        have hs5 : w4.heap.size < (w4.alloc (.cells #[.int .i64 m, .slice (some ⟨B, 0, none⟩) L.length L.length] 25)).heap.size := by rw [World.size_alloc]; omega
        have lB4 := R4.1
        have s4 := hb4.size
        clear hQ3 hA3 hD3 D4 R4 hb4 p0 p1
        generalize (w4.alloc (.cells #[.int .i64 m, .slice (some ⟨B, 0, none⟩) L.length L.length] 25)) = w5 at hQ5 hA5 hD5 hX5 hs5 ⊢
        obtain ⟨-, a0, a1, -, -⟩ := id hX5.1
        obtain ⟨⟨-, d0, d1, d2⟩, -, -, -⟩ := id hD5
        go_cut [9, 10] (fun t9 t10 wx => ∃ (g : Nat) (ug : Value), t9 = .pointer (some ⟨g, 0, none⟩) ∧ t10 = .bool b' ∧ QB w m (.slice oa L.length cap) L wx ∧ AB b w3.heap.size m' u Y wx ∧ L3 (w.heap.size + 1) l.f l.t l.s wx ∧ XB w4.heap.size B m L wx ∧ OB g w5.heap.size m' ug Y wx)
        case first =>
          go_region_held3 (fun w' => w'.cell? ⟨w4.heap.size, 0, none⟩ = some (.int .i64 m) ∧ w'.cell? ⟨w4.heap.size, 1, none⟩ = some (.slice (some ⟨B, 0, none⟩) L.length L.length) ∧ w'.cell? ⟨w.heap.size + 1, 0, none⟩ = some (.int .i64 l.f) ∧ w'.cell? ⟨w.heap.size + 1, 1, none⟩ = some (.int .i64 l.t) ∧ w'.cell? ⟨w.heap.size + 1, 2, none⟩ = some (.string l.s)) ((refine ⟨?_, ?_, ?_, ?_, ?_⟩ <;> (repeat (first | (with_reducible assumption) | (with_reducible refine c_drew ?_) | (with_reducible refine c_drewN ?_) | (with_reducible refine c_alloc ?_) | (with_reducible refine c_set ?_ (by first | (simp; done) | (simp; omega) | omega)))))) ((first
            | (have hh := y6; (try go_simp); go_at_call 10; refine (k2 _ _ ((hX6.2.call (by repeat' (first | (with_reducible exact Below.refl _ _) | (with_reducible assumption) | (with_reducible refine below_drewN ?_ _) | (with_reducible refine Below.setCell ?_ ?_ _) | (with_reducible refine Below.alloc ?_ ?_ _) | (with_reducible refine Below.drew ?_) | go_size))).lts hlen)).mono ?_; rintro e w7 ⟨u7, rfl, G7, hb7⟩; obtain ⟨o7, hu7⟩ := G7.len; subst hu7; have e7 : Below w6.heap.size w6 w7 := below_after (by repeat' (first | (with_reducible exact Below.refl _ _) | (with_reducible assumption) | (with_reducible refine below_drewN ?_ _) | (with_reducible refine Below.setCell ?_ ?_ _) | (with_reducible refine Below.alloc ?_ ?_ _) | (with_reducible refine Below.drew ?_) | go_size)) hb7 (by first | (simp; done) | (simp; omega) | omega); (first | have X7 := X6.call e7 | have X7 : C2 w6.heap.size (.int .i64 0) (.slice none 0 0) w7 := (C2.new w6 (.int .i64 0) (.slice none 0 0) 25).call (below_after (by repeat' (first | (with_reducible exact Below.refl _ _) | (with_reducible assumption) | (with_reducible refine below_drewN ?_ _) | (with_reducible refine Below.setCell ?_ ?_ _) | (with_reducible refine Below.alloc ?_ ?_ _) | (with_reducible refine Below.drew ?_) | go_size)) hb7 (by first | (simp; done) | (simp; omega) | omega)) | skip); have hQ7 := hQ6.call e7; have hA7 := hA6.call e7; have hD7 := hD6.call e7; have hX7 := hX6.call e7; obtain ⟨l7, h7_0, h7_1, -, -⟩ := id hX7.1; obtain ⟨⟨-, i7_0, i7_1, i7_2⟩, -, -, -⟩ := id hD7; (try obtain ⟨lX, x0, x1, x2, x3⟩ := id X7); have s6 := e6.size; have s7 := e7.size; have N1 : ∀ k, w5.heap.size ≤ k → k ≠ w4.heap.size ∧ k ≠ w.heap.size + 1 ∧ w4.heap.size ≠ k ∧ w.heap.size + 1 ≠ k := (fun k hk => by omega); have n5 := N1 _ (Nat.le_refl _); have n6 := N1 _ s6; have n7 := N1 w7.heap.size (by omega))
            | ((try go_simp); go_at_call 26; refine (c3 _).mono ?_; rintro e w6 ⟨rfl, hb6⟩; have e6 : Below w5.heap.size w5 w6 := below_after (by repeat' (first | (with_reducible exact Below.refl _ _) | (with_reducible assumption) | (with_reducible refine below_drewN ?_ _) | (with_reducible refine Below.setCell ?_ ?_ _) | (with_reducible refine Below.alloc ?_ ?_ _) | (with_reducible refine Below.drew ?_) | go_size)) hb6 (by first | (simp; done) | (simp; omega) | omega); (try have X6 : C2 w5.heap.size (.int .i64 0) (.slice none 0 0) w6 := (C2.new w5 (.int .i64 0) (.slice none 0 0) 25).call (below_after (by repeat' (first | (with_reducible exact Below.refl _ _) | (with_reducible assumption) | (with_reducible refine below_drewN ?_ _) | (with_reducible refine Below.setCell ?_ ?_ _) | (with_reducible refine Below.alloc ?_ ?_ _) | (with_reducible refine Below.drew ?_) | go_size)) hb6 (by first | (simp; done) | (simp; omega) | omega))); have y6 : True := trivial; (try have y6 := X6.1); have hQ6 := hQ5.call e6; have hA6 := hA5.call e6; have hD6 := hD5.call e6; have hX6 := hX5.call e6; obtain ⟨l6, h6_0, h6_1, -, -⟩ := id hX6.1; obtain ⟨⟨-, i6_0, i6_1, i6_2⟩, -, -, -⟩ := id hD6)))
          all_goals (go_wp2_with fail; go_meet)
          all_goals (first
            | exact ⟨_, _, rfl, rfl, hQ7.call ((Below.refl _ _).alloc (Nat.le_refl _) _), hA7.call ((Below.refl _ _).alloc (Nat.le_refl _) _), hD7.call ((Below.refl _ _).alloc (Nat.le_refl _) _), hX7.call ((Below.refl _ _).alloc (Nat.le_refl _) _), OB.new G7 (by first | (simp; done) | (simp; omega) | omega) (by omega) _⟩
            | exact ⟨_, _, rfl, rfl, hQ7.step (below_put w7 _ _ _ (by omega)) (by omega), hA7.step (below_put w7 _ _ _ (by omega)) (by omega), hD7.below (below_put w7 _ _ _ (by omega)) (by omega), hX7.put (by omega) (by omega) _ _, OB.put X7 G7 (by first | (simp; done) | (simp; omega) | omega) (by omega)⟩)
        case rest =>
          clear a0 a1 d0 d1 d2 hQ5 hA5 hD5 hX5
          obtain ⟨g, ug, rfl, rfl, hQ8, hA8, hD8, hX8, hG8⟩ := hcut
          rename World => w8
          obtain ⟨og, hug⟩ := hG8.2.2.1.len
          obtain ⟨ou, cu, hu, _⟩ := hA8.2.2.1.1.len
          have lX8 := hX8.1.1
          have lQ8 := hQ8.2.1.1
          have lg8 := hG8.2.1.1
          have lwg := hG8.1
          have lA8 := hA8.2.1
          have lbc := hA8.1
          have lwB : w.heap.size + 1 < B := by omega
          obtain ⟨-, a0, a1, -, -⟩ := id hG8.2.1
          obtain ⟨-, b0, b1, -, -⟩ := id hA8.2.2.2
          obtain ⟨-, v0, v1, -, -⟩ := id hX8.1
          obtain ⟨-, q0, q1, -, -⟩ := id hQ8.2.1
          rw [hug] at a1
          rw [hu] at b1
          go_wp2_with (go_at_call 27; refine (eqbag_is w8 m' _ _ Y (hug ▸ hG8.2.2.1.lts hY) (hu ▸ hA8.2.2.1.1)).mono ?_; rintro e w9 ⟨rfl, hb9⟩; have hQ9 := hQ8.call hb9; have hA9 := hA8.call hb9; have hD9 := hD8.call hb9; have hX9 := hX8.call hb9; have hG9 := hG8.call hb9; have s9 := hb9.size; obtain ⟨-, v0, v1, -, -⟩ := id hX9.1; obtain ⟨-, q0, q1, -, -⟩ := id hQ9.2.1)
          go_region_held3 (fun w' => w'.cell? ⟨w4.heap.size, 0, none⟩ = some (.int .i64 m) ∧ w'.cell? ⟨w4.heap.size, 1, none⟩ = some (.slice (some ⟨B, 0, none⟩) L.length L.length) ∧ w'.cell? ⟨w.heap.size, 0, none⟩ = some (.int .i64 m) ∧ w'.cell? ⟨w.heap.size, 1, none⟩ = some (.slice oa L.length cap)) ((refine ⟨?_, ?_, ?_, ?_⟩ <;> (repeat (first | (with_reducible assumption) | (with_reducible refine c_drew ?_) | (with_reducible refine c_alloc ?_))))) ((first
            | (go_at_call 27; refine (eqbag_is _ m _ _ L ((hX10.2.call (by repeat' (first | (with_reducible exact Below.refl _ _) | (with_reducible assumption) | (with_reducible refine below_drewN ?_ _) | (with_reducible refine Below.setCell ?_ ?_ _) | (with_reducible refine Below.alloc ?_ ?_ _) | (with_reducible refine Below.drew ?_) | go_size))).lts hlen) ((R10.call (by repeat' (first | (with_reducible exact Below.refl _ _) | (with_reducible assumption) | (with_reducible refine below_drewN ?_ _) | (with_reducible refine Below.setCell ?_ ?_ _) | (with_reducible refine Below.alloc ?_ ?_ _) | (with_reducible refine Below.drew ?_) | go_size))).lts hlen)).mono ?_; rintro e w11 ⟨rfl, hb11⟩; have e11 : Below w10.heap.size w10 w11 := below_after (by repeat' (first | (with_reducible exact Below.refl _ _) | (with_reducible assumption) | (with_reducible refine below_drewN ?_ _) | (with_reducible refine Below.setCell ?_ ?_ _) | (with_reducible refine Below.alloc ?_ ?_ _) | (with_reducible refine Below.drew ?_) | go_size)) hb11 (by first | (simp; done) | (simp; omega) | omega); have hQ11 := hQ10.call e11; have hA11 := hA10.call e11; have hD11 := hD10.call e11; have hX11 := hX10.call e11; have hG11 := hG10.call e11; have s11 := e11.size; obtain ⟨-, v0'', v1'', -, -⟩ := id hX11.1; obtain ⟨-, q0'', q1'', -, -⟩ := id hQ11.2.1)
            | (go_at_call 25; refine (c2 _ (hQ9.1.1.call (by repeat' (first | (with_reducible exact Below.refl _ _) | (with_reducible assumption) | (with_reducible refine below_drewN ?_ _) | (with_reducible refine Below.setCell ?_ ?_ _) | (with_reducible refine Below.alloc ?_ ?_ _) | (with_reducible refine Below.drew ?_) | go_size)))).mono ?_; rintro e w10 ⟨b10, rfl, lb10, R10, hb10⟩; have e10 : Below w9.heap.size w9 w10 := below_after (by repeat' (first | (with_reducible exact Below.refl _ _) | (with_reducible assumption) | (with_reducible refine below_drewN ?_ _) | (with_reducible refine Below.setCell ?_ ?_ _) | (with_reducible refine Below.alloc ?_ ?_ _) | (with_reducible refine Below.drew ?_) | go_size)) hb10 (by first | (simp; done) | (simp; omega) | omega); have hQ10 := hQ9.call e10; have hA10 := hA9.call e10; have hD10 := hD9.call e10; have hX10 := hX9.call e10; have hG10 := hG9.call e10; have s10 := e10.size; obtain ⟨-, v0', v1', -, -⟩ := id hX10.1; obtain ⟨-, q0', q1', -, -⟩ := id hQ10.2.1)))
          clear hQ8 hA8 hD8 hX8 hG8 hQ9 hA9 hD9 hX9 hG9 hQ10 hA10 hD10 hX10 hG10 v0 v1 q0 q1 v0' v1' q0' q1' R10 a0 a1 b0 b1 e10 e11
          go_wp2_with (first
            | (go_at_call 29; refine (heldbagG w14 m' _ Y.length r14 hH14.1 hY).mono ?_; rintro e w15 ⟨rfl, hb15⟩; have hQ15 := hQ14.call hb15; have hA15 := hA14.call hb15; have hD15 := hD14.call hb15; have hC15 := hC14.call hb15; have hH15 := hH14.call (Nat.le_refl _) hb15; have s15 := hb15.size; clear hQ14 hA14 hD14 hC14 hH14 hb15)
            | (have hh := hG13; go_at_call 28; (refine (markbagR w13 w5.heap.size m' _ Y (hug ▸ hG13.2.2.1) hY).mono ?_; rintro e w14 ⟨r14, row, rfl, hg14, hrow, hH14⟩; have hbl : Below w5.heap.size w13 w14 := below_row hg14 (fun j e => (hrow j e).1) (by omega); have hQ14 := hQ13.step hbl (by omega); have hA14 := hA13.step hbl (by omega); have hD14 := hD13.below hbl (by omega); have hC14 := hG13.2.1.grown hg14 (fun e => (hrow _ e).2.1 (hG13.2.2.2 _ _ (hug.trans (hrow _ e).2.2))); have s14 := hg14.size; have n14 : ¬ (r14 : Int) < 0 := (by omega); obtain ⟨-, a0, a1, -, -⟩ := id hC14; rw [hug] at a1; clear hQ13 hA13 hD13 hG13 hg14 hrow hbl hh))
            | (go_at_call 27; refine (eqbag_is w12 m' _ _ Y (hug ▸ hG12.2.2.1.lts hY) (hu ▸ hA12.2.2.1.1)).mono ?_; rintro e w13 ⟨rfl, hb13⟩; have hQ13 := hQ12.call hb13; have hA13 := hA12.call hb13; have hD13 := hD12.call hb13; have hG13 := hG12.call hb13; have s13 := hb13.size; obtain ⟨-, a0, a1, -, -⟩ := id hG13.2.1; rw [hug] at a1; clear hQ12 hA12 hD12 hG12 hb13)
            | (go_at_call 28; (refine (markbag_is w11 m B L.length L.length hX11.2.sr hlen).mono ?_; rintro e w12 ⟨r12, rfl, hg12⟩; have hbl : Below B w11 w12 := grown_below_at hg12 (by omega); have hQ12 := hQ11.step hbl (by omega); have hA12 := hA11.step hbl lB; have hD12 := hD11.below hbl lwB; have hG12 := hG11.grown hg12 (fun j e => by injection e with e; omega); have n12 : ¬ (r12 : Int) < 0 := (by omega); have s12 := hg12.size; obtain ⟨-, a0, a1, -, -⟩ := id hG12.2.1; obtain ⟨-, b0, b1, -, -⟩ := id hA12.2.2.2; rw [hug] at a1; rw [hu] at b1; clear hQ11 hA11 hD11 hX11 hG11 hg12 hbl)))
          obtain ⟨-, q0, q1, -, -⟩ := id hQ15.2.1
          obtain ⟨⟨lD15, d0, d1, d2⟩, -, -, -⟩ := id hD15
          clear a0 a1 hb9 hb10 hb11 lb10 v0 v1 v0'' v1'' q0'' q1'' b0 b1
          have F1 : w3.heap.size ≤ w15.heap.size := hA15.2.1
          have F2 : w14.heap.size ≤ w15.heap.size := s15
          have F3 : g < w15.heap.size := hC15.1
          have HU : Hid (ug = .slice og Y.length Y.length ∧ u = .slice ou Y.length cu) := ⟨hug, hu⟩
          clear hug hu s15 s14 s13 s12 s11 s10 s9 n12 n14 lX8 lQ8 lg8 lA8 lwg lbc lwB lB lB4 s4 hs5 lQ3 hbb
          clear k1
          go_cut [14, 15] (fun t14 t15 wx => ∃ (h : Nat) (uh : Value), t14 = .pointer (some ⟨h, 0, none⟩) ∧ t15 = .bool b' ∧ QB w m (.slice oa L.length cap) L wx ∧ AB b w3.heap.size m' u Y wx ∧ C2 g (.int .i64 m') ug wx ∧ HeB w14.heap.size (.slice og Y.length Y.length) Y.length r14 wx ∧ OB h w15.heap.size m' uh Y wx)
          case first =>
            go_region_held3 (fun w' => w'.cell? ⟨w.heap.size, 0, none⟩ = some (.int .i64 m) ∧ w'.cell? ⟨w.heap.size, 1, none⟩ = some (.slice oa L.length cap) ∧ w'.cell? ⟨w.heap.size + 1, 0, none⟩ = some (.int .i64 l.f) ∧ w'.cell? ⟨w.heap.size + 1, 1, none⟩ = some (.int .i64 l.t) ∧ w'.cell? ⟨w.heap.size + 1, 2, none⟩ = some (.string l.s)) ((refine ⟨?_, ?_, ?_, ?_, ?_⟩ <;> (repeat (first | (with_reducible assumption) | (with_reducible refine c_drew ?_) | (with_reducible refine c_drewN ?_) | (with_reducible refine c_alloc ?_) | (with_reducible refine c_set ?_ (by first | (simp; done) | (simp; omega) | omega)))))) ((first
              | ((try go_simp); go_at_call 25; refine (c2 _ (hQ15.1.1.call (by repeat' (first | (with_reducible exact Below.refl _ _) | (with_reducible assumption) | (with_reducible refine below_drewN ?_ _) | (with_reducible refine Below.setCell ?_ ?_ _) | (with_reducible refine Below.alloc ?_ ?_ _) | (with_reducible refine Below.drew ?_) | go_size)))).mono ?_; rintro e w16 ⟨b16, rfl, lb16, R16, hb16⟩; have e16 : Below w15.heap.size w15 w16 := below_after (by repeat' (first | (with_reducible exact Below.refl _ _) | (with_reducible assumption) | (with_reducible refine below_drewN ?_ _) | (with_reducible refine Below.setCell ?_ ?_ _) | (with_reducible refine Below.alloc ?_ ?_ _) | (with_reducible refine Below.drew ?_) | go_size)) hb16 (by first | (simp; done) | (simp; omega) | omega); (try have X16 : C2 w15.heap.size (.int .i64 0) (.slice none 0 0) w16 := (C2.new w15 (.int .i64 0) (.slice none 0 0) 25).call (below_after (by repeat' (first | (with_reducible exact Below.refl _ _) | (with_reducible assumption) | (with_reducible refine below_drewN ?_ _) | (with_reducible refine Below.setCell ?_ ?_ _) | (with_reducible refine Below.alloc ?_ ?_ _) | (with_reducible refine Below.drew ?_) | go_size)) hb16 (by first | (simp; done) | (simp; omega) | omega))); have hQ16 := hQ15.call e16; have hD16 := hD15.call e16; obtain ⟨l16, h16_0, h16_1, -, -⟩ := id hQ16.2.1; obtain ⟨⟨-, i16_0, i16_1, i16_2⟩, -, -, -⟩ := id hD16)
              | ((try go_simp); go_at_call 26; refine (c3 _).mono ?_; rintro e w17 ⟨rfl, hb17⟩; have e17 : Below w16.heap.size w16 w17 := below_after (by repeat' (first | (with_reducible exact Below.refl _ _) | (with_reducible assumption) | (with_reducible refine below_drewN ?_ _) | (with_reducible refine Below.setCell ?_ ?_ _) | (with_reducible refine Below.alloc ?_ ?_ _) | (with_reducible refine Below.drew ?_) | go_size)) hb17 (by first | (simp; done) | (simp; omega) | omega); (first | have X17 := X16.call e17 | have X17 : C2 w16.heap.size (.int .i64 0) (.slice none 0 0) w17 := (C2.new w16 (.int .i64 0) (.slice none 0 0) 25).call (below_after (by repeat' (first | (with_reducible exact Below.refl _ _) | (with_reducible assumption) | (with_reducible refine below_drewN ?_ _) | (with_reducible refine Below.setCell ?_ ?_ _) | (with_reducible refine Below.alloc ?_ ?_ _) | (with_reducible refine Below.drew ?_) | go_size)) hb17 (by first | (simp; done) | (simp; omega) | omega)) | skip); have hQ17 := hQ16.call e17; have hD17 := hD16.call e17; obtain ⟨l17, h17_0, h17_1, -, -⟩ := id hQ17.2.1; obtain ⟨⟨-, i17_0, i17_1, i17_2⟩, -, -, -⟩ := id hD17)
              | (have s4' := e17.size; (try have y4 := X17.1); (try go_simp); go_at_call 10; refine (k2 _ _ ((R16.call (Below.trans e17 (by repeat' (first | (with_reducible exact Below.refl _ _) | (with_reducible assumption) | (with_reducible refine below_drewN ?_ _) | (with_reducible refine Below.setCell ?_ ?_ _) | (with_reducible refine Below.alloc ?_ ?_ _) | (with_reducible refine Below.drew ?_) | go_size)))).lts hlen)).mono ?_; rintro e w18 ⟨u18, rfl, G18, hb18⟩; obtain ⟨o18, hu18⟩ := G18.len; subst hu18; have e18 : Below w17.heap.size w17 w18 := below_after (by repeat' (first | (with_reducible exact Below.refl _ _) | (with_reducible assumption) | (with_reducible refine below_drewN ?_ _) | (with_reducible refine Below.setCell ?_ ?_ _) | (with_reducible refine Below.alloc ?_ ?_ _) | (with_reducible refine Below.drew ?_) | go_size)) hb18 (by first | (simp; done) | (simp; omega) | omega); (first | have X18 := X17.call e18 | have X18 : C2 w17.heap.size (.int .i64 0) (.slice none 0 0) w18 := (C2.new w17 (.int .i64 0) (.slice none 0 0) 25).call (below_after (by repeat' (first | (with_reducible exact Below.refl _ _) | (with_reducible assumption) | (with_reducible refine below_drewN ?_ _) | (with_reducible refine Below.setCell ?_ ?_ _) | (with_reducible refine Below.alloc ?_ ?_ _) | (with_reducible refine Below.drew ?_) | go_size)) hb18 (by first | (simp; done) | (simp; omega) | omega)) | skip); have hQ18 := hQ17.call e18; have hD18 := hD17.call e18; obtain ⟨l18, h18_0, h18_1, -, -⟩ := id hQ18.2.1; obtain ⟨⟨-, i18_0, i18_1, i18_2⟩, -, -, -⟩ := id hD18; (try obtain ⟨lX, x0, x1, x2, x3⟩ := id X18); have eT : Below w15.heap.size w15 w18 := below_after (below_after e16 e17 e16.size) e18 (by have := e16.size; have := e17.size; omega); have s2 := hD15.1.1; have s3 := e16.size; have s4 := e17.size; have s5 := e18.size; have N1 : ∀ k, w15.heap.size ≤ k → k ≠ w.heap.size ∧ k ≠ w.heap.size + 1 ∧ w.heap.size ≠ k ∧ w.heap.size + 1 ≠ k := (fun k hk => by omega); have n2 := N1 _ (Nat.le_refl _); have n3 := N1 _ s3; have n4 := N1 w17.heap.size (by omega); have n5 := N1 w18.heap.size (by omega))))
            all_goals (go_wp2_with fail; go_meet)
            all_goals (first
              | exact ⟨_, _, rfl, rfl, hQ18.call ((Below.refl _ _).alloc (Nat.le_refl _) _), (hA15.call eT).call ((Below.refl _ _).alloc (Nat.le_refl _) _), (hC15.call eT).call ((Below.refl _ _).alloc (Nat.le_refl _) _), (hH15.call (by omega) eT).call (by omega) ((Below.refl _ _).alloc (Nat.le_refl _) _), OB.new G18 (by first | (simp; done) | (simp; omega) | omega) (by omega) _⟩
              | exact ⟨_, _, rfl, rfl, hQ18.step (below_put w18 _ _ _ (by omega)) (by omega), (hA15.call eT).step (below_put w18 _ _ _ (by omega)) (by omega), (hC15.call eT).below (below_put w18 _ _ _ (by omega)) (by omega), (hH15.call (by omega) eT).step (below_put w18 _ _ _ (by omega)) (by omega), OB.put X18 G18 (by first | (simp; done) | (simp; omega) | omega) (by omega)⟩)
          case rest =>
            clear q0 q1 d0 d1 d2 lD15 hQ15 hA15 hD15 hC15 hH15
            obtain ⟨h, uh, rfl, rfl, hQ19, hA19, hC19, hH19, hG19⟩ := hcut
            rename World => w19
            obtain ⟨oh, huh⟩ := hG19.2.2.1.len
            obtain ⟨-, h0, h1, -, -⟩ := id hG19.2.1
            obtain ⟨-, b0, b1, -, -⟩ := id hA19.2.2.2
            obtain ⟨hug, hu⟩ := HU.out
            rw [huh] at h1
            rw [hu] at b1
            have l19 := hC19.1
            have lh1 := hG19.1
            have lh2 := hG19.2.1.1
            go_wp2_with (first
              | (go_at_call 29; refine (heldbagG w20 m' _ Y.length r14 hH20.1 hY).mono ?_; rintro e w21 ⟨rfl, hb21⟩; have hQ21 := hQ20.call hb21)
              | (go_at_call 27; refine (eqbag_is w19 m' _ _ Y (huh ▸ hG19.2.2.1.lts hY) (hu ▸ hA19.2.2.1.1)).mono ?_; rintro e w20 ⟨rfl, hb20⟩; have hQ20 := hQ19.call hb20; have hC20 := hC19.call hb20; have hH20 := hH19.call (by omega) hb20; obtain ⟨-, a0, a1, -, -⟩ := id hC20; rw [hug] at a1))
            go_ret
            exact ⟨rfl, hQ21.2.2⟩
end Go.Proofs.Ytkfofikljlmchaa
