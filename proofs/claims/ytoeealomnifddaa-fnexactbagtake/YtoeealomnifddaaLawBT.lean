/-
  The law of BagTake, walked.
-/
import Derived.Test.YtoeealomnifddaaTk7
import Derived.Test.YtoeealomnifddaaLawBD
namespace Go.Proofs.Ytoeealomnifddaa
open Go.RowKit

/-- The document's answer: its bag, and the letter in the box b', ahead of the block c. -/
def AL (b b' c : Nat) (m' : Int) (u : Value) (Y : List Lt) (x : Lt) (W : World) : Prop := AB b c m' u Y W ∧ L3 b' x.f x.t x.s W ∧ b' < c
theorem AL.step {W W' : World} {b b' c B : Nat} {m' : Int} {u : Value} {Y : List Lt} {x : Lt} (h : AL b b' c m' u Y x W) (hb : Below B W W') (hB : c ≤ B) : AL b b' c m' u Y x W' :=
  ⟨h.1.step hb hB, h.2.1.below hb (Nat.lt_of_lt_of_le h.2.2 hB), h.2.2⟩
theorem AL.call {W W' : World} {b b' c : Nat} {m' : Int} {u : Value} {Y : List Lt} {x : Lt} (h : AL b b' c m' u Y x W) (hb : Below W.heap.size W W') : AL b b' c m' u Y x W' := h.step hb h.1.2.1
theorem AL.new {W : World} {m' : Int} {u : Value} {Y : List Lt} (h : Lts W u Y) (x : Lt) (t t' : TypeId) : AL W.heap.size (W.heap.size + 1) ((W.alloc (.cells #[.int .i64 m', u] t)).alloc (.cells #[Value.int IntKind.i64 (x).f, Value.int IntKind.i64 (x).t, Value.string (x).s] t')).heap.size m' u Y x ((W.alloc (.cells #[.int .i64 m', u] t)).alloc (.cells #[Value.int IntKind.i64 (x).f, Value.int IntKind.i64 (x).t, Value.string (x).s] t')) := by
  have h1 := AB.new (m' := m') h t
  have hb : Below (W.alloc (.cells #[.int .i64 m', u] t)).heap.size (W.alloc (.cells #[.int .i64 m', u] t)) ((W.alloc (.cells #[.int .i64 m', u] t)).alloc (.cells #[Value.int IntKind.i64 (x).f, Value.int IntKind.i64 (x).t, Value.string (x).s] t')) := (Below.refl _ _).alloc (Nat.le_refl _) _
  obtain ⟨a1, a2, ⟨a3, a4⟩, a5⟩ := h1.call hb
  have l := L3.new (W.alloc (.cells #[.int .i64 m', u] t)) x.f x.t x.s t'
  rw [World.size_alloc] at l
  have e : ((W.alloc (.cells #[.int .i64 m', u] t)).alloc (.cells #[Value.int IntKind.i64 (x).f, Value.int IntKind.i64 (x).t, Value.string (x).s] t')).heap.size = W.heap.size + 1 + 1 := by simp only [World.size_alloc]
  have e' : (W.alloc (.cells #[.int .i64 m', u] t)).heap.size = W.heap.size + 1 := by simp only [World.size_alloc]
  rw [e'] at a1 a4
  refine ⟨⟨by omega, Nat.le_refl _, ⟨a3, fun hl a n k hk => ?_⟩, a5⟩, l, by omega⟩
  have := a4 hl a n k hk
  omega
/-- The program's answer: its bag, and the letter in the box g', all from the block c on. -/
def OL (g g' c : Nat) (m' : Int) (u : Value) (Y : List Lt) (x : Lt) (W : World) : Prop := OB g c m' u Y W ∧ L3 g' x.f x.t x.s W ∧ c ≤ g' ∧ (∀ n k, u = .slice (some ⟨g', 0, none⟩) n k → n = 0)
theorem OL.call {W W' : World} {g g' c : Nat} {m' : Int} {u : Value} {Y : List Lt} {x : Lt} (h : OL g g' c m' u Y x W) (hb : Below W.heap.size W W') : OL g g' c m' u Y x W' := ⟨h.1.call hb, h.2.1.call hb, h.2.2⟩
theorem OL.grown {W W' : World} {g g' c : Nat} {m' : Int} {u : Value} {Y : List Lt} {x : Lt} {row : Option Nat} (h : OL g g' c m' u Y x W) (hg : W.grownBy W' row) (hr : ∀ j, row = some j → j < c) : OL g g' c m' u Y x W' :=
  ⟨h.1.grown hg hr, h.2.1.grown hg (fun e => by have := hr _ e; have := h.2.2.1; omega), h.2.2⟩
theorem OL.new {W : World} {c base : Nat} {m' : Int} {u : Value} {Y : List Lt} (h : OwnL base W u Y) (hb : c ≤ base) (hc : c ≤ W.heap.size) (x : Lt) (t t' : TypeId) : OL W.heap.size (W.heap.size + 1) c m' u Y x ((W.alloc (.cells #[.int .i64 m', u] t)).alloc (.cells #[Value.int IntKind.i64 (x).f, Value.int IntKind.i64 (x).t, Value.string (x).s] t')) := by
  have h1 := (OB.new (m' := m') h hb hc t).call ((Below.refl _ _).alloc (Nat.le_refl _) (.cells #[Value.int IntKind.i64 (x).f, Value.int IntKind.i64 (x).t, Value.string (x).s] t') : Below (W.alloc (.cells #[.int .i64 m', u] t)).heap.size (W.alloc (.cells #[.int .i64 m', u] t)) _)
  have l := L3.new (W.alloc (.cells #[.int .i64 m', u] t)) x.f x.t x.s t'
  rw [World.size_alloc] at l
  exact ⟨h1, l, by omega, h.not_at (.inr (by omega))⟩
theorem below_two {W : World} {o o' : Obj} : Below W.heap.size W ((W.alloc o).alloc o') := ((Below.refl _ _).alloc (Nat.le_refl _) o).alloc (by simp only [World.size_alloc]; omega) o'

set_option maxRecDepth 20000 in
set_option maxHeartbeats 4000000 in
theorem lawBagTake (m : Int) (v : Value) (L : List Lt) (n : Int) (w : World) (h : Lts w v L ∧ ∀ l ∈ L, l.s.size ≤ maxLen) :
    Calls Try.prog 7 #[.agg #[.int .i64 m, v], .int .i64 n] w fun e w' => e = .returned (.bool true) ∧ Below w.heap.size w w' := by
  obtain ⟨hT, hs⟩ := h
  have c1 := fun (W : World) (h : Lts W v L) => szbag_is W m v L h hs
  have k1 := fun (W : World) (u : Value) (h : Lts W u L) => btake_spec W m u L n h hs
  have k2 := fun (W : World) (u : Value) (h : Lts W u L) => btake_impl W m u L n h hs
  have hY0 : L.length ≤ 1048576 → (btake m L n).2.1.length ≤ 1048576 := by
    intro hl
    unfold btake
    split
    · unfold tk
      split
      · have := less_le L (bpos n L.length) L.length
        rw [List.take_of_length_le (Nat.le_refl _)] at this
        simp only
        omega
      · simp
    · simp
  generalize btake m L n = R at k1 k2 hY0
  obtain ⟨m', Y, x, b'⟩ := R
  have hb0 : Below w.heap.size w (w.alloc (.cells #[.int .i64 m, v] 47)) := (by repeat' (first | (with_reducible exact Below.refl _ _) | (with_reducible assumption) | (with_reducible refine below_drewN ?_ _) | (with_reducible refine Below.setCell ?_ ?_ _) | (with_reducible refine Below.alloc ?_ ?_ _) | (with_reducible refine Below.drew ?_) | go_size))
  have hB0 : C2 w.heap.size (.int .i64 m) v (w.alloc (.cells #[.int .i64 m, v] 47)) := C2.new w (.int .i64 m) v 47
  have hTB := LtsB.of hT
  have hT0 := hT.call hb0
  obtain ⟨oa, cap, hv, _⟩ := hT.len
  go_enter Try.func7, Try.ntmps7
  clear hT hs
  subst hv
  go_wp2_with (go_at_call 23; refine (c1 _ hT0).mono ?_; rintro e w1 ⟨r, rfl, hb1, hr⟩; have hB1 := hB0.call hb1; have z1 := below_after hb0 hb1 hb0.size; have hQ1 : QB w m (.slice oa L.length cap) L w1 := ⟨hTB.below z1 (Nat.le_refl _), hB1, z1⟩; obtain ⟨l1, d0, d1, -, -⟩ := id hB1; clear hB0 hB1 hb0 hb1 hT0 hTB c1)
  · go_ret
    exact ⟨rfl, z1⟩
  · have hlen := (hr (by omega)).2
    have hY := hY0 hlen
    have c2 := fun (W : World) (h : Lts W (.slice oa L.length cap) L) => tobag_is W m _ L h hlen
    clear hY0 hr z1
    go_wp2_with (first
      | (go_at_call 30; refine (eqlet_is x _).mono ?_; rintro e w9 ⟨rfl, hb9⟩; have hQ9 := hQ8.call hb9; have hA9 := hA8.call hb9; have hX9 := hX8.call hb9; have hG9 := hG8.call hb9; have s9 := hb9.size; obtain ⟨-, v0, v1, -, -⟩ := id hX9.1; obtain ⟨-, q0, q1, -, -⟩ := id hQ9.2.1)
      | (go_at_call 27; refine (eqbag_is _ m' _ _ Y (hG5.1.2.2.1.lts hY) hA5.1.2.2.1.1).mono ?_; rintro e w8 ⟨rfl, hb8⟩; have hQ8 := hQ5.call hb8; have hA8 := hA5.call hb8; have hX8 := hX5.call hb8; have hG8 := hG5.call hb8; have s8 := hb8.size; obtain ⟨⟨-, b2, b3, b4⟩, -, -, -⟩ := id hA8.2.1; obtain ⟨⟨-, g2, g3, g4⟩, -, -, -⟩ := id hG8.2.1)
      | (go_at_call 15; refine (k2 _ _ (hX4.2.lts hlen)).mono ?_; rintro e w5 ⟨u5, rfl, G5, hb5⟩; obtain ⟨o5, hu5⟩ := G5.len; subst hu5; have s5 := hb5.size; have hQ5 := (hQ4.call hb5).call (below_two : Below w5.heap.size w5 ((w5.alloc (.cells #[.int .i64 m', .slice o5 Y.length Y.length] 25)).alloc (.cells #[Value.int IntKind.i64 (x).f, Value.int IntKind.i64 (x).t, Value.string (x).s] 27))); have hA5 := (hA4.call hb5).call (below_two : Below w5.heap.size w5 ((w5.alloc (.cells #[.int .i64 m', .slice o5 Y.length Y.length] 25)).alloc (.cells #[Value.int IntKind.i64 (x).f, Value.int IntKind.i64 (x).t, Value.string (x).s] 27))); have hX5 := (hX4.call hb5).call (below_two : Below w5.heap.size w5 ((w5.alloc (.cells #[.int .i64 m', .slice o5 Y.length Y.length] 25)).alloc (.cells #[Value.int IntKind.i64 (x).f, Value.int IntKind.i64 (x).t, Value.string (x).s] 27))); have hG5 := OL.new (m' := m') (c := w4.heap.size) G5 (by simp) (by simp only [World.size_alloc] at s5; omega) x 25 27; obtain ⟨-, b0, b1, -, -⟩ := id hA5.1.2.2.2; obtain ⟨-, g0, g1, -, -⟩ := id hG5.1.2.1)
      | (have hh := hA3; go_at_call 25; refine (c2 _ hQ3.1.1).mono ?_; rintro e w4 ⟨B, rfl, lB, R4, hb4⟩; have s4 := hb4.size; have lB4 := R4.1; have hQ4 := (hQ3.call hb4).call ((Below.refl w4.heap.size w4).alloc (Nat.le_refl _) _ : Below w4.heap.size w4 (w4.alloc (.cells #[.int .i64 m, .slice (some ⟨B, 0, none⟩) L.length L.length] 25))); have hA4 := (hA3.call hb4).call ((Below.refl w4.heap.size w4).alloc (Nat.le_refl _) _ : Below w4.heap.size w4 (w4.alloc (.cells #[.int .i64 m, .slice (some ⟨B, 0, none⟩) L.length L.length] 25))); have hX4 := XB.new (m := m) R4 25)
      | (go_at_call 20; refine (k1 _ _ (R2.lts hlen)).mono ?_; rintro e w3 ⟨u3, q3, rfl, G3, hb3⟩; have s3 := hb3.size; have hQ3 := (hQ2.call hb3).call (below_two : Below w3.heap.size w3 ((w3.alloc (.cells #[.int .i64 m', .slice u3 Y.length q3] 25)).alloc (.cells #[Value.int IntKind.i64 (x).f, Value.int IntKind.i64 (x).t, Value.string (x).s] 27))); have hA3 := AL.new (m' := m') (own_lts G3) x 25 27; obtain ⟨-, e0, e1, -, -⟩ := id hQ3.2.1)
      | (go_at_call 25; refine (c2 _ hQ1.1.1).mono ?_; rintro e w2 ⟨B2', rfl, lB2, R2, hb2⟩; have s2 := hb2.size; have hQ2 := hQ1.call hb2))
    have lX9 := hX9.1.1
    have lA9 := hA9.1.2.1
    have lg9 := hG9.1.2.1.1
    have lwB : w.heap.size < B := by have := hA9.1.1; have := hQ3.2.1.1; simp only [World.size_alloc] at *; omega
    simp only [World.size_alloc] at lB s5 s4
    clear b0 b1 b2 b3 b4 g0 g1 g2 g3 g4
    go_region_held3 (fun w' => w'.cell? ⟨w4.heap.size, 0, none⟩ = some (.int .i64 m) ∧ w'.cell? ⟨w4.heap.size, 1, none⟩ = some (.slice (some ⟨B, 0, none⟩) L.length L.length) ∧ w'.cell? ⟨w.heap.size, 0, none⟩ = some (.int .i64 m) ∧ w'.cell? ⟨w.heap.size, 1, none⟩ = some (.slice oa L.length cap)) ((refine ⟨?_, ?_, ?_, ?_⟩ <;> (repeat (first | (with_reducible assumption) | (with_reducible refine c_drew ?_) | (with_reducible refine c_alloc ?_))))) ((first
      | ((try go_simp); go_at_call 27; refine (eqbag_is _ m _ _ L ((hX10.2.call (by repeat' (first | (with_reducible exact Below.refl _ _) | (with_reducible assumption) | (with_reducible refine below_drewN ?_ _) | (with_reducible refine Below.setCell ?_ ?_ _) | (with_reducible refine Below.alloc ?_ ?_ _) | (with_reducible refine Below.drew ?_) | go_size))).lts hlen) ((R10.call (by repeat' (first | (with_reducible exact Below.refl _ _) | (with_reducible assumption) | (with_reducible refine below_drewN ?_ _) | (with_reducible refine Below.setCell ?_ ?_ _) | (with_reducible refine Below.alloc ?_ ?_ _) | (with_reducible refine Below.drew ?_) | go_size))).lts hlen)).mono ?_; rintro e w11 ⟨rfl, hb11⟩; have e11 : Below w10.heap.size w10 w11 := below_after (by repeat' (first | (with_reducible exact Below.refl _ _) | (with_reducible assumption) | (with_reducible refine below_drewN ?_ _) | (with_reducible refine Below.setCell ?_ ?_ _) | (with_reducible refine Below.alloc ?_ ?_ _) | (with_reducible refine Below.drew ?_) | go_size)) hb11 (by first | (simp; done) | (simp; omega) | omega); have hQ11 := hQ10.call e11; have hA11 := hA10.call e11; have hX11 := hX10.call e11; have hG11 := hG10.call e11; have s11 := e11.size; obtain ⟨-, v0'', v1'', -, -⟩ := id hX11.1; obtain ⟨-, q0'', q1'', -, -⟩ := id hQ11.2.1)
      | ((try go_simp); go_at_call 25; refine (c2 _ (hQ9.1.1.call (by repeat' (first | (with_reducible exact Below.refl _ _) | (with_reducible assumption) | (with_reducible refine below_drewN ?_ _) | (with_reducible refine Below.setCell ?_ ?_ _) | (with_reducible refine Below.alloc ?_ ?_ _) | (with_reducible refine Below.drew ?_) | go_size)))).mono ?_; rintro e w10 ⟨b10, rfl, lb10, R10, hb10⟩; have e10 : Below w9.heap.size w9 w10 := below_after (by repeat' (first | (with_reducible exact Below.refl _ _) | (with_reducible assumption) | (with_reducible refine below_drewN ?_ _) | (with_reducible refine Below.setCell ?_ ?_ _) | (with_reducible refine Below.alloc ?_ ?_ _) | (with_reducible refine Below.drew ?_) | go_size)) hb10 (by first | (simp; done) | (simp; omega) | omega); have hQ10 := hQ9.call e10; have hA10 := hA9.call e10; have hX10 := hX9.call e10; have hG10 := hG9.call e10; have s10 := e10.size; obtain ⟨-, v0', v1', -, -⟩ := id hX10.1; obtain ⟨-, q0', q1', -, -⟩ := id hQ10.2.1)))
    clear hQ9 hA9 hX9 hG9 hQ10 hA10 hX10 hG10 v0 v1 q0 q1 v0' v1' q0' q1' R10 e10 e11 hQ1 hQ2 hQ3 hQ4 hQ5 hQ8 hA3 hA4 hA5 hA8 hX4 hX5 hX8 hG5 hG8 e0 e1 d0 d1
    go_wp2_with (first
      | (go_at_call 29; refine (heldbagG wb m' _ Y.length r14 hHb.1 hY).mono ?_; rintro e w19 ⟨rfl, hb19⟩; have hQ19 := hQb.call hb19)
      | (have hh := hH18; go_at_call 30; refine (eqlet_is x _).mono ?_; rintro e wb ⟨rfl, hbb⟩; have hQb := hQ18.call hbb; have hHb := hH18.call h18 hbb; have hCb := hC18.call hbb; obtain ⟨-, a0, a1, -, -⟩ := id hCb)
      | (go_at_call 27; refine (eqbag_is _ m' _ _ Y (hG17.1.2.2.1.lts hY) hA17.1.2.2.1.1).mono ?_; rintro e w18 ⟨rfl, hb18⟩; have hQ18 := hQ17.call hb18; have hA18 := hA17.call hb18; have hG18 := hG17.call hb18; have hH18 := hH17.call h17 hb18; have h18 : w14.heap.size ≤ w18.heap.size := Nat.le_trans h17 hb18.size; have hC18 := hC17.call hb18; obtain ⟨⟨-, j2, j3, j4⟩, -, -, -⟩ := id hA18.2.1; obtain ⟨⟨-, f2, f3, f4⟩, -, -, -⟩ := id hG18.2.1)
      | (have hh := R16; go_at_call 15; refine (k2 _ _ (R16.lts hlen)).mono ?_; rintro e w17 ⟨u17, rfl, G17, hb17⟩; obtain ⟨o17, hu17⟩ := G17.len; subst hu17; have s17 := hb17.size; have hQ17 := (hQ16.call hb17).call (below_two : Below w17.heap.size w17 ((w17.alloc (.cells #[.int .i64 m', .slice o17 Y.length Y.length] 25)).alloc (.cells #[Value.int IntKind.i64 (x).f, Value.int IntKind.i64 (x).t, Value.string (x).s] 27))); have hA17 := (hA16.call hb17).call (below_two : Below w17.heap.size w17 ((w17.alloc (.cells #[.int .i64 m', .slice o17 Y.length Y.length] 25)).alloc (.cells #[Value.int IntKind.i64 (x).f, Value.int IntKind.i64 (x).t, Value.string (x).s] 27))); have hC17 := (hC16.call hb17).call (below_two : Below w17.heap.size w17 ((w17.alloc (.cells #[.int .i64 m', .slice o17 Y.length Y.length] 25)).alloc (.cells #[Value.int IntKind.i64 (x).f, Value.int IntKind.i64 (x).t, Value.string (x).s] 27))); have hH17 := (hH16.call (by omega) hb17).call (by omega) (below_two : Below w17.heap.size w17 ((w17.alloc (.cells #[.int .i64 m', .slice o17 Y.length Y.length] 25)).alloc (.cells #[Value.int IntKind.i64 (x).f, Value.int IntKind.i64 (x).t, Value.string (x).s] 27))); have h17 : w14.heap.size ≤ ((w17.alloc (.cells #[.int .i64 m', .slice o17 Y.length Y.length] 25)).alloc (.cells #[Value.int IntKind.i64 (x).f, Value.int IntKind.i64 (x).t, Value.string (x).s] 27)).heap.size := (by simp only [World.size_alloc]; omega); have hG17 := OL.new (m' := m') (c := w16.heap.size) G17 (Nat.le_refl _) s17 x 25 27; obtain ⟨-, b0, b1, -, -⟩ := id hA17.1.2.2.2; obtain ⟨-, f0, f1, -, -⟩ := id hG17.1.2.1)
      | (go_at_call 25; refine (c2 _ hQ15.1.1).mono ?_; rintro e w16 ⟨B16, rfl, lB16, R16, hb16⟩; have s16 := hb16.size; have hQ16 := hQ15.call hb16; have hA16 := hA15.call hb16; have hC16 := hC15.call hb16; have hH16 := hH15.call (by omega) hb16)
      | (go_at_call 29; refine (heldbagG w14 m' _ Y.length r14 hH14.1 hY).mono ?_; rintro e w15 ⟨rfl, hb15⟩; have hQ15 := hQ14.call hb15; have hA15 := hA14.call hb15; have hC15 := hC14.call hb15; have hH15 := hH14.call (Nat.le_refl _) hb15; have s15 := hb15.size; obtain ⟨-, q0, q1, -, -⟩ := id hQ15.2.1; clear hQ14 hA14 hC14 hH14 hb15)
      | (have hh := hG13; go_at_call 28; refine (markbagR w13 w4.heap.size m' _ Y hG13.1.2.2.1 hY).mono ?_; rintro e w14 ⟨r14, row, rfl, hg14, hrow, hH14⟩; have hbl : Below w4.heap.size w13 w14 := below_row hg14 (fun j e => (hrow j e).1) (by omega); have hQ14 := hQ13.step hbl (by omega); have hA14 := hA13.step hbl (by simp only [World.size_alloc]; omega); have hC14 := hG13.1.2.1.grown hg14 (fun e => (hrow _ e).2.1 (hG13.1.2.2.2 _ _ (hrow _ e).2.2)); have s14 := hg14.size; have n14 : ¬ (r14 : Int) < 0 := (by omega); obtain ⟨-, a0, a1, -, -⟩ := id hC14; clear hQ13 hA13 hG13 hg14 hrow hbl hh)
      | (go_at_call 30; refine (eqlet_is x wa).mono ?_; rintro e w13 ⟨rfl, hb13⟩; have hQ13 := hQa.call hb13; have hA13 := hAa.call hb13; have hG13 := hGa.call hb13; have s13 := hb13.size; obtain ⟨-, a0, a1, -, -⟩ := id hG13.1.2.1; clear hQa hAa hGa hb13 j2 j3 j4 f2 f3 f4)
      | (go_at_call 27; refine (eqbag_is w12 m' _ _ Y (hG12.1.2.2.1.lts hY) hA12.1.2.2.1.1).mono ?_; rintro e wa ⟨rfl, hba⟩; have hQa := hQ12.call hba; have hAa := hA12.call hba; have hGa := hG12.call hba; have sa := hba.size; obtain ⟨⟨-, j2, j3, j4⟩, -, -, -⟩ := id hAa.2.1; obtain ⟨⟨-, f2, f3, f4⟩, -, -, -⟩ := id hGa.2.1; clear hQ12 hA12 hG12 hba)
      | (go_at_call 28; refine (markbag_is w11 m B L.length L.length hX11.2.sr hlen).mono ?_; rintro e w12 ⟨r12, rfl, hg12⟩; have hbl : Below B w11 w12 := grown_below_at hg12 (by omega); have hQ12 := hQ11.step hbl lwB; have hA12 := hA11.step hbl (by simp only [World.size_alloc]; omega); have hG12 := hG11.grown hg12 (fun j e => by injection e with e; omega); have n12 : ¬ (r12 : Int) < 0 := (by omega); have s12 := hg12.size; obtain ⟨-, a0, a1, -, -⟩ := id hG12.1.2.1; obtain ⟨-, b0, b1, -, -⟩ := id hA12.1.2.2.2; clear hQ11 hA11 hX11 hG11 hg12 hbl))
    go_ret
    exact ⟨rfl, hQ19.2.2⟩
end Go.Proofs.Ytoeealomnifddaa
