/-
  The law of BagFor, walked.
-/
import Derived.Test.YtnfnhgloblfgnaaBMark
import Derived.Test.YtnfnhgloblfgnaaJoinB25
namespace Go.Proofs.Ytnfnhgloblfgnaa
open Go.RowKit

/-- Letters that lie ahead of the block B. -/
def LtsB (B : Nat) (W : World) (v : Value) (L : List Lt) : Prop := Lts W v L ∧ (0 < L.length → ∀ a n c, v = .slice (some a) n c → a.block < B)
theorem LtsB.of {W : World} {v : Value} {L : List Lt} (h : Lts W v L) : LtsB W.heap.size W v L := by
  refine ⟨h, fun hl a n c e => ?_⟩
  rcases h with ⟨rfl, rfl⟩ | ⟨a', cap, rfl, _, _, hb, _⟩
  · simp at hl
  · injection e with e _ _
    injection e with e
    subst e
    exact hb hl
theorem LtsB.below {B B' : Nat} {W W' : World} {v : Value} {L : List Lt} (h : LtsB B W v L) (hb : Below B' W W') (hB : B ≤ B') : LtsB B W' v L := by
  refine ⟨?_, h.2⟩
  have h2 := h.2
  rcases h.1 with h0 | ⟨a, cap, e, h3, h4, h5, h6⟩
  · exact .inl h0
  · refine .inr ⟨a, cap, e, h3, h4, fun hl => Nat.lt_of_lt_of_le (h5 hl) hb.size, fun i hi => ?_⟩
    have hlt := h2 (by omega) a L.length cap e
    exact (h6 i hi).below hb (by rw [add_block]; omega)
/-- Numbers that lie ahead of the block B. -/
def ItsB (B : Nat) (W : World) (v : Value) (X : List Int) : Prop := Its W v X ∧ (0 < X.length → ∀ a n c, v = .slice (some a) n c → a.block < B)
theorem ItsB.of {W : World} {v : Value} {X : List Int} (h : Its W v X) : ItsB W.heap.size W v X := by
  refine ⟨h, fun hl a n c e => ?_⟩
  rcases h with ⟨rfl, rfl⟩ | ⟨a', cap, rfl, _, _, hb, _⟩
  · simp at hl
  · injection e with e _ _
    injection e with e
    subst e
    exact hb hl
theorem ItsB.below {B B' : Nat} {W W' : World} {v : Value} {X : List Int} (h : ItsB B W v X) (hb : Below B' W W') (hB : B ≤ B') : ItsB B W' v X := by
  refine ⟨?_, h.2⟩
  have h2 := h.2
  rcases h.1 with h0 | ⟨a, cap, e, h3, h4, h5, h6⟩
  · exact .inl h0
  · refine .inr ⟨a, cap, e, h3, h4, fun hl => Nat.lt_of_lt_of_le (h5 hl) hb.size, fun i hi => ?_⟩
    have hlt := h2 (by omega) a X.length cap e
    exact (hb.cell (by rw [add_block]; omega)).trans (h6 i hi)
theorem C2.below {B B' : Nat} {x y : Value} {W W' : World} (h : C2 B x y W) (hb : Below B' W W') (hB : B < B') : C2 B x y W' := by
  obtain ⟨h0, h1, h2, h3, h4⟩ := h
  exact ⟨Nat.lt_of_lt_of_le h0 hb.size, (hb.cell (p := ⟨B, 0, none⟩) hB).trans h1, (hb.cell (p := ⟨B, 1, none⟩) hB).trans h2, (hb.frozen (p := ⟨B, 0, none⟩) hB).trans h3, (hb.frozen (p := ⟨B, 1, none⟩) hB).trans h4⟩
/-- What stands while a law of a bag goes on: the bag's letters v and its box, the model's answer u, all ahead of the block b. -/
def PB (w : World) (b : Nat) (m : Int) (v u : Value) (L : List Lt) (X : List Int) (W : World) : Prop :=
  w.heap.size < b ∧ b ≤ W.heap.size ∧ LtsB w.heap.size W v L ∧ ItsB b W u X ∧ C2 w.heap.size (.int .i64 m) v W ∧ Below w.heap.size w W
theorem PB.step {w W W' : World} {b B : Nat} {m : Int} {v u : Value} {L : List Lt} {X : List Int} (h : PB w b m v u L X W) (hb : Below B W W') (hB : b ≤ B) : PB w b m v u L X W' :=
  ⟨h.1, Nat.le_trans h.2.1 hb.size, h.2.2.1.below hb (Nat.le_trans (Nat.le_of_lt h.1) hB), h.2.2.2.1.below hb hB, h.2.2.2.2.1.below hb (Nat.lt_of_lt_of_le h.1 hB), h.2.2.2.2.2.trans (hb.mono (Nat.le_trans (Nat.le_of_lt h.1) hB))⟩
theorem PB.call {w W W' : World} {b : Nat} {m : Int} {v u : Value} {L : List Lt} {X : List Int} (h : PB w b m v u L X W) (hb : Below W.heap.size W W') : PB w b m v u L X W' := h.step hb h.2.1

set_option maxRecDepth 20000 in
set_option maxHeartbeats 4000000 in
theorem lawBagFor (m : Int) (v : Value) (L : List Lt) (node : Int) (w : World) (h : Lts w v L ∧ ∀ l ∈ L, l.s.size ≤ maxLen) :
    Calls Try.prog 4 #[.agg #[.int .i64 m, v], .int .i64 node] w fun e w' => e = .returned (.bool true) ∧ Below w.heap.size w w' := by
  obtain ⟨hT, hs⟩ := h
  have c1 := fun (W : World) (h : Lts W v L) => szbag_is W m v L h hs
  have k1 := fun (W : World) (u : Value) (h : Lts W u L) => bfor_spec W m node u L h hs
  have k2 := fun (W : World) (u : Value) (h : Lts W u L) => bfor_impl W m node u L h hs
  have hX0 := bagFor_len m L node
  generalize bagFor m L node = X at k1 k2 hX0
  have hlX : X.length ≤ 1048576 := by omega
  have hb0 : Below w.heap.size w (w.alloc (.cells #[.int .i64 m, v] 39)) := (Below.refl _ _).alloc (Nat.le_refl _) _
  have hB0 := C2.new w (.int .i64 m) v 39
  have hTB := LtsB.of hT
  have hT0 := hT.call hb0
  obtain ⟨oa, cap, hv, _⟩ := hT.len
  go_enter Try.func4, Try.ntmps4
  clear hT hs hX0
  subst hv
  go_wp2_with (go_at_call 10; refine (c1 _ hT0).mono ?_; rintro e w1 ⟨r, rfl, hb1, hr⟩; obtain ⟨l1, d0, d1, -, -⟩ := id (hB0.call hb1); have hB1 := hB0.call hb1; have hT1 := hT0.call hb1; have z1 := below_after hb0 hb1 hb0.size; clear hB0 hb0 hb1 hT0 c1)
  · go_ret
    exact ⟨rfl, z1⟩
  · have hlen := (hr (by omega)).2
    have c2 := fun (W : World) (h : Lts W (.slice oa L.length cap) L) => tobag_is W m _ L h hlen
    have mg : ∀ (W : World) (u : Value) (base : Nat), W.ownsRow base 3 1 u X.length (ics X) → Calls Try.prog 16 #[u, .int .i64 1] W fun e w' => ∃ r : Nat, e = .returned (.int .i64 (r : Int)) ∧ Below base W w' ∧ HeldI w' u X.length 1 r := fun W u base h => markGI W u X base 1 h hlX (by omega)
    have hg : ∀ (W : World) (u : Value) (r : Nat), HeldI W u X.length 1 r → Calls Try.prog 17 #[u, .int .i64 1] W fun e w' => e = .returned (.int .i64 (r : Int)) ∧ W = w' := fun W u r h => heldI W u X.length 1 r h hlX (by omega)
    clear hr
    go_wp2_with (first
      | (go_at_call 13; refine (eqis_is w5 _ _ X (own_its G5) P5.2.2.2.1.1).mono ?_; rintro e w6 ⟨rfl, hb6⟩; have P6 := P5.call hb6; have X6 := X5.call hb6; have Y6 := Y5.call hb6; have G6 := own_callI G5 hb6; obtain ⟨-, q0, q1, -, -⟩ := id P6.2.2.2.2.1; obtain ⟨-, x0, x1, -, -⟩ := id Y6; clear hb6 P5 X5 Y5 G5)
      | (go_at_call 7; refine (k2 _ _ ((R4.call D4).lts hlen)).mono ?_; rintro e w5 ⟨uG, rfl, G5, hb5⟩; have P5 := P4.call hb5; have X5 := (R4.call D4).call hb5; have Y5 := Y4.call hb5; have l5 := G5; obtain ⟨oG, cG, rfl⟩ := owi_len G5; clear hb5 P4 R4 Y4 D4 l5)
      | (have hh := P3; go_at_call 12; refine (c2 w3 P3.2.2.1.1).mono ?_; rintro e w4 ⟨b4, rfl, lb4, R4, hb4⟩; have D4 : Below w4.heap.size w4 (w4.alloc (.cells #[.int .i64 m, .slice (some ⟨b4, 0, none⟩) L.length L.length] 25)) := (Below.refl _ _).alloc (Nat.le_refl _) _; have P4 := (P3.call hb4).call D4; have Y4 := C2.new w4 (.int .i64 m) (.slice (some ⟨b4, 0, none⟩) L.length L.length) 25; have l34 := hb4.size; have lb4' := R4.1; clear hb4 P3 hh)
      | (go_at_call 11; refine (k1 w2 _ (R2.lts hlen)).mono ?_; rintro e w3 ⟨uS, rfl, GS, hb3⟩; have hs3 := hb3.size; have P3 : PB w w3.heap.size m (.slice oa L.length cap) uS L X w3 := ⟨by have := hB2.1; omega, Nat.le_refl _, ((hTB.below z2 (Nat.le_refl _)).below hb3 z2.size), ItsB.of (own_its GS), hB2.call hb3, below_after z2 hb3 z2.size⟩; obtain ⟨oS, cS, rfl⟩ := owi_len GS; obtain ⟨-, e0, e1, -, -⟩ := id P3.2.2.2.2.1; clear hb3 GS R2 hB2 hTB)
      | (go_at_call 12; refine (c2 w1 hT1).mono ?_; rintro e w2 ⟨b2, rfl, lb2, R2, hb2⟩; have hB2 := hB1.call hb2; have z2 := below_after z1 hb2 z1.size; clear hB1 hT1 hb2))
    have ct : ∀ W : World, Below w6.heap.size w6 W → Calls Try.prog 12 #[.agg #[.int .i64 m, .slice oa L.length cap]] W fun e w' => ∃ B : Nat, e = .returned (.agg #[.int .i64 m, .slice (some ⟨B, 0, none⟩) L.length L.length]) ∧ LR B L.length L L.length w' ∧ Below w6.heap.size w6 w' := fun W h => (c2 W (P6.call h).2.2.1.1).mono (fun e w' ⟨B, e1, _, e3, e4⟩ => ⟨B, e1, e3, below_after h e4 h.size⟩)
    go_region_held3 (fun w' => w'.cell? ⟨w4.heap.size, 0, none⟩ = some (.int .i64 m) ∧ w'.cell? ⟨w4.heap.size, 1, none⟩ = some (.slice (some ⟨b4, 0, none⟩) L.length L.length) ∧ w'.cell? ⟨w.heap.size, 0, none⟩ = some (.int .i64 m) ∧ w'.cell? ⟨w.heap.size, 1, none⟩ = some (.slice oa L.length cap)) ((refine ⟨?_, ?_, ?_, ?_⟩ <;> assumption)) ((first
      | (go_at_call 14; refine (eqbag_is _ m _ _ L (X7.lts hlen) (R7.lts hlen)).mono ?_; rintro e w8 ⟨rfl, hb8⟩; have P8 := P7.call hb8; have X8 := X7.call hb8; have Y8 := Y7.call hb8; have G8 := own_callI G7 hb8; obtain ⟨-, x0'', x1'', -, -⟩ := id Y8; obtain ⟨-, q0'', q1'', -, -⟩ := id P8.2.2.2.2.1)
      | (go_at_call 12; refine (ct _ (by repeat' (first | (with_reducible exact Below.refl _ _) | (with_reducible assumption) | (with_reducible refine below_drewN ?_ _) | (with_reducible refine Below.setCell ?_ ?_ _) | (with_reducible refine Below.alloc ?_ ?_ _) | (with_reducible refine Below.drew ?_) | go_size))).mono ?_; rintro e w7 ⟨b7, rfl, R7, hb7⟩; have P7 := P6.call hb7; have X7 := X6.call hb7; have Y7 := Y6.call hb7; have G7 := own_callI G6 hb7; obtain ⟨-, x0', x1', -, -⟩ := id Y7; obtain ⟨-, q0', q1', -, -⟩ := id P7.2.2.2.2.1)))
    clear ct P6 X6 Y6 G6 P7 X7 Y7 G7 q0' q1' x0' x1' R7 q0 q1 x0 x1 e0 e1 d0 d1
    go_wp2_with (first
      | (go_at_call 17; refine (hg wE _ rB HE).mono ?_; rintro e w' ⟨rfl, rfl⟩)
      | (go_at_call 13; refine (eqis_is wD _ _ X (own_its GD) PD.2.2.2.1.1).mono ?_; rintro e wE ⟨rfl, hbE⟩; have PE := PD.call hbE; have HE := HD.call hbE; clear hbE PD HD GD)
      | (go_at_call 7; refine (k2 wC _ (RC.lts hlen)).mono ?_; rintro e wD ⟨uD, rfl, GD, hbD⟩; have PD := PC.call hbD; have HD := HC.call hbD; obtain ⟨oD, cD, rfl⟩ := owi_len GD; clear hbD PC HC RC)
      | (go_at_call 12; refine (c2 wB PBB.2.2.1.1).mono ?_; rintro e wC ⟨bC, rfl, lbC, RC, hbC⟩; have PC := PBB.call hbC; have HC := HB.call hbC; clear hbC PBB HB)
      | (go_at_call 17; refine (hg wB _ rB HB).mono ?_; rintro e w' ⟨rfl, rfl⟩)
      | (go_at_call 16; refine (mg wA _ _ GA).mono ?_; rintro e wB ⟨rB, rfl, hbB, HB⟩; have nB : ¬ (rB : Int) < 0 := (by omega); have PBB := PA.step hbB (by simp only [World.size_alloc]; omega); obtain ⟨-, y0, y1, -, -⟩ := id PBB.2.2.2.2.1; clear hbB PA GA)
      | (go_at_call 13; refine (eqis_is w9 _ _ X (own_its G9) P9.2.2.2.1.1).mono ?_; rintro e wA ⟨rfl, hbA⟩; have PA := P9.call hbA; have GA := own_callI G9 hbA; clear hbA P9 G9)
      | (go_at_call 15; refine (markbag_is w8 m b4 L.length L.length X8.sr hlen).mono ?_; rintro e w9 ⟨r9, rfl, hg9⟩; have n9 : ¬ (r9 : Int) < 0 := (by omega); have P9 := P8.step (grown_below_at hg9 (Nat.le_of_lt X8.1)) lb4; have G9 := G8.kept hg9 (.inr (fun e => absurd (G8.lt _ e).1 (by simp only [World.size_alloc]; omega))); clear hg9 P8 G8 X8 Y8 x0'' x1'' q0'' q1''))
    go_ret
    exact ⟨rfl, PE.2.2.2.2.2⟩
end Go.Proofs.Ytnfnhgloblfgnaa
