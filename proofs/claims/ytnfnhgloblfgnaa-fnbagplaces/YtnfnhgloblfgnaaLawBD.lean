/-
  What stands while a law of a bag's change goes on.
-/
import Derived.Test.YtnfnhgloblfgnaaJoinB25
import Derived.Test.YtnfnhgloblfgnaaLawBF
namespace Go.Proofs.Ytnfnhgloblfgnaa
open Go.RowKit

theorem L3.below {B B' : Nat} {f t : Int} {s : ByteArray} {W W' : World} (h : L3 B f t s W) (hb : Below B' W W') (hB : B < B') : L3 B f t s W' := by
  obtain ⟨⟨h0, h1, h2, h3⟩, f0, f1, f2⟩ := h
  exact ⟨⟨Nat.lt_of_lt_of_le h0 hb.size, (hb.cell (p := ⟨B, 0, none⟩) hB).trans h1, (hb.cell (p := ⟨B, 1, none⟩) hB).trans h2, (hb.cell (p := ⟨B, 2, none⟩) hB).trans h3⟩, (hb.frozen (p := ⟨B, 0, none⟩) hB).trans f0, (hb.frozen (p := ⟨B, 1, none⟩) hB).trans f1, (hb.frozen (p := ⟨B, 2, none⟩) hB).trans f2⟩
/-- The bag that was handed in: its letters v and its box. -/
def QB (w : World) (m : Int) (v : Value) (L : List Lt) (W : World) : Prop :=
  LtsB w.heap.size W v L ∧ C2 w.heap.size (.int .i64 m) v W ∧ Below w.heap.size w W
theorem QB.step {w W W' : World} {B : Nat} {m : Int} {v : Value} {L : List Lt} (h : QB w m v L W) (hb : Below B W W') (hB : w.heap.size < B) : QB w m v L W' :=
  ⟨h.1.below hb (Nat.le_of_lt hB), h.2.1.below hb hB, h.2.2.trans (hb.mono (Nat.le_of_lt hB))⟩
theorem QB.call {w W W' : World} {m : Int} {v : Value} {L : List Lt} (h : QB w m v L W) (hb : Below W.heap.size W W') : QB w m v L W' := h.step hb h.2.1.1
/-- The document's answer: its box b, its letters u, all ahead of the block c. -/
def AB (b c : Nat) (m' : Int) (u : Value) (Y : List Lt) (W : World) : Prop := b < c ∧ c ≤ W.heap.size ∧ LtsB c W u Y ∧ C2 b (.int .i64 m') u W
theorem AB.step {W W' : World} {b c B : Nat} {m' : Int} {u : Value} {Y : List Lt} (h : AB b c m' u Y W) (hb : Below B W W') (hB : c ≤ B) : AB b c m' u Y W' :=
  ⟨h.1, Nat.le_trans h.2.1 hb.size, h.2.2.1.below hb hB, h.2.2.2.below hb (Nat.lt_of_lt_of_le h.1 hB)⟩
theorem AB.call {W W' : World} {b c : Nat} {m' : Int} {u : Value} {Y : List Lt} (h : AB b c m' u Y W) (hb : Below W.heap.size W W') : AB b c m' u Y W' := h.step hb h.2.1
theorem AB.new {W : World} {m' : Int} {u : Value} {Y : List Lt} (h : Lts W u Y) (t : TypeId) : AB W.heap.size (W.alloc (.cells #[.int .i64 m', u] t)).heap.size m' u Y (W.alloc (.cells #[.int .i64 m', u] t)) := by
  rw [World.size_alloc]
  have hb : Below W.heap.size W (W.alloc (.cells #[.int .i64 m', u] t)) := (Below.refl _ _).alloc (Nat.le_refl _) _
  exact ⟨Nat.lt_succ_self _, by simp, ⟨h.call hb, fun hl a n c e => Nat.lt_succ_of_lt ((LtsB.of h).2 hl a n c e)⟩, C2.new W _ _ t⟩
/-- Two cells written over. -/
theorem C2.put {B : Nat} {x y x' y' : Value} {W : World} (h : C2 B x y W) : C2 B x' y' ((W.setCell ⟨B, 0, none⟩ x').setCell ⟨B, 1, none⟩ y') := by
  obtain ⟨h0, h1, h2, h3, h4⟩ := h
  refine ⟨by simp only [World.size_setCell]; exact h0, ?_, ?_, by simp only [World.frozen?_setCell]; exact h3, by simp only [World.frozen?_setCell]; exact h4⟩
  · rw [set_off (by omega)]; exact set_same (by rw [h1]; rfl)
  · exact set_same (by rw [set_off (by omega), h2]; rfl)
theorem grown_put (W : World) (B : Nat) (x' y' : Value) : W.grownBy ((W.setCell ⟨B, 0, none⟩ x').setCell ⟨B, 1, none⟩ y') (some B) := (grown_set W B 0 x').trans2 (grown_set _ B 1 y')
theorem below_put (W : World) (B : Nat) (x' y' : Value) (hB : B ≤ W.heap.size) : Below B W ((W.setCell ⟨B, 0, none⟩ x').setCell ⟨B, 1, none⟩ y') := grown_below_at (grown_put W B x' y') hB
theorem AB.put {W : World} {b base : Nat} {m' : Int} {u x y : Value} {Y : List Lt} (hX : C2 b x y W) (h : W.ownsRow base 32 3 u Y.length (lcs Y)) (hb : b < base) :
    AB b ((W.setCell ⟨b, 0, none⟩ (.int .i64 m')).setCell ⟨b, 1, none⟩ u).heap.size m' u Y ((W.setCell ⟨b, 0, none⟩ (.int .i64 m')).setCell ⟨b, 1, none⟩ u) := by
  have h2 := h.kept (grown_put W b (.int .i64 m') u) (.inr (fun e => by have := (h.lt _ e).1; omega))
  have h3 := LtsB.of (own_lts h2)
  exact ⟨by simp only [World.size_setCell]; exact hX.1, Nat.le_refl _, h3, hX.put⟩
theorem below_row {W W' : World} {row : Option Nat} {c : Nat} (hg : W.grownBy W' row) (h : ∀ j, row = some j → c ≤ j) (hc : c ≤ W.heap.size) : Below c W W' :=
  ⟨hg.os, hg.tape, hg.output, hg.size, fun k hk => hg.block k (Nat.lt_of_lt_of_le hk hc) (fun e => by have := h k e.symm; omega)⟩
theorem LR.grown {B n k : Nat} {L : List Lt} {W W' : World} {row : Option Nat} (h : LR B n L k W) (hg : W.grownBy W' row) (hr : row ≠ some B) : LR B n L k W' := by
  have e : W'.heap[B]? = W.heap[B]? := hg.block B h.1 (fun e => hr e.symm)
  have ec : ∀ i, W'.cell? ⟨B, i, none⟩ = W.cell? ⟨B, i, none⟩ := fun i => World.cell?_of_block (w := W) (a := ⟨B, i, none⟩) e
  have ef : ∀ i, W'.frozen? ⟨B, i, none⟩ = W.frozen? ⟨B, i, none⟩ := fun i => World.frozen?_of_block (w := W) (a := ⟨B, i, none⟩) e
  exact ⟨Nat.lt_of_lt_of_le h.1 hg.size, fun i hi => ⟨by rw [ec]; exact (h.2.1 i hi).1, by rw [ef]; exact (h.2.1 i hi).2⟩, fun i hi hk => ⟨(ec _).trans (h.2.2 i hi hk).1, (ec _).trans (h.2.2 i hi hk).2.1, (ec _).trans (h.2.2 i hi hk).2.2⟩⟩
theorem OwnL.grown {W W' : World} {c : Nat} {u : Value} {Y : List Lt} {row : Option Nat} (h : OwnL c W u Y) (hg : W.grownBy W' row) (hr : ∀ j, row = some j → j < c) : OwnL c W' u Y := by
  rcases h with h | ⟨g, h1, h2, h3⟩
  · exact .inl h
  · exact .inr ⟨g, h1, h2, h3.grown hg (fun e => by have := hr g e; omega)⟩
/-- The program's answer: its box g, its letters u in a row of its own from the block c on, which is not the box. -/
def OB (g c : Nat) (m' : Int) (u : Value) (Y : List Lt) (W : World) : Prop := c ≤ g ∧ C2 g (.int .i64 m') u W ∧ OwnL c W u Y ∧ (∀ n k, u = .slice (some ⟨g, 0, none⟩) n k → n = 0)
theorem OB.call {W W' : World} {g c : Nat} {m' : Int} {u : Value} {Y : List Lt} (h : OB g c m' u Y W) (hb : Below W.heap.size W W') : OB g c m' u Y W' :=
  ⟨h.1, h.2.1.call hb, h.2.2.1.call hb, h.2.2.2⟩
theorem OB.grown {W W' : World} {g c : Nat} {m' : Int} {u : Value} {Y : List Lt} {row : Option Nat} (h : OB g c m' u Y W) (hg : W.grownBy W' row) (hr : ∀ j, row = some j → j < c) : OB g c m' u Y W' :=
  ⟨h.1, h.2.1.grown hg (fun e => by have := hr g e; have := h.1; omega), h.2.2.1.grown hg hr, h.2.2.2⟩
theorem OwnL.not_at {W : World} {c g : Nat} {u : Value} {Y : List Lt} (h : OwnL c W u Y) (hg : g < c ∨ W.heap.size ≤ g) : ∀ n k, u = .slice (some ⟨g, 0, none⟩) n k → n = 0 := by
  intro n k e
  rcases h with ⟨rfl, oa, rfl⟩ | ⟨g', rfl, h2, h3⟩
  · injection e with _ e _; exact e.symm
  · injection e with e _ _
    injection e with e
    have e' : g' = g := congrArg Addr.block e
    have := h3.1
    omega
theorem OB.new {W : World} {c base : Nat} {m' : Int} {u : Value} {Y : List Lt} (h : OwnL base W u Y) (hb : c ≤ base) (hc : c ≤ W.heap.size) (t : TypeId) : OB W.heap.size c m' u Y (W.alloc (.cells #[.int .i64 m', u] t)) := by
  have hb' : Below W.heap.size W (W.alloc (.cells #[.int .i64 m', u] t)) := (Below.refl _ _).alloc (Nat.le_refl _) _
  exact ⟨hc, C2.new W _ _ t, (h.down hb).call hb', h.not_at (.inr (Nat.le_refl _))⟩
theorem OB.put {W : World} {b c base : Nat} {m' : Int} {u x y : Value} {Y : List Lt} (hX : C2 b x y W) (h : OwnL base W u Y) (hb : b < base) (hc : c ≤ b) :
    OB b c m' u Y ((W.setCell ⟨b, 0, none⟩ (.int .i64 m')).setCell ⟨b, 1, none⟩ u) :=
  ⟨hc, hX.put, ((h.set _ _ _ hb).set _ _ _ hb).down (by omega), h.not_at (.inl hb)⟩
theorem OwnL.lts {W : World} {c : Nat} {u : Value} {Y : List Lt} (h : OwnL c W u Y) (hl : Y.length ≤ 1048576) : Lts W u Y := by
  rcases h with ⟨rfl, oa, rfl⟩ | ⟨g, rfl, _, h3⟩
  · cases oa with
    | none => exact .inl ⟨rfl, rfl⟩
    | some a => exact .inr ⟨a, 0, rfl, Nat.le_refl _, by unfold maxLen; omega, fun h => absurd h (by simp), fun i hi => absurd hi (by simp)⟩
  · exact h3.lts hl
theorem OwnL.len {W : World} {c : Nat} {u : Value} {Y : List Lt} (h : OwnL c W u Y) : ∃ a, u = .slice a Y.length Y.length := by
  rcases h with ⟨rfl, oa, rfl⟩ | ⟨g, rfl, _, _⟩
  · exact ⟨oa, rfl⟩
  · exact ⟨_, rfl⟩
/-- A bag laid in a box X, its letters in the block B. -/
def XB (X B : Nat) (m : Int) (L : List Lt) (W : World) : Prop := C2 X (.int .i64 m) (.slice (some ⟨B, 0, none⟩) L.length L.length) W ∧ LR B L.length L L.length W
theorem XB.call {W W' : World} {X B : Nat} {m : Int} {L : List Lt} (h : XB X B m L W) (hb : Below W.heap.size W W') : XB X B m L W' := ⟨h.1.call hb, h.2.call hb⟩
theorem XB.new {W : World} {B : Nat} {m : Int} {L : List Lt} (h : LR B L.length L L.length W) (t : TypeId) : XB W.heap.size B m L (W.alloc (.cells #[.int .i64 m, .slice (some ⟨B, 0, none⟩) L.length L.length] t)) :=
  ⟨C2.new W _ _ t, h.call ((Below.refl _ _).alloc (Nat.le_refl _) _)⟩
theorem XB.put {W : World} {X B g : Nat} {m : Int} {L : List Lt} (h : XB X B m L W) (hX : X < g) (hB : B < g) (x y : Value) : XB X B m L ((W.setCell ⟨g, 0, none⟩ x).setCell ⟨g, 1, none⟩ y) :=
  ⟨h.1.grown (grown_put W g x y) (fun e => by injection e with e; omega), h.2.grown (grown_put W g x y) (fun e => by injection e with e; omega)⟩
/-- The marks of the program's answer, its letters ahead of the block c. -/
def HeB (c : Nat) (u : Value) (n r : Nat) (W : World) : Prop := HeldL W u n r ∧ ∀ a k, u = .slice (some a) n k → n = 0 ∨ a.block < c
theorem HeB.step {W W' : World} {c B : Nat} {u : Value} {n r : Nat} (h : HeB c u n r W) (hb : Below B W W') (hB : c ≤ B) : HeB c u n r W' := by
  obtain ⟨⟨hr, h0⟩, h2⟩ := h
  refine ⟨⟨hr, ?_⟩, h2⟩
  rcases h0 with h0 | ⟨g, cap, e, hg, hd⟩
  · exact .inl h0
  · rcases h2 _ _ e with h3 | h3
    · exact .inl ⟨h3, by subst h3; exact ⟨_, _, e⟩⟩
    · have hgB : g < B := Nat.lt_of_lt_of_le h3 hB
      exact .inr ⟨g, cap, e, Nat.lt_of_lt_of_le hg hb.size, fun i hi => by
        obtain ⟨h1, h2, h3⟩ := hd i hi
        exact ⟨(hb.cell (p := ⟨g, i * 3, none⟩) hgB).trans h1, (hb.cell (p := ⟨g, i * 3 + 1, none⟩) hgB).trans h2, (hb.cell (p := ⟨g, i * 3 + 2, none⟩) hgB).trans h3⟩⟩
theorem HeB.call {W W' : World} {c : Nat} {u : Value} {n r : Nat} (h : HeB c u n r W) (hc : c ≤ W.heap.size) (hb : Below W.heap.size W W') : HeB c u n r W' := h.step hb hc
set_option maxRecDepth 20000 in
theorem markbagR (W : World) (base : Nat) (m : Int) (u : Value) (L : List Lt) (h : OwnL base W u L) (hn : L.length ≤ 1048576) :
    Calls Try.prog 15 #[.agg #[.int .i64 m, u], .int .i64 1] W fun e w' => ∃ (r : Nat) (row : Option Nat), e = .returned (.int .i64 (r : Int)) ∧ W.grownBy w' row ∧ (∀ j, row = some j → base ≤ j ∧ L.length ≠ 0 ∧ u = .slice (some ⟨j, 0, none⟩) L.length L.length) ∧ HeB w'.heap.size u L.length r w' := by
  have hb0 : Below W.heap.size W (W.alloc (.cells #[.int .i64 m, u] 25)) := (Below.refl _ _).alloc (Nat.le_refl _) _
  have hg0 : ∀ r : Option Nat, W.grownBy (W.alloc (.cells #[.int .i64 m, u] 25)) r := fun r => World.grownBy_alloc W _ r
  have h' : (L = [] ∧ ∃ oa, u = .slice oa 0 0) ∨ (0 < L.length ∧ ∃ g, u = .slice (some ⟨g, 0, none⟩) L.length L.length ∧ base ≤ g ∧ LR g L.length L L.length W) := by
    rcases h with h | ⟨g, h1, h2, h3⟩
    · exact .inl h
    · cases L with
      | nil => exact .inl ⟨rfl, _, h1⟩
      | cons l L => exact .inr ⟨by simp, g, h1, h2, h3⟩
  clear h
  rcases h' with ⟨rfl, oa, rfl⟩ | ⟨hpos, g, rfl, hg, hr⟩
  · have c := fun V : World => markletN V oa 0
    go_enter Try.func15, Try.ntmps15
    go_wp2_with (go_at_call 30; refine (c _).mono ?_; rintro e w1 ⟨rfl, rfl⟩; clear c)
    go_ret
    exact ⟨1, none, rfl, hg0 none, (fun j e => by cases e), ⟨rfl, .inl ⟨rfl, _, _, rfl⟩⟩, fun _ _ _ => .inl rfl⟩
  · have c := markletT _ g L.length L.length (hr.sr.call hb0) hn
    have hgs := hr.1
    clear hr
    go_enter Try.func15, Try.ntmps15
    go_wp2_with (go_at_call 30; refine c.mono ?_; rintro e w1 ⟨rfl, hg1, hs1, hl1⟩; clear c)
    go_ret
    exact ⟨_, some g, rfl, grown_trans (hg0 _) hg1, (fun j e => by injection e with e; subst e; exact ⟨hg, by omega, rfl⟩), ⟨rfl, .inr ⟨g, _, rfl, hs1.1, hl1⟩⟩, fun a k e => .inr (by injection e with e; injection e with e; subst e; exact hs1.1)⟩
end Go.Proofs.Ytnfnhgloblfgnaa
