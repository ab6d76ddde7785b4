/-
  What stands while the law of a log's growth goes on.
-/
import Derived.Test.YtegihccdpohnnaaLg5
namespace Go.Proofs.Ytegihccdpohnnaa
open Go.RowKit

/-- Texts that lie ahead of the block B. -/
def TxL (B : Nat) (W : World) (v : Value) (S : List ByteArray) : Prop := Txt W v S ∧ (0 < S.length → ∀ a n c, v = .slice (some a) n c → a.block < B)
theorem TxL.of {W : World} {v : Value} {S : List ByteArray} (h : Txt W v S) : TxL W.heap.size W v S := by
  refine ⟨h, fun hl a n c e => ?_⟩
  rcases h with ⟨rfl, rfl⟩ | ⟨a', cap, rfl, _, _, hb, _⟩
  · simp at hl
  · injection e with e _ _
    injection e with e
    subst e
    exact hb hl
theorem TxL.below {B B' : Nat} {W W' : World} {v : Value} {S : List ByteArray} (h : TxL B W v S) (hb : Below B' W W') (hB : B ≤ B') : TxL B W' v S := by
  refine ⟨?_, h.2⟩
  have h2 := h.2
  rcases h.1 with h0 | ⟨a, cap, e, h3, h4, h5, h6⟩
  · exact .inl h0
  · refine .inr ⟨a, cap, e, h3, h4, fun hl => Nat.lt_of_lt_of_le (h5 hl) hb.size, fun i hi => ?_⟩
    have hlt := h2 (by omega) a S.length cap e
    rw [hb.cell (p := a.add i) (by rw [add_block]; omega)]
    exact h6 i hi
/-- The log that was handed in: its texts v and its box. -/
def QT (w : World) (v : Value) (S : List ByteArray) (W : World) : Prop :=
  TxL w.heap.size W v S ∧ C1 w.heap.size v W ∧ Below w.heap.size w W
theorem QT.step {w W W' : World} {B : Nat} {v : Value} {S : List ByteArray} (h : QT w v S W) (hb : Below B W W') (hB : w.heap.size < B) : QT w v S W' :=
  ⟨h.1.below hb (Nat.le_of_lt hB), h.2.1.below hb hB, h.2.2.trans (hb.mono (Nat.le_of_lt hB))⟩
theorem QT.call {w W W' : World} {v : Value} {S : List ByteArray} (h : QT w v S W) (hb : Below W.heap.size W W') : QT w v S W' := h.step hb h.2.1.1
/-- The document's answer: its box b, its texts u, all ahead of the block c. -/
def AT (b c : Nat) (u : Value) (Y : List ByteArray) (W : World) : Prop := b < c ∧ c ≤ W.heap.size ∧ TxL c W u Y ∧ C1 b u W
theorem AT.step {W W' : World} {b c B : Nat} {u : Value} {Y : List ByteArray} (h : AT b c u Y W) (hb : Below B W W') (hB : c ≤ B) : AT b c u Y W' :=
  ⟨h.1, Nat.le_trans h.2.1 hb.size, h.2.2.1.below hb hB, h.2.2.2.below hb (Nat.lt_of_lt_of_le h.1 hB)⟩
theorem AT.call {W W' : World} {b c : Nat} {u : Value} {Y : List ByteArray} (h : AT b c u Y W) (hb : Below W.heap.size W W') : AT b c u Y W' := h.step hb h.2.1
theorem AT.new {W : World} {u : Value} {Y : List ByteArray} (h : Txt W u Y) (t : TypeId) : AT W.heap.size (W.heap.size + 1) u Y (W.alloc (.cells #[u] t)) := by
  have hb : Below W.heap.size W (W.alloc (.cells #[u] t)) := (Below.refl _ _).alloc (Nat.le_refl _) _
  exact ⟨Nat.lt_succ_self _, by simp, ⟨h.call hb, fun hl a n c e => Nat.lt_succ_of_lt ((TxL.of h).2 hl a n c e)⟩, C1.new W _ t⟩
theorem below_rowT {W W' : World} {row : Option Nat} {c : Nat} (hg : W.grownBy W' row) (h : ∀ j, row = some j → c ≤ j) (hc : c ≤ W.heap.size) : Below c W W' :=
  ⟨hg.os, hg.tape, hg.output, hg.size, fun k hk => hg.block k (Nat.lt_of_lt_of_le hk hc) (fun e => by have := h k e.symm; omega)⟩
/-- The program's answer: its box g, its texts u in a row of their own from the block c on, which is not the box. -/
def OT (g c : Nat) (u : Value) (Y : List ByteArray) (W : World) : Prop := c ≤ g ∧ C1 g u W ∧ W.ownsRow c 9 1 u Y.length (tcs Y) ∧ (∀ n k, u = .slice (some ⟨g, 0, none⟩) n k → n = 0)
theorem OT.call {W W' : World} {g c : Nat} {u : Value} {Y : List ByteArray} (h : OT g c u Y W) (hb : Below W.heap.size W W') : OT g c u Y W' :=
  ⟨h.1, h.2.1.call hb, own_callT h.2.2.1 hb, h.2.2.2⟩
theorem OT.grown {W W' : World} {g c : Nat} {u : Value} {Y : List ByteArray} {row : Option Nat} (h : OT g c u Y W) (hg : W.grownBy W' row) (hr : ∀ j, row = some j → j < c) : OT g c u Y W' :=
  ⟨h.1, h.2.1.grown hg (fun e => by have := hr g e; have := h.1; omega), h.2.2.1.kept hg (by
    by_cases e0 : u.ownBlock = none
    · exact .inl e0
    · exact .inr (fun e => by
        obtain ⟨j, hj⟩ := Option.ne_none_iff_exists'.1 e0
        have h1 := (h.2.2.1.lt j hj).1
        have h2 := hr j (e.symm.trans hj)
        omega)), h.2.2.2⟩
theorem OT.txt {W : World} {g c : Nat} {u : Value} {Y : List ByteArray} (h : OT g c u Y W) : Txt W u Y := own_txtL h.2.2.1
theorem OT.new {W : World} {c base : Nat} {u : Value} {Y : List ByteArray} (h : W.ownsRow base 9 1 u Y.length (tcs Y)) (hb : c ≤ base) (hc : c ≤ W.heap.size) (t : TypeId) : OT W.heap.size c u Y (W.alloc (.cells #[u] t)) := by
  have hb' : Below W.heap.size W (W.alloc (.cells #[u] t)) := (Below.refl _ _).alloc (Nat.le_refl _) _
  refine ⟨hc, C1.new W _ t, World.ownsRow.mono (own_callT h hb') hb, fun n k e => ?_⟩
  by_cases h0 : Y.length = 0
  · obtain ⟨oa, cap, e'⟩ := owt_len h
    rw [e'] at e
    injection e with _ e _
    omega
  · subst e
    exact absurd (h.lt _ rfl).2 (Nat.lt_irrefl _)
/-- A log laid in a box X, its texts in the block B. -/
def XT (X B : Nat) (S : List ByteArray) (W : World) : Prop := C1 X (.slice (some ⟨B, 0, none⟩) S.length S.length) W ∧ SR B S.length W ∧ TxL W.heap.size W (.slice (some ⟨B, 0, none⟩) S.length S.length) S
theorem XT.call {W W' : World} {X B : Nat} {S : List ByteArray} (h : XT X B S W) (hb : Below W.heap.size W W') : XT X B S W' :=
  ⟨h.1.call hb, h.2.1.call hb, TxL.of (h.2.2.1.call hb)⟩
theorem XT.new {W : World} {B : Nat} {S : List ByteArray} (h : SR B S.length W) (h' : Txt W (.slice (some ⟨B, 0, none⟩) S.length S.length) S) (t : TypeId) : XT W.heap.size B S (W.alloc (.cells #[.slice (some ⟨B, 0, none⟩) S.length S.length] t)) := by
  have hb' : Below W.heap.size W (W.alloc (.cells #[.slice (some ⟨B, 0, none⟩) S.length S.length] t)) := (Below.refl _ _).alloc (Nat.le_refl _) _
  exact ⟨C1.new W _ t, h.call hb', TxL.of (h'.call hb')⟩
/-- A mark's list in the texts of an answer stays where nothing below its block is written. -/
theorem HeldT.step {W W' : World} {B : Nat} {u : Value} {n r : Nat} (h : HeldT W u n r) (hb : Below B W W') (hB : W.heap.size ≤ B) : HeldT W' u n r := h.call (hb.mono hB)
theorem la_len (S : List ByteArray) (x : ByteArray) (h : S.length ≤ 1048576) : (la S x).1.length ≤ 1048576 := by
  unfold la
  split
  · simp
  · next hk =>
    have hk' : lok S = true := by simpa using hk
    obtain ⟨hl, _⟩ := lok_len hk'
    split
    · exact h
    · simp; omega
end Go.Proofs.Ytegihccdpohnnaa
