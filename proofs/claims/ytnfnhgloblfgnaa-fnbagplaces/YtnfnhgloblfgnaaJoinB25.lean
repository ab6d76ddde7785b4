/-
  The marks of letters read back; marks of a bag.
-/
import Derived.Test.YtnfnhgloblfgnaaLMark
import Derived.Test.YtnfnhgloblfgnaaNet5
import Derived.Test.YtnfnhgloblfgnaaJoinB12
import Derived.Laws.OwnMore
namespace Go.Proofs.Ytnfnhgloblfgnaa
open Go.RowKit

set_option maxRecDepth 20000 in
set_option maxHeartbeats 1000000 in
theorem markletN (W : World) (oa : Option Addr) (cap : Nat) :
    Calls Try.prog 30 #[.slice oa 0 cap, .int .i64 1] W fun e w' => e = .returned (.int .i64 1) ∧ w' = W := by
  go_enter Try.func30, Try.ntmps30
  go_wp2
  go_loopw [1, 5] (fun m i wr => m = .int .i64 1 ∧ i = .int .i64 0 ∧ wr = W) (fun _ _ _ => 0)
  case atStart => exact ⟨rfl, rfl, rfl⟩
  case round =>
    obtain ⟨rfl, rfl, rfl⟩ := hrel
    go_wp2
    go_ret
    exact ⟨rfl, rfl⟩
/-- The marks from 1 on lie in the letters u, n of them, and end at r. -/
def HeldL (W : World) (u : Value) (n r : Nat) : Prop := r = 1 + 3 * n ∧ ((n = 0 ∧ ∃ oa cap, u = .slice oa 0 cap) ∨ ∃ g cap, u = .slice (some ⟨g, 0, none⟩) n cap ∧ g < W.heap.size ∧ LM g n W)
theorem HeldL.call {W W' : World} {u : Value} {n r : Nat} (h : HeldL W u n r) (hb : Below W.heap.size W W') : HeldL W' u n r := by
  obtain ⟨hr, h0 | ⟨g, cap, e, hg, hd⟩⟩ := h
  · exact ⟨hr, .inl h0⟩
  · exact ⟨hr, .inr ⟨g, cap, e, Nat.lt_of_lt_of_le hg hb.size, hd.call hg hb⟩⟩
set_option maxRecDepth 20000 in
theorem markbagG (W : World) (base : Nat) (m : Int) (u : Value) (L : List Lt) (h : OwnL base W u L) (hbase : base ≤ W.heap.size) (hn : L.length ≤ 1048576) :
    Calls Try.prog 15 #[.agg #[.int .i64 m, u], .int .i64 1] W fun e w' => ∃ r : Nat, e = .returned (.int .i64 (r : Int)) ∧ Below base W w' ∧ HeldL w' u L.length r := by
  have hb0 : Below W.heap.size W (W.alloc (.cells #[.int .i64 m, u] 25)) := (Below.refl _ _).alloc (Nat.le_refl _) _
  have hbb : Below base W (W.alloc (.cells #[.int .i64 m, u] 25)) := hb0.mono hbase
  rcases h with ⟨rfl, oa, rfl⟩ | ⟨g, rfl, hg, hr⟩
  · have c := fun V : World => markletN V oa 0
    go_enter Try.func15, Try.ntmps15
    go_wp2_with (go_at_call 30; refine (c _).mono ?_; rintro e w1 ⟨rfl, rfl⟩; clear c)
    go_ret
    exact ⟨1, rfl, hbb, rfl, .inl ⟨rfl, _, _, rfl⟩⟩
  · have c := markletT _ g L.length L.length (hr.sr.call hb0) hn
    have hgs := hr.1
    clear hr
    go_enter Try.func15, Try.ntmps15
    go_wp2_with (go_at_call 30; refine c.mono ?_; rintro e w1 ⟨rfl, hg1, hs1, hl1⟩; clear c)
    go_ret
    exact ⟨_, rfl, hbb.grown hg1 (by have := hb0.size; omega) (fun j e => by injection e with e; omega), rfl, .inr ⟨g, _, rfl, hs1.1, hl1⟩⟩
end Go.Proofs.Ytnfnhgloblfgnaa

/-
  What a law of an answer that is a list of digests asks: the lists stand, whatever is written elsewhere.
-/
namespace Go.Proofs.Ytnfnhgloblfgnaa
open Go.RowKit

/-- A list of digests that lies ahead of the block B. -/
def DgsB (B : Nat) (W : World) (v : Value) (L : List Qd) : Prop := Dgs W v L ∧ (0 < L.length → ∀ a n c, v = .slice (some a) n c → a.block < B)
theorem DgsB.of {W : World} {v : Value} {L : List Qd} (h : Dgs W v L) : DgsB W.heap.size W v L := by
  refine ⟨h, fun hl a n c e => ?_⟩
  rcases h with ⟨rfl, rfl⟩ | ⟨a', cap, rfl, _, _, hb, _⟩
  · simp at hl
  · injection e with e _ _
    injection e with e
    subst e
    exact hb hl
theorem DgsB.mono {B B' : Nat} {W : World} {v : Value} {L : List Qd} (h : DgsB B W v L) (hB : B ≤ B') : DgsB B' W v L :=
  ⟨h.1, fun hl a n c e => Nat.lt_of_lt_of_le (h.2 hl a n c e) hB⟩
theorem DgsB.below {B B' : Nat} {W W' : World} {v : Value} {L : List Qd} (h : DgsB B W v L) (hb : Below B' W W') (hB : B ≤ B') : DgsB B W' v L := by
  refine ⟨?_, h.2⟩
  have h2 := h.2
  rcases h.1 with h0 | ⟨a, cap, e, h3, h4, h5, h6⟩
  · exact .inl h0
  · refine .inr ⟨a, cap, e, h3, h4, fun hl => Nat.lt_of_lt_of_le (h5 hl) hb.size, fun i hi => ?_⟩
    have hlt := h2 (by omega) a L.length cap e
    exact (h6 i hi).below hb (by rw [add_block]; omega)
/-- What stands while a law goes on: its argument v, the model's answer u, both ahead of the block b. -/
def PS (w : World) (b : Nat) (v u : Value) (L R : List Qd) (W : World) : Prop :=
  w.heap.size ≤ b ∧ b ≤ W.heap.size ∧ DgsB w.heap.size W v L ∧ DgsB b W u R ∧ Below w.heap.size w W
theorem PS.step {w W W' : World} {b B : Nat} {v u : Value} {L R : List Qd} (h : PS w b v u L R W) (hb : Below B W W') (hB : b ≤ B) : PS w b v u L R W' :=
  ⟨h.1, Nat.le_trans h.2.1 hb.size, h.2.2.1.below hb (Nat.le_trans h.1 hB), h.2.2.2.1.below hb hB, h.2.2.2.2.trans (hb.mono (Nat.le_trans h.1 hB))⟩
theorem PS.call {w W W' : World} {b : Nat} {v u : Value} {L R : List Qd} (h : PS w b v u L R W) (hb : Below W.heap.size W W') : PS w b v u L R W' := h.step hb h.2.1
theorem grown_below_at {W W' : World} {g : Nat} (h : W.grownBy W' (some g)) (hg : g ≤ W.heap.size) : Below g W W' :=
  (Below.refl g W).grown h hg (fun k e => by injection e with e; omega)
/-- The marks from k on lie in the list u of n digests, and end at r. -/
def HeldG (W : World) (u : Value) (n k r : Nat) : Prop := r = k + 4 * n ∧ ((n = 0 ∧ ∃ oa cap, u = .slice oa 0 cap) ∨ ∃ g cap, u = .slice (some ⟨g, 0, none⟩) n cap ∧ DR g n (mks k n) n W)
theorem HeldG.call {W W' : World} {u : Value} {n k r : Nat} (h : HeldG W u n k r) (hb : Below W.heap.size W W') : HeldG W' u n k r := by
  obtain ⟨hr, h0 | ⟨g, cap, e, hd⟩⟩ := h
  · exact ⟨hr, .inl h0⟩
  · exact ⟨hr, .inr ⟨g, cap, e, hd.call hb⟩⟩
end Go.Proofs.Ytnfnhgloblfgnaa
