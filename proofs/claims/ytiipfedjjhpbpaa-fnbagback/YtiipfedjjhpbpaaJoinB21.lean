/-
  The marks of letters read back; marks of a bag.
-/
import Derived.Test.YtiipfedjjhpbpaaJoinB20
import Derived.Test.YtiipfedjjhpbpaaNet5
import Derived.Test.YtiipfedjjhpbpaaJoinB10
import Derived.Laws.OwnMore
namespace Go.Proofs.Ytiipfedjjhpbpaa
open Go.RowKit

set_option maxRecDepth 20000 in
set_option maxHeartbeats 1000000 in
theorem markletN (W : World) (oa : Option Addr) (cap : Nat) :
    Calls Try.prog 49 #[.slice oa 0 cap, .int .i64 1] W fun e w' => e = .returned (.int .i64 1) ∧ w' = W := by
  go_enter Try.func49, Try.ntmps49
  go_wp2
  go_loopw [1, 5] (fun m i wr => m = .int .i64 1 ∧ i = .int .i64 0 ∧ wr = W) (fun _ _ _ => 0)
  case atStart => exact ⟨rfl, rfl, rfl⟩
  case round =>
    obtain ⟨rfl, rfl, rfl⟩ := hrel
    go_wp2
    go_ret
    exact ⟨rfl, rfl⟩
set_option maxRecDepth 20000 in
set_option maxHeartbeats 1000000 in
theorem heldletN (W : World) (oa : Option Addr) (cap : Nat) :
    Calls Try.prog 50 #[.slice oa 0 cap, .int .i64 1] W fun e w' => e = .returned (.int .i64 1) ∧ w' = W := by
  go_enter Try.func50, Try.ntmps50
  go_wp2
  go_loopw [1, 5] (fun m i wr => m = .int .i64 1 ∧ i = .int .i64 0 ∧ wr = W) (fun _ _ _ => 0)
  case atStart => exact ⟨rfl, rfl, rfl⟩
  case round =>
    obtain ⟨rfl, rfl, rfl⟩ := hrel
    go_wp2
    go_ret
    exact ⟨rfl, rfl⟩
set_option maxRecDepth 20000 in
set_option maxHeartbeats 1000000 in
theorem heldletT (W : World) (B n cap : Nat) (hB : B < W.heap.size) (h : LM B n W) (hn : n ≤ 1048576) :
    Calls Try.prog 50 #[.slice (some ⟨B, 0, none⟩) n cap, .int .i64 1] W fun e w' => e = .returned (.int .i64 ((1 + 3 * n : Nat) : Int)) ∧ Below W.heap.size W w' := by
  have HS : Hid (Below W.heap.size W W ∧ LM B n W) := ⟨Below.refl _ _, h⟩
  clear h
  go_enter Try.func50, Try.ntmps50
  go_wp2_with fail
  go_loopw [1, 5] (fun m i wr => ∃ j : Nat, j ≤ n ∧ m = .int .i64 ((1 + 3 * j : Nat) : Int) ∧ i = .int .i64 (j : Int) ∧ Hid (Below W.heap.size W wr ∧ LM B n wr)) (fun _ i _ => n - (intOf i).toNat)
  case atStart => exact ⟨0, by omega, rfl, rfl, HS⟩
  case round =>
    obtain ⟨j, hj, rfl, rfl, HR⟩ := hrel
    by_cases hlt : j < n
    · obtain ⟨r1, r3⟩ := HR.out
      obtain ⟨c0, c1, c2⟩ := r3 j hlt
      have hBr : B < wr.heap.size := Nat.lt_of_lt_of_le hB r1.size
      obtain ⟨m, hm⟩ : ∃ m, m = 1 + 3 * j := ⟨_, rfl⟩
      have HM : Hid (m = 1 + 3 * j) := hm
      rw [← hm] at c0 c1 c2 ⊢
      have ct := fun V : World => markT_is (m + 2) (by omega) V
      obtain ⟨T, hT⟩ : ∃ T, T = mkT (m + 2) := ⟨_, rfl⟩
      rw [← hT] at ct c2
      have HC : ∀ V : World, Below wr.heap.size wr V → V.cell? ⟨B, j * 3 + 2, none⟩ = some (.string T) ∧ Hid (Below W.heap.size W V ∧ LM B n V) := fun V hb => ⟨(hb.cell (p := ⟨B, j * 3 + 2, none⟩) hBr).trans c2, below_after r1 hb r1.size, r3.call hBr hb⟩
      have e2 : (m : Int) + 1 + 1 = ((m + 2 : Nat) : Int) := by omega
      have hmI : (m : Int) ≤ 1099511627776 := by omega
      have hm0 : 0 ≤ (m : Int) := by omega
      have a1 : IntKind.i64.wrap ((m : Int) + 1) = (m : Int) + 1 := IntWalk.i64_in _ (by omega)
      have a2 : IntKind.i64.wrap ((m : Int) + 1 + 1) = (m : Int) + 1 + 1 := IntWalk.i64_in _ (by omega)
      have a3 : IntKind.i64.wrap ((m : Int) + 1 + 1 + 1) = (m : Int) + 1 + 1 + 1 := IntWalk.i64_in _ (by omega)
      have b1 : IntKind.i64.wrap ((j : Int) + 1) = (j : Int) + 1 := IntWalk.i64_in _ (by omega)
      have hj0 : (0 : Int) ≤ (j : Int) := by omega
      have hjI : (j : Int) < (n : Int) := by omega
      rw [← e2] at ct
      clear HR HS r3 hm e2 hT
      go_wp2_with fail
      go_region_held3 (fun w' => w'.cell? ⟨B, j * 3 + 2, none⟩ = some (.string T)) (assumption) ((go_at_call 62; refine (ct _).mono ?_; rintro e w1 ⟨rfl, hb1⟩; obtain ⟨c3, HC1⟩ := HC w1 (((Below.refl _ _).drew).trans hb1); clear HC ct))
      go_wp2_with fail
      exact ⟨⟨j + 1, by omega, congrArg (Value.int IntKind.i64) (by have := HM.out; omega), rfl, HC1.out⟩, by simp only [intOf]; omega⟩
    · have hkk : j = n := by omega
      subst hkk
      clear HS
      go_wp2_with fail
      go_ret
      exact ⟨rfl, HR.out.1⟩

/-- The marks from 1 on lie in the letters u, n of them, and end at r. -/
def HeldL (W : World) (u : Value) (n r : Nat) : Prop := r = 1 + 3 * n ∧ ((n = 0 ∧ ∃ oa cap, u = .slice oa 0 cap) ∨ ∃ g cap, u = .slice (some ⟨g, 0, none⟩) n cap ∧ g < W.heap.size ∧ LM g n W)
theorem HeldL.call {W W' : World} {u : Value} {n r : Nat} (h : HeldL W u n r) (hb : Below W.heap.size W W') : HeldL W' u n r := by
  obtain ⟨hr, h0 | ⟨g, cap, e, hg, hd⟩⟩ := h
  · exact ⟨hr, .inl h0⟩
  · exact ⟨hr, .inr ⟨g, cap, e, Nat.lt_of_lt_of_le hg hb.size, hd.call hg hb⟩⟩
set_option maxRecDepth 20000 in
theorem markbagG (W : World) (base : Nat) (m : Int) (u : Value) (L : List Lt) (h : OwnL base W u L) (hbase : base ≤ W.heap.size) (hn : L.length ≤ 1048576) :
    Calls Try.prog 28 #[.agg #[.int .i64 m, u], .int .i64 1] W fun e w' => ∃ r : Nat, e = .returned (.int .i64 (r : Int)) ∧ Below base W w' ∧ HeldL w' u L.length r := by
  have hb0 : Below W.heap.size W (W.alloc (.cells #[.int .i64 m, u] 25)) := (Below.refl _ _).alloc (Nat.le_refl _) _
  have hbb : Below base W (W.alloc (.cells #[.int .i64 m, u] 25)) := hb0.mono hbase
  rcases h with ⟨rfl, oa, rfl⟩ | ⟨g, rfl, hg, hr⟩
  · have c := fun V : World => markletN V oa 0
    go_enter Try.func28, Try.ntmps28
    go_wp2_with (go_at_call 49; refine (c _).mono ?_; rintro e w1 ⟨rfl, rfl⟩; clear c)
    go_ret
    exact ⟨1, rfl, hbb, rfl, .inl ⟨rfl, _, _, rfl⟩⟩
  · have c := markletT _ g L.length L.length (hr.sr.call hb0) hn
    have hgs := hr.1
    clear hr
    go_enter Try.func28, Try.ntmps28
    go_wp2_with (go_at_call 49; refine c.mono ?_; rintro e w1 ⟨rfl, hg1, hs1, hl1⟩; clear c)
    go_ret
    exact ⟨_, rfl, hbb.grown hg1 (by have := hb0.size; omega) (fun j e => by injection e with e; omega), rfl, .inr ⟨g, _, rfl, hs1.1, hl1⟩⟩
set_option maxRecDepth 20000 in
theorem heldbagG (W : World) (m : Int) (u : Value) (n r : Nat) (h : HeldL W u n r) (hn : n ≤ 1048576) :
    Calls Try.prog 29 #[.agg #[.int .i64 m, u], .int .i64 1] W fun e w' => e = .returned (.int .i64 (r : Int)) ∧ Below W.heap.size W w' := by
  have hb0 : Below W.heap.size W (W.alloc (.cells #[.int .i64 m, u] 25)) := (Below.refl _ _).alloc (Nat.le_refl _) _
  obtain ⟨rfl, ⟨rfl, oa, cap, rfl⟩ | ⟨g, cap, rfl, hg, hd⟩⟩ := h
  · have c := fun V : World => heldletN V oa cap
    go_enter Try.func29, Try.ntmps29
    go_wp2_with (go_at_call 50; refine (c _).mono ?_; rintro e w1 ⟨rfl, rfl⟩; clear c)
    go_ret
    exact ⟨rfl, hb0⟩
  · have c := heldletT _ g n cap (Nat.lt_of_lt_of_le hg hb0.size) (hd.call hg hb0) hn
    clear hd
    go_enter Try.func29, Try.ntmps29
    go_wp2_with (go_at_call 50; refine c.mono ?_; rintro e w1 ⟨rfl, hb1⟩; clear c)
    go_ret
    exact ⟨rfl, below_after hb0 hb1 hb0.size⟩
end Go.Proofs.Ytiipfedjjhpbpaa

/-
  What a law of an answer that is a list of digests asks: the lists stand, whatever is written elsewhere.
-/
namespace Go.Proofs.Ytiipfedjjhpbpaa
open Go.RowKit

/-- A list of digests that lies ahead of the block B. -/
def DgsB (B : Nat) (W : World) (v : Value) (L : List Qd) : Prop := Dgs W v L ∧ (0 < L.length → ∀ a n c, v = .slice (some a) n c → a.block < B)
theorem DgsB.of {W : World} {v : Value} {L : List Qd} (h : Dgs W v L) : DgsB W.heap.size W v L := by
  refine ⟨h, fun hl a n c e => ?_⟩
  rcases h with ⟨rfl, rfl⟩ | ⟨a', cap, rfl, _, _, hb, _⟩
  · simp at hl
  · injection e with e _ _
    injection e with e
    subst e
    exact hb hl
theorem DgsB.mono {B B' : Nat} {W : World} {v : Value} {L : List Qd} (h : DgsB B W v L) (hB : B ≤ B') : DgsB B' W v L :=
  ⟨h.1, fun hl a n c e => Nat.lt_of_lt_of_le (h.2 hl a n c e) hB⟩
theorem DgsB.below {B B' : Nat} {W W' : World} {v : Value} {L : List Qd} (h : DgsB B W v L) (hb : Below B' W W') (hB : B ≤ B') : DgsB B W' v L := by
  refine ⟨?_, h.2⟩
  have h2 := h.2
  rcases h.1 with h0 | ⟨a, cap, e, h3, h4, h5, h6⟩
  · exact .inl h0
  · refine .inr ⟨a, cap, e, h3, h4, fun hl => Nat.lt_of_lt_of_le (h5 hl) hb.size, fun i hi => ?_⟩
    have hlt := h2 (by omega) a L.length cap e
    exact (h6 i hi).below hb (by rw [add_block]; omega)
/-- What stands while a law goes on: its argument v, the model's answer u, both ahead of the block b. -/
def PS (w : World) (b : Nat) (v u : Value) (L R : List Qd) (W : World) : Prop :=
  w.heap.size ≤ b ∧ b ≤ W.heap.size ∧ DgsB w.heap.size W v L ∧ DgsB b W u R ∧ Below w.heap.size w W
theorem PS.step {w W W' : World} {b B : Nat} {v u : Value} {L R : List Qd} (h : PS w b v u L R W) (hb : Below B W W') (hB : b ≤ B) : PS w b v u L R W' :=
  ⟨h.1, Nat.le_trans h.2.1 hb.size, h.2.2.1.below hb (Nat.le_trans h.1 hB), h.2.2.2.1.below hb hB, h.2.2.2.2.trans (hb.mono (Nat.le_trans h.1 hB))⟩
theorem PS.call {w W W' : World} {b : Nat} {v u : Value} {L R : List Qd} (h : PS w b v u L R W) (hb : Below W.heap.size W W') : PS w b v u L R W' := h.step hb h.2.1
theorem grown_below_at {W W' : World} {g : Nat} (h : W.grownBy W' (some g)) (hg : g ≤ W.heap.size) : Below g W W' :=
  (Below.refl g W).grown h hg (fun k e => by injection e with e; omega)
/-- The marks from k on lie in the list u of n digests, and end at r. -/
def HeldG (W : World) (u : Value) (n k r : Nat) : Prop := r = k + 4 * n ∧ ((n = 0 ∧ ∃ oa cap, u = .slice oa 0 cap) ∨ ∃ g cap, u = .slice (some ⟨g, 0, none⟩) n cap ∧ DR g n (mks k n) n W)
theorem HeldG.call {W W' : World} {u : Value} {n k r : Nat} (h : HeldG W u n k r) (hb : Below W.heap.size W W') : HeldG W' u n k r := by
  obtain ⟨hr, h0 | ⟨g, cap, e, hd⟩⟩ := h
  · exact ⟨hr, .inl h0⟩
  · exact ⟨hr, .inr ⟨g, cap, e, hd.call hb⟩⟩
end Go.Proofs.Ytiipfedjjhpbpaa

/-
  The law of BagFor, walked.
-/
namespace Go.Proofs.Ytiipfedjjhpbpaa
open Go.RowKit

/-- Letters that lie ahead of the block B. -/
def LtsB (B : Nat) (W : World) (v : Value) (L : List Lt) : Prop := Lts W v L ∧ (0 < L.length → ∀ a n c, v = .slice (some a) n c → a.block < B)
theorem LtsB.of {W : World} {v : Value} {L : List Lt} (h : Lts W v L) : LtsB W.heap.size W v L := by
  refine ⟨h, fun hl a n c e => ?_⟩
  rcases h with ⟨rfl, rfl⟩ | ⟨a', cap, rfl, _, _, hb, _⟩
  · simp at hl
  · injection e with e _ _
    injection e with e
    subst e
    exact hb hl
theorem LtsB.below {B B' : Nat} {W W' : World} {v : Value} {L : List Lt} (h : LtsB B W v L) (hb : Below B' W W') (hB : B ≤ B') : LtsB B W' v L := by
  refine ⟨?_, h.2⟩
  have h2 := h.2
  rcases h.1 with h0 | ⟨a, cap, e, h3, h4, h5, h6⟩
  · exact .inl h0
  · refine .inr ⟨a, cap, e, h3, h4, fun hl => Nat.lt_of_lt_of_le (h5 hl) hb.size, fun i hi => ?_⟩
    have hlt := h2 (by omega) a L.length cap e
    exact (h6 i hi).below hb (by rw [add_block]; omega)
/-- Numbers that lie ahead of the block B. -/
def ItsB (B : Nat) (W : World) (v : Value) (X : List Int) : Prop := Its W v X ∧ (0 < X.length → ∀ a n c, v = .slice (some a) n c → a.block < B)
theorem ItsB.of {W : World} {v : Value} {X : List Int} (h : Its W v X) : ItsB W.heap.size W v X := by
  refine ⟨h, fun hl a n c e => ?_⟩
  rcases h with ⟨rfl, rfl⟩ | ⟨a', cap, rfl, _, _, hb, _⟩
  · simp at hl
  · injection e with e _ _
    injection e with e
    subst e
    exact hb hl
theorem ItsB.below {B B' : Nat} {W W' : World} {v : Value} {X : List Int} (h : ItsB B W v X) (hb : Below B' W W') (hB : B ≤ B') : ItsB B W' v X := by
  refine ⟨?_, h.2⟩
  have h2 := h.2
  rcases h.1 with h0 | ⟨a, cap, e, h3, h4, h5, h6⟩
  · exact .inl h0
  · refine .inr ⟨a, cap, e, h3, h4, fun hl => Nat.lt_of_lt_of_le (h5 hl) hb.size, fun i hi => ?_⟩
    have hlt := h2 (by omega) a X.length cap e
    exact (hb.cell (by rw [add_block]; omega)).trans (h6 i hi)
theorem C2.below {B B' : Nat} {x y : Value} {W W' : World} (h : C2 B x y W) (hb : Below B' W W') (hB : B < B') : C2 B x y W' := by
  obtain ⟨h0, h1, h2, h3, h4⟩ := h
  exact ⟨Nat.lt_of_lt_of_le h0 hb.size, (hb.cell (p := ⟨B, 0, none⟩) hB).trans h1, (hb.cell (p := ⟨B, 1, none⟩) hB).trans h2, (hb.frozen (p := ⟨B, 0, none⟩) hB).trans h3, (hb.frozen (p := ⟨B, 1, none⟩) hB).trans h4⟩
/-- What stands while a law of a bag goes on: the bag's letters v and its box, the model's answer u, all ahead of the block b. -/
def PB (w : World) (b : Nat) (m : Int) (v u : Value) (L : List Lt) (X : List Int) (W : World) : Prop :=
  w.heap.size < b ∧ b ≤ W.heap.size ∧ LtsB w.heap.size W v L ∧ ItsB b W u X ∧ C2 w.heap.size (.int .i64 m) v W ∧ Below w.heap.size w W
theorem PB.step {w W W' : World} {b B : Nat} {m : Int} {v u : Value} {L : List Lt} {X : List Int} (h : PB w b m v u L X W) (hb : Below B W W') (hB : b ≤ B) : PB w b m v u L X W' :=
  ⟨h.1, Nat.le_trans h.2.1 hb.size, h.2.2.1.below hb (Nat.le_trans (Nat.le_of_lt h.1) hB), h.2.2.2.1.below hb hB, h.2.2.2.2.1.below hb (Nat.lt_of_lt_of_le h.1 hB), h.2.2.2.2.2.trans (hb.mono (Nat.le_trans (Nat.le_of_lt h.1) hB))⟩
theorem PB.call {w W W' : World} {b : Nat} {m : Int} {v u : Value} {L : List Lt} {X : List Int} (h : PB w b m v u L X W) (hb : Below W.heap.size W W') : PB w b m v u L X W' := h.step hb h.2.1

end Go.Proofs.Ytiipfedjjhpbpaa
