/-
  A client that knows nothing yet: held to be the same, marked; the law of ClientNew.
-/
import Derived.Test.YtdpbgcilkidbaaaDoorCl1
namespace Go.Proofs.YtdpbgcilkidbaaaDoor
open Go.RowKit

set_option maxRecDepth 20000 in
set_option maxHeartbeats 2000000 in
theorem eqcl_zero (a b : Int) (w : World) : Calls Tryd.prog 9 #[.agg #[.int .i64 a, .int .i64 b, .int .i64 0, .int .i64 0, .int .i64 0, .int .u64 0, .int .u64 0, .int .u64 0, .int .u64 0, .slice none 0 0, .int .i64 0, .int .u64 0, .int .u64 0, .int .u64 0, .int .u64 0], .agg #[.int .i64 a, .int .i64 b, .int .i64 0, .int .i64 0, .int .i64 0, .int .u64 0, .int .u64 0, .int .u64 0, .int .u64 0, .slice none 0 0, .int .i64 0, .int .u64 0, .int .u64 0, .int .u64 0, .int .u64 0]] w fun e w' => e = .returned (.bool true) ∧ Below w.heap.size w w' := by
  have ce := fun V : World => eqp_same 0 (Qd.mk 0 0 0 0) V
  have ci := fun V : World => eqis_is V (.slice none 0 0) (.slice none 0 0) [] (.inl ⟨rfl, rfl⟩) (.inl ⟨rfl, rfl⟩)
  have A0 : Lies w.heap.size 0 [.int .i64 a, .int .i64 b, .int .i64 0, .int .i64 0, .int .i64 0, .int .u64 0, .int .u64 0, .int .u64 0, .int .u64 0, .slice none 0 0, .int .i64 0, .int .u64 0, .int .u64 0, .int .u64 0, .int .u64 0] ((w.alloc (.cells #[.int .i64 a, .int .i64 b, .int .i64 0, .int .i64 0, .int .i64 0, .int .u64 0, .int .u64 0, .int .u64 0, .int .u64 0, .slice none 0 0, .int .i64 0, .int .u64 0, .int .u64 0, .int .u64 0, .int .u64 0] 36)).alloc (.cells #[.int .i64 a, .int .i64 b, .int .i64 0, .int .i64 0, .int .i64 0, .int .u64 0, .int .u64 0, .int .u64 0, .int .u64 0, .slice none 0 0, .int .i64 0, .int .u64 0, .int .u64 0, .int .u64 0, .int .u64 0] 36)) := (Lies.new w [.int .i64 a, .int .i64 b, .int .i64 0, .int .i64 0, .int .i64 0, .int .u64 0, .int .u64 0, .int .u64 0, .int .u64 0, .slice none 0 0, .int .i64 0, .int .u64 0, .int .u64 0, .int .u64 0, .int .u64 0] 36).call ((Below.refl _ _).alloc (Nat.le_refl _) _) (by simp)
  have B0 := Lies.new (w.alloc (.cells #[.int .i64 a, .int .i64 b, .int .i64 0, .int .i64 0, .int .i64 0, .int .u64 0, .int .u64 0, .int .u64 0, .int .u64 0, .slice none 0 0, .int .i64 0, .int .u64 0, .int .u64 0, .int .u64 0, .int .u64 0] 36)) [.int .i64 a, .int .i64 b, .int .i64 0, .int .i64 0, .int .i64 0, .int .u64 0, .int .u64 0, .int .u64 0, .int .u64 0, .slice none 0 0, .int .i64 0, .int .u64 0, .int .u64 0, .int .u64 0, .int .u64 0] 36
  rw [World.size_alloc] at B0
  have B0 : Lies (w.heap.size + 1) 0 [.int .i64 a, .int .i64 b, .int .i64 0, .int .i64 0, .int .i64 0, .int .u64 0, .int .u64 0, .int .u64 0, .int .u64 0, .slice none 0 0, .int .i64 0, .int .u64 0, .int .u64 0, .int .u64 0, .int .u64 0] ((w.alloc (.cells #[.int .i64 a, .int .i64 b, .int .i64 0, .int .i64 0, .int .i64 0, .int .u64 0, .int .u64 0, .int .u64 0, .int .u64 0, .slice none 0 0, .int .i64 0, .int .u64 0, .int .u64 0, .int .u64 0, .int .u64 0] 36)).alloc (.cells #[.int .i64 a, .int .i64 b, .int .i64 0, .int .i64 0, .int .i64 0, .int .u64 0, .int .u64 0, .int .u64 0, .int .u64 0, .slice none 0 0, .int .i64 0, .int .u64 0, .int .u64 0, .int .u64 0, .int .u64 0] 36)) := B0
  have z0 : Below w.heap.size w ((w.alloc (.cells #[.int .i64 a, .int .i64 b, .int .i64 0, .int .i64 0, .int .i64 0, .int .u64 0, .int .u64 0, .int .u64 0, .int .u64 0, .slice none 0 0, .int .i64 0, .int .u64 0, .int .u64 0, .int .u64 0, .int .u64 0] 36)).alloc (.cells #[.int .i64 a, .int .i64 b, .int .i64 0, .int .i64 0, .int .i64 0, .int .u64 0, .int .u64 0, .int .u64 0, .int .u64 0, .slice none 0 0, .int .i64 0, .int .u64 0, .int .u64 0, .int .u64 0, .int .u64 0] 36)) := (by repeat' (first | (with_reducible exact Below.refl _ _) | (with_reducible assumption) | (with_reducible refine below_drewN ?_ _) | (with_reducible refine Below.setCell ?_ ?_ _) | (with_reducible refine Below.alloc ?_ ?_ _) | (with_reducible refine Below.drew ?_) | go_size))
  have s0 : w.heap.size + 1 < ((w.alloc (.cells #[.int .i64 a, .int .i64 b, .int .i64 0, .int .i64 0, .int .i64 0, .int .u64 0, .int .u64 0, .int .u64 0, .int .u64 0, .slice none 0 0, .int .i64 0, .int .u64 0, .int .u64 0, .int .u64 0, .int .u64 0] 36)).alloc (.cells #[.int .i64 a, .int .i64 b, .int .i64 0, .int .i64 0, .int .i64 0, .int .u64 0, .int .u64 0, .int .u64 0, .int .u64 0, .slice none 0 0, .int .i64 0, .int .u64 0, .int .u64 0, .int .u64 0, .int .u64 0] 36)).heap.size := by simp
  go_enter Tryd.func9, Tryd.ntmps9
  go_upto_region 1 with fail
  generalize (w.alloc (.cells #[.int .i64 a, .int .i64 b, .int .i64 0, .int .i64 0, .int .i64 0, .int .u64 0, .int .u64 0, .int .u64 0, .int .u64 0, .slice none 0 0, .int .i64 0, .int .u64 0, .int .u64 0, .int .u64 0, .int .u64 0] 36)).alloc (.cells #[.int .i64 a, .int .i64 b, .int .i64 0, .int .i64 0, .int .i64 0, .int .u64 0, .int .u64 0, .int .u64 0, .int .u64 0, .slice none 0 0, .int .i64 0, .int .u64 0, .int .u64 0, .int .u64 0, .int .u64 0] 36) = W at A0 B0 z0 s0 ⊢
  have HA : Hid (Lies w.heap.size 0 [.int .i64 a, .int .i64 b, .int .i64 0, .int .i64 0, .int .i64 0, .int .u64 0, .int .u64 0, .int .u64 0, .int .u64 0, .slice none 0 0, .int .i64 0, .int .u64 0, .int .u64 0, .int .u64 0, .int .u64 0] W ∧ Lies (w.heap.size + 1) 0 [.int .i64 a, .int .i64 b, .int .i64 0, .int .i64 0, .int .i64 0, .int .u64 0, .int .u64 0, .int .u64 0, .int .u64 0, .slice none 0 0, .int .i64 0, .int .u64 0, .int .u64 0, .int .u64 0, .int .u64 0] W ∧ Below w.heap.size w W ∧ w.heap.size + 1 < W.heap.size) := ⟨A0, B0, z0, s0⟩
  have a0 := A0 0 _ rfl; have a1 := A0 1 _ rfl; have a2 := A0 2 _ rfl; have a3 := A0 3 _ rfl; have a9 := A0 9 _ rfl; simp only [Nat.zero_add] at a0 a1 a2 a3 a9
  have b0 := B0 0 _ rfl; have b1 := B0 1 _ rfl; have b2 := B0 2 _ rfl; have b3 := B0 3 _ rfl; have b9 := B0 9 _ rfl; simp only [Nat.zero_add] at b0 b1 b2 b3 b9
  have G1 : Lies w.heap.size 4 [.int .i64 0, .int .u64 0, .int .u64 0, .int .u64 0, .int .u64 0] W := A0.part 4 5
  have G2 : Lies (w.heap.size + 1) 4 [.int .i64 0, .int .u64 0, .int .u64 0, .int .u64 0, .int .u64 0] W := B0.part 4 5
  clear A0 B0 z0 s0 a9 b9
  go_wp2_with (first
    | (with_reducible refine wpl_load agg_pnt w.heap.size 4 [.int .i64 0, .int .u64 0, .int .u64 0, .int .u64 0, .int .u64 0] (by kernel_rfl) ?_ G1 ?_; · (simp [Act.eval]; done))
    | (with_reducible refine wpl_load agg_pnt (w.heap.size + 1) 4 [.int .i64 0, .int .u64 0, .int .u64 0, .int .u64 0, .int .u64 0] (by kernel_rfl) ?_ G2 ?_; · (first | (simp [Act.eval]; done) | (simp [Act.eval, Act.put]; done)))
    | (with_reducible refine wpl_load agg_pnt w.heap.size 10 [.int .i64 0, .int .u64 0, .int .u64 0, .int .u64 0, .int .u64 0] (by kernel_rfl) ?_ P1 ?_; · (simp [Act.eval]; done))
    | (with_reducible refine wpl_load agg_pnt (w.heap.size + 1) 10 [.int .i64 0, .int .u64 0, .int .u64 0, .int .u64 0, .int .u64 0] (by kernel_rfl) ?_ P2 ?_; · (first | (simp [Act.eval]; done) | (simp [Act.eval, Act.put]; done)))
    | (have hh := HC; go_at_call 20; refine (ce _).mono ?_; rintro e w3 ⟨rfl, b3⟩; have z3 := below_after HC.out.2.2.1 b3 HC.out.2.2.1.size)
    | (go_at_call 21; refine (ci _).mono ?_; rintro e w2 ⟨rfl, b2⟩; have HC : Hid (Lies w.heap.size 0 [.int .i64 a, .int .i64 b, .int .i64 0, .int .i64 0, .int .i64 0, .int .u64 0, .int .u64 0, .int .u64 0, .int .u64 0, .slice none 0 0, .int .i64 0, .int .u64 0, .int .u64 0, .int .u64 0, .int .u64 0] w2 ∧ Lies (w.heap.size + 1) 0 [.int .i64 a, .int .i64 b, .int .i64 0, .int .i64 0, .int .i64 0, .int .u64 0, .int .u64 0, .int .u64 0, .int .u64 0, .slice none 0 0, .int .i64 0, .int .u64 0, .int .u64 0, .int .u64 0, .int .u64 0] w2 ∧ Below w.heap.size w w2 ∧ w.heap.size + 1 < w2.heap.size) := ⟨HB.out.1.call b2 (by have := HB.out.2.2.2; omega), HB.out.2.1.call b2 HB.out.2.2.2, below_after HB.out.2.2.1 b2 HB.out.2.2.1.size, Nat.lt_of_lt_of_le HB.out.2.2.2 b2.size⟩; have P1 : Lies w.heap.size 10 [.int .i64 0, .int .u64 0, .int .u64 0, .int .u64 0, .int .u64 0] w2 := HC.out.1.part 10 5; have P2 : Lies (w.heap.size + 1) 10 [.int .i64 0, .int .u64 0, .int .u64 0, .int .u64 0, .int .u64 0] w2 := HC.out.2.1.part 10 5; clear HB c9 d9)
    | (go_at_call 20; refine (ce _).mono ?_; rintro e w1 ⟨rfl, b1⟩; have HB : Hid (Lies w.heap.size 0 [.int .i64 a, .int .i64 b, .int .i64 0, .int .i64 0, .int .i64 0, .int .u64 0, .int .u64 0, .int .u64 0, .int .u64 0, .slice none 0 0, .int .i64 0, .int .u64 0, .int .u64 0, .int .u64 0, .int .u64 0] w1 ∧ Lies (w.heap.size + 1) 0 [.int .i64 a, .int .i64 b, .int .i64 0, .int .i64 0, .int .i64 0, .int .u64 0, .int .u64 0, .int .u64 0, .int .u64 0, .slice none 0 0, .int .i64 0, .int .u64 0, .int .u64 0, .int .u64 0, .int .u64 0] w1 ∧ Below w.heap.size w w1 ∧ w.heap.size + 1 < w1.heap.size) := ⟨HA.out.1.call b1 (by have := HA.out.2.2.2; omega), HA.out.2.1.call b1 HA.out.2.2.2, below_after HA.out.2.2.1 b1 HA.out.2.2.1.size, Nat.lt_of_lt_of_le HA.out.2.2.2 b1.size⟩; have c9 := HB.out.1 9 _ rfl; have d9 := HB.out.2.1 9 _ rfl; simp only [Nat.zero_add] at c9 d9; clear HA G1 G2 a0 a1 a2 a3 b0 b1 b2 b3))
  go_ret
  exact ⟨rfl, z3⟩
set_option maxRecDepth 20000 in
theorem markcl_zero (a b : Int) (w : World) : Calls Tryd.prog 12 #[.agg #[.int .i64 a, .int .i64 b, .int .i64 0, .int .i64 0, .int .i64 0, .int .u64 0, .int .u64 0, .int .u64 0, .int .u64 0, .slice none 0 0, .int .i64 0, .int .u64 0, .int .u64 0, .int .u64 0, .int .u64 0], .int .i64 1] w fun e w' => e = .returned (.int .i64 1) ∧ Below w.heap.size w w' := by
  have ci := fun V : World => marki_nil V none 0 1
  have A0 : Lies w.heap.size 0 [.int .i64 a, .int .i64 b, .int .i64 0, .int .i64 0, .int .i64 0, .int .u64 0, .int .u64 0, .int .u64 0, .int .u64 0, .slice none 0 0, .int .i64 0, .int .u64 0, .int .u64 0, .int .u64 0, .int .u64 0] (w.alloc (.cells #[.int .i64 a, .int .i64 b, .int .i64 0, .int .i64 0, .int .i64 0, .int .u64 0, .int .u64 0, .int .u64 0, .int .u64 0, .slice none 0 0, .int .i64 0, .int .u64 0, .int .u64 0, .int .u64 0, .int .u64 0] 36)) := Lies.new w [.int .i64 a, .int .i64 b, .int .i64 0, .int .i64 0, .int .i64 0, .int .u64 0, .int .u64 0, .int .u64 0, .int .u64 0, .slice none 0 0, .int .i64 0, .int .u64 0, .int .u64 0, .int .u64 0, .int .u64 0] 36
  have z0 : Below w.heap.size w (w.alloc (.cells #[.int .i64 a, .int .i64 b, .int .i64 0, .int .i64 0, .int .i64 0, .int .u64 0, .int .u64 0, .int .u64 0, .int .u64 0, .slice none 0 0, .int .i64 0, .int .u64 0, .int .u64 0, .int .u64 0, .int .u64 0] 36)) := (by repeat' (first | (with_reducible exact Below.refl _ _) | (with_reducible assumption) | (with_reducible refine below_drewN ?_ _) | (with_reducible refine Below.setCell ?_ ?_ _) | (with_reducible refine Below.alloc ?_ ?_ _) | (with_reducible refine Below.drew ?_) | go_size))
  go_enter Tryd.func12, Tryd.ntmps12
  go_upto_region 1 with fail
  generalize w.alloc (.cells #[.int .i64 a, .int .i64 b, .int .i64 0, .int .i64 0, .int .i64 0, .int .u64 0, .int .u64 0, .int .u64 0, .int .u64 0, .slice none 0 0, .int .i64 0, .int .u64 0, .int .u64 0, .int .u64 0, .int .u64 0] 36) = W at A0 z0 ⊢
  have a9 := A0 9 _ rfl
  simp only [Nat.zero_add] at a9
  clear A0
  go_wp2_with (go_at_call 22; refine (ci _).mono ?_; rintro e w1 ⟨rfl, hw1⟩; subst hw1)
  go_ret
  exact ⟨rfl, z0⟩
set_option maxRecDepth 20000 in
theorem heldcl_zero (a b : Int) (w : World) : Calls Tryd.prog 13 #[.agg #[.int .i64 a, .int .i64 b, .int .i64 0, .int .i64 0, .int .i64 0, .int .u64 0, .int .u64 0, .int .u64 0, .int .u64 0, .slice none 0 0, .int .i64 0, .int .u64 0, .int .u64 0, .int .u64 0, .int .u64 0], .int .i64 1] w fun e w' => e = .returned (.int .i64 1) ∧ Below w.heap.size w w' := by
  have ci := fun V : World => heldI V (.slice none 0 0) 0 1 1 ⟨rfl, .inl ⟨rfl, none, 0, rfl⟩⟩ (by omega) (by omega)
  have A0 : Lies w.heap.size 0 [.int .i64 a, .int .i64 b, .int .i64 0, .int .i64 0, .int .i64 0, .int .u64 0, .int .u64 0, .int .u64 0, .int .u64 0, .slice none 0 0, .int .i64 0, .int .u64 0, .int .u64 0, .int .u64 0, .int .u64 0] (w.alloc (.cells #[.int .i64 a, .int .i64 b, .int .i64 0, .int .i64 0, .int .i64 0, .int .u64 0, .int .u64 0, .int .u64 0, .int .u64 0, .slice none 0 0, .int .i64 0, .int .u64 0, .int .u64 0, .int .u64 0, .int .u64 0] 36)) := Lies.new w [.int .i64 a, .int .i64 b, .int .i64 0, .int .i64 0, .int .i64 0, .int .u64 0, .int .u64 0, .int .u64 0, .int .u64 0, .slice none 0 0, .int .i64 0, .int .u64 0, .int .u64 0, .int .u64 0, .int .u64 0] 36
  have z0 : Below w.heap.size w (w.alloc (.cells #[.int .i64 a, .int .i64 b, .int .i64 0, .int .i64 0, .int .i64 0, .int .u64 0, .int .u64 0, .int .u64 0, .int .u64 0, .slice none 0 0, .int .i64 0, .int .u64 0, .int .u64 0, .int .u64 0, .int .u64 0] 36)) := (by repeat' (first | (with_reducible exact Below.refl _ _) | (with_reducible assumption) | (with_reducible refine below_drewN ?_ _) | (with_reducible refine Below.setCell ?_ ?_ _) | (with_reducible refine Below.alloc ?_ ?_ _) | (with_reducible refine Below.drew ?_) | go_size))
  go_enter Tryd.func13, Tryd.ntmps13
  go_upto_region 1 with fail
  generalize w.alloc (.cells #[.int .i64 a, .int .i64 b, .int .i64 0, .int .i64 0, .int .i64 0, .int .u64 0, .int .u64 0, .int .u64 0, .int .u64 0, .slice none 0 0, .int .i64 0, .int .u64 0, .int .u64 0, .int .u64 0, .int .u64 0] 36) = W at A0 z0 ⊢
  have a9 := A0 9 _ rfl
  simp only [Nat.zero_add] at a9
  clear A0
  go_wp2_with (go_at_call 23; refine (ci _).mono ?_; rintro e w1 ⟨rfl, hw1⟩; subst hw1)
  go_ret
  exact ⟨rfl, z0⟩
/-- The boxes of the law of ClientNew: three of them at most. -/
def NB (w : World) (X : Nat) (a b : Int) (W : World) : Prop := Lies X 0 [.int .i64 a, .int .i64 b, .int .i64 0, .int .i64 0, .int .i64 0, .int .u64 0, .int .u64 0, .int .u64 0, .int .u64 0, .slice none 0 0, .int .i64 0, .int .u64 0, .int .u64 0, .int .u64 0, .int .u64 0] W ∧ X < W.heap.size ∧ Below w.heap.size w W
theorem NB.call {w : World} {X : Nat} {a b : Int} {W W' : World} (h : NB w X a b W) (hb : Below W.heap.size W W') : NB w X a b W' := ⟨h.1.call hb h.2.1, Nat.lt_of_lt_of_le h.2.1 hb.size, below_after h.2.2 hb h.2.2.size⟩
theorem NB.new {w W : World} (a b : Int) (h : Below w.heap.size w W) : NB w W.heap.size a b (W.alloc (.cells #[.int .i64 a, .int .i64 b, .int .i64 0, .int .i64 0, .int .i64 0, .int .u64 0, .int .u64 0, .int .u64 0, .int .u64 0, .slice none 0 0, .int .i64 0, .int .u64 0, .int .u64 0, .int .u64 0, .int .u64 0] 36)) := ⟨Lies.new W [.int .i64 a, .int .i64 b, .int .i64 0, .int .i64 0, .int .i64 0, .int .u64 0, .int .u64 0, .int .u64 0, .int .u64 0, .slice none 0 0, .int .i64 0, .int .u64 0, .int .u64 0, .int .u64 0, .int .u64 0] 36, by simp, h.alloc h.size _⟩
theorem NB.more {w : World} {X : Nat} {a b : Int} {W : World} (h : NB w X a b W) (o : Obj) : NB w X a b (W.alloc o) := h.call ((Below.refl _ _).alloc (Nat.le_refl _) _)
set_option maxRecDepth 20000 in
set_option maxHeartbeats 4000000 in
theorem lawClientNew (n m : Int) (w : World) : Calls Tryd.prog 4 #[.int .i64 n, .int .i64 m] w fun e w' => e = .returned (.bool true) ∧ Below w.heap.size w w' := by
  have c1 := fun V : World => snew_is n m V
  have c2 := fun V : World => inew_is n m V
  generalize (if nok n m then n else 0) = a at c1 c2
  generalize (if nok n m then m else 0) = b at c1 c2
  generalize nok n m = k at c1 c2
  have ce := fun V : World => eqcl_zero a b V
  have cm := fun V : World => markcl_zero a b V
  have ch := fun V : World => heldcl_zero a b V
  go_enter Tryd.func4, Tryd.ntmps4
  go_upto_region 2 with (go_at_call 10; refine (c1 _).mono ?_; rintro e w1 ⟨rfl, b1⟩)
  have X1 := NB.new a b b1
  generalize w1.alloc (.cells #[.int .i64 a, .int .i64 b, .int .i64 0, .int .i64 0, .int .i64 0, .int .u64 0, .int .u64 0, .int .u64 0, .int .u64 0, .slice none 0 0, .int .i64 0, .int .u64 0, .int .u64 0, .int .u64 0, .int .u64 0] 36) = W1 at X1 ⊢
  generalize w1.heap.size = X at X1 ⊢
  clear b1 c1
  go_upto_region 3 with (go_at_call 11; refine (c2 _).mono ?_; rintro e w2 ⟨rfl, b2⟩; have X2 := X1.call b2)
  have Y2 := NB.new a b X2.2.2
  have X3 := X2.more (.cells #[.int .i64 a, .int .i64 b, .int .i64 0, .int .i64 0, .int .i64 0, .int .u64 0, .int .u64 0, .int .u64 0, .int .u64 0, .slice none 0 0, .int .i64 0, .int .u64 0, .int .u64 0, .int .u64 0, .int .u64 0] 36)
  generalize w2.alloc (.cells #[.int .i64 a, .int .i64 b, .int .i64 0, .int .i64 0, .int .i64 0, .int .u64 0, .int .u64 0, .int .u64 0, .int .u64 0, .slice none 0 0, .int .i64 0, .int .u64 0, .int .u64 0, .int .u64 0, .int .u64 0] 36) = W2 at X3 Y2 ⊢
  generalize w2.heap.size = Y at Y2 ⊢
  clear b2 X1 X2
  obtain ⟨x0, -, -⟩ := id X3
  obtain ⟨y0, -, -⟩ := id Y2
  go_upto_region 13 with (first
    | (with_reducible refine wpl_load agg_cli X 0 [.int .i64 a, .int .i64 b, .int .i64 0, .int .i64 0, .int .i64 0, .int .u64 0, .int .u64 0, .int .u64 0, .int .u64 0, .slice none 0 0, .int .i64 0, .int .u64 0, .int .u64 0, .int .u64 0, .int .u64 0] (by kernel_rfl) ?_ x0 ?_; · (first | (simp [Act.eval]; done) | (simp [Act.eval, Act.put]; done)))
    | (with_reducible refine wpl_load agg_cli Y 0 [.int .i64 a, .int .i64 b, .int .i64 0, .int .i64 0, .int .i64 0, .int .u64 0, .int .u64 0, .int .u64 0, .int .u64 0, .slice none 0 0, .int .i64 0, .int .u64 0, .int .u64 0, .int .u64 0, .int .u64 0] (by kernel_rfl) ?_ y2 ?_; · (first | (simp [Act.eval]; done) | (simp [Act.eval, Act.put]; done)))
    | (with_reducible refine wpl_load agg_cli Y 0 [.int .i64 a, .int .i64 b, .int .i64 0, .int .i64 0, .int .i64 0, .int .u64 0, .int .u64 0, .int .u64 0, .int .u64 0, .slice none 0 0, .int .i64 0, .int .u64 0, .int .u64 0, .int .u64 0, .int .u64 0] (by kernel_rfl) ?_ y1 ?_; · (first | (simp [Act.eval]; done) | (simp [Act.eval, Act.put]; done)))
    | (with_reducible refine wpl_load agg_cli Y 0 [.int .i64 a, .int .i64 b, .int .i64 0, .int .i64 0, .int .i64 0, .int .u64 0, .int .u64 0, .int .u64 0, .int .u64 0, .slice none 0 0, .int .i64 0, .int .u64 0, .int .u64 0, .int .u64 0, .int .u64 0] (by kernel_rfl) ?_ y0 ?_; · (first | (simp [Act.eval]; done) | (simp [Act.eval, Act.put]; done)))
    | (go_at_call 9; refine (ce _).mono ?_; rintro e w4 ⟨rfl, b4⟩; have X4 := X3.call b4; have Y4 := Y2.call b4; obtain ⟨y1, -, -⟩ := id Y4; clear X3 Y2 x0 y0 b4)
    | (go_at_call 12; refine (cm _).mono ?_; rintro e w5 ⟨rfl, b5⟩; have X5 := X4.call b5; have Y5 := Y4.call b5; obtain ⟨y2, -, -⟩ := id Y5; clear X4 Y4 y1 b5)
    | (go_at_call 13; refine (ch _).mono ?_; rintro e w6 ⟨rfl, b6⟩; have X6 := X5.call b6; have Y6 := Y5.call b6; clear X5 Y5 y2 b6))
  go_upto_region 14 with (go_at_call 11; refine (c2 _).mono ?_; rintro e w7 ⟨rfl, b7⟩; have X7 := X6.call b7; have Y7 := Y6.call b7; clear X6 Y6 b7)
  have V7 := NB.new a b Y7.2.2
  have X8 := X7.more (.cells #[.int .i64 a, .int .i64 b, .int .i64 0, .int .i64 0, .int .i64 0, .int .u64 0, .int .u64 0, .int .u64 0, .int .u64 0, .slice none 0 0, .int .i64 0, .int .u64 0, .int .u64 0, .int .u64 0, .int .u64 0] 36)
  have Y8 := Y7.more (.cells #[.int .i64 a, .int .i64 b, .int .i64 0, .int .i64 0, .int .i64 0, .int .u64 0, .int .u64 0, .int .u64 0, .int .u64 0, .slice none 0 0, .int .i64 0, .int .u64 0, .int .u64 0, .int .u64 0, .int .u64 0] 36)
  generalize w7.alloc (.cells #[.int .i64 a, .int .i64 b, .int .i64 0, .int .i64 0, .int .i64 0, .int .u64 0, .int .u64 0, .int .u64 0, .int .u64 0, .slice none 0 0, .int .i64 0, .int .u64 0, .int .u64 0, .int .u64 0, .int .u64 0] 36) = W8 at X8 Y8 V7 ⊢
  generalize w7.heap.size = V at V7 ⊢
  clear X7 Y7
  obtain ⟨x0, -, -⟩ := id X8
  obtain ⟨v0, -, -⟩ := id V7
  go_wp2_with (first
    | (with_reducible refine wpl_load agg_cli X 0 [.int .i64 a, .int .i64 b, .int .i64 0, .int .i64 0, .int .i64 0, .int .u64 0, .int .u64 0, .int .u64 0, .int .u64 0, .slice none 0 0, .int .i64 0, .int .u64 0, .int .u64 0, .int .u64 0, .int .u64 0] (by kernel_rfl) ?_ x0 ?_; · (first | (simp [Act.eval]; done) | (simp [Act.eval, Act.put]; done)))
    | (with_reducible refine wpl_load agg_cli V 0 [.int .i64 a, .int .i64 b, .int .i64 0, .int .i64 0, .int .i64 0, .int .u64 0, .int .u64 0, .int .u64 0, .int .u64 0, .slice none 0 0, .int .i64 0, .int .u64 0, .int .u64 0, .int .u64 0, .int .u64 0] (by kernel_rfl) ?_ v0 ?_; · (first | (simp [Act.eval]; done) | (simp [Act.eval, Act.put]; done)))
    | (with_reducible refine wpl_load agg_cli Y 0 [.int .i64 a, .int .i64 b, .int .i64 0, .int .i64 0, .int .i64 0, .int .u64 0, .int .u64 0, .int .u64 0, .int .u64 0, .slice none 0 0, .int .i64 0, .int .u64 0, .int .u64 0, .int .u64 0, .int .u64 0] (by kernel_rfl) ?_ y3 ?_; · (first | (simp [Act.eval]; done) | (simp [Act.eval, Act.put]; done)))
    | (go_at_call 9; refine (ce _).mono ?_; rintro e w9 ⟨rfl, b9⟩; have Y9 := Y8.call b9; obtain ⟨y3, -, -⟩ := id Y9; clear X8 Y8 V7 x0 v0 b9)
    | (go_at_call 13; refine (ch _).mono ?_; rintro e wa ⟨rfl, ba⟩; have Ya := Y9.call ba; clear Y9 y3 ba))
  go_ret
  exact ⟨rfl, Ya.2.2⟩
end Go.Proofs.YtdpbgcilkidbaaaDoor
