/-
  TreePoint of both, and its law, walked.
-/
import Derived.Test.YteaaaojafipllaaDoorLawRoot
namespace Go.Proofs.YteaaaojafipllaaDoor
open Go.RowKit

set_option maxRecDepth 20000 in
set_option maxHeartbeats 1000000 in
theorem eqp_same (n : Int) (q : Qd) (w : World) :
    Calls Tryd.prog 41 #[.agg #[.int .i64 n, .int .u64 ((q.a).toNat : Int), .int .u64 ((q.b).toNat : Int), .int .u64 ((q.c).toNat : Int), .int .u64 ((q.d).toNat : Int)], .agg #[.int .i64 n, .int .u64 ((q.a).toNat : Int), .int .u64 ((q.b).toNat : Int), .int .u64 ((q.c).toNat : Int), .int .u64 ((q.d).toNat : Int)]] w fun e w' => e = .returned (.bool true) ∧ Below w.heap.size w w' := by
  have c := fun W : World => eqd_same q W
  go_enter Tryd.func41, Tryd.ntmps41
  go_wp2_with (go_at_call 40; refine (c _).mono ?_; rintro e w1 ⟨rfl, hb1⟩)
  have hz1 := hb1.size
  simp only [World.size_alloc] at hz1
  go_ret
  exact ⟨rfl, below_after (((Below.refl _ _).alloc (Nat.le_refl _) _).alloc (by simp) _) hb1 (by simp only [World.size_alloc]; omega)⟩

/-- The block B holds a point of noughts that may be written. -/
def Box5 (B : Nat) (W : World) : Prop := B < W.heap.size ∧ (W.cell? ⟨B, 0, none⟩ = some (.int .i64 0) ∧ W.frozen? ⟨B, 0, none⟩ = false) ∧ ∀ j, 0 < j → j < 5 → W.cell? ⟨B, j, none⟩ = some (.int .u64 0) ∧ W.frozen? ⟨B, j, none⟩ = false
theorem Box5.start (w : World) : Box5 w.heap.size (w.alloc (.cells #[Value.int IntKind.i64 0, Value.int IntKind.u64 0, Value.int IntKind.u64 0, Value.int IntKind.u64 0, Value.int IntKind.u64 0] 47)) := by
  refine ⟨by simp, by simp [go_sem], fun j h0 hj => ?_⟩
  have hj' : j = 1 ∨ j = 2 ∨ j = 3 ∨ j = 4 := by omega
  rcases hj' with rfl | rfl | rfl | rfl <;> simp [go_sem]
theorem Box5.call {B : Nat} {W W' : World} (h : Box5 B W) (hb : Below W.heap.size W W') : Box5 B W' :=
  ⟨Nat.lt_of_lt_of_le h.1 hb.size, ⟨(hb.cell h.1).trans h.2.1.1, (hb.frozen h.1).trans h.2.1.2⟩, fun j h0 hj => ⟨(hb.cell h.1).trans (h.2.2 j h0 hj).1, (hb.frozen h.1).trans (h.2.2 j h0 hj).2⟩⟩
theorem five_set {w : World} {b : Nat} {x0 x1 x2 x3 x4 : Value} (h : Box5 b w) :
    (((((w.setCell ⟨b, 0, none⟩ x0).setCell ⟨b, 1, none⟩ x1).setCell ⟨b, 2, none⟩ x2).setCell ⟨b, 3, none⟩ x3).setCell ⟨b, 4, none⟩ x4).cell? ⟨b, 0, none⟩ = some x0 ∧
    (((((w.setCell ⟨b, 0, none⟩ x0).setCell ⟨b, 1, none⟩ x1).setCell ⟨b, 2, none⟩ x2).setCell ⟨b, 3, none⟩ x3).setCell ⟨b, 4, none⟩ x4).cell? ⟨b, 1, none⟩ = some x1 ∧
    (((((w.setCell ⟨b, 0, none⟩ x0).setCell ⟨b, 1, none⟩ x1).setCell ⟨b, 2, none⟩ x2).setCell ⟨b, 3, none⟩ x3).setCell ⟨b, 4, none⟩ x4).cell? ⟨b, 2, none⟩ = some x2 ∧
    (((((w.setCell ⟨b, 0, none⟩ x0).setCell ⟨b, 1, none⟩ x1).setCell ⟨b, 2, none⟩ x2).setCell ⟨b, 3, none⟩ x3).setCell ⟨b, 4, none⟩ x4).cell? ⟨b, 3, none⟩ = some x3 ∧
    (((((w.setCell ⟨b, 0, none⟩ x0).setCell ⟨b, 1, none⟩ x1).setCell ⟨b, 2, none⟩ x2).setCell ⟨b, 3, none⟩ x3).setCell ⟨b, 4, none⟩ x4).cell? ⟨b, 4, none⟩ = some x4 := by
  have hs : ∀ j, j < 5 → (w.cell? ⟨b, j, none⟩).isSome = true := fun j hj => by
    by_cases h0 : j = 0
    · subst h0; rw [h.2.1.1]; rfl
    · rw [(h.2.2 j (by omega) hj).1]; rfl
  refine ⟨?_, ?_, ?_, ?_, ?_⟩
  · rw [set_off (by omega), set_off (by omega), set_off (by omega), set_off (by omega), set_same (hs 0 (by omega))]
  · rw [set_off (by omega), set_off (by omega), set_off (by omega), set_same (by rw [set_off (by omega)]; exact hs 1 (by omega))]
  · rw [set_off (by omega), set_off (by omega), set_same (by rw [set_off (by omega), set_off (by omega)]; exact hs 2 (by omega))]
  · rw [set_off (by omega), set_same (by rw [set_off (by omega), set_off (by omega), set_off (by omega)]; exact hs 3 (by omega))]
  · rw [set_same (by rw [set_off (by omega), set_off (by omega), set_off (by omega), set_off (by omega)]; exact hs 4 (by omega))]
theorem Box5.facts {B : Nat} {W : World} (h : Box5 B W) : (W.cell? ⟨B, 0, none⟩ = some (.int .i64 0) ∧ W.cell? ⟨B, 1, none⟩ = some (.int .u64 0) ∧ W.cell? ⟨B, 2, none⟩ = some (.int .u64 0) ∧ W.cell? ⟨B, 3, none⟩ = some (.int .u64 0) ∧ W.cell? ⟨B, 4, none⟩ = some (.int .u64 0)) ∧
    (W.frozen? ⟨B, 0, none⟩ = false ∧ W.frozen? ⟨B, 1, none⟩ = false ∧ W.frozen? ⟨B, 2, none⟩ = false ∧ W.frozen? ⟨B, 3, none⟩ = false ∧ W.frozen? ⟨B, 4, none⟩ = false) :=
  ⟨⟨h.2.1.1, (h.2.2 1 (by omega) (by omega)).1, (h.2.2 2 (by omega) (by omega)).1, (h.2.2 3 (by omega) (by omega)).1, (h.2.2 4 (by omega) (by omega)).1⟩, h.2.1.2, (h.2.2 1 (by omega) (by omega)).2, (h.2.2 2 (by omega) (by omega)).2, (h.2.2 3 (by omega) (by omega)).2, (h.2.2 4 (by omega) (by omega)).2⟩
/-- The block B holds the point of n leaves and q. -/
def Pnt (B : Nat) (n : Int) (q : Qd) (W : World) : Prop := B < W.heap.size ∧ W.cell? ⟨B, 0, none⟩ = some (.int .i64 n) ∧ W.cell? ⟨B, 1, none⟩ = some (Value.int IntKind.u64 ((q.a).toNat : Int)) ∧ W.cell? ⟨B, 2, none⟩ = some (Value.int IntKind.u64 ((q.b).toNat : Int)) ∧ W.cell? ⟨B, 3, none⟩ = some (Value.int IntKind.u64 ((q.c).toNat : Int)) ∧ W.cell? ⟨B, 4, none⟩ = some (Value.int IntKind.u64 ((q.d).toNat : Int))
theorem Pnt.new (w : World) (n : Int) (q : Qd) : Pnt w.heap.size n q (w.alloc (.cells #[Value.int IntKind.i64 n, Value.int IntKind.u64 ((q.a).toNat : Int), Value.int IntKind.u64 ((q.b).toNat : Int), Value.int IntKind.u64 ((q.c).toNat : Int), Value.int IntKind.u64 ((q.d).toNat : Int)] 47)) := by
  refine ⟨by simp, ?_, ?_, ?_, ?_, ?_⟩ <;> simp [go_sem]
theorem Pnt.call {B : Nat} {n : Int} {q : Qd} {W W' : World} (h : Pnt B n q W) (hb : Below W.heap.size W W') : Pnt B n q W' := by
  obtain ⟨h0, h1, h2, h3, h4, h5⟩ := h
  exact ⟨Nat.lt_of_lt_of_le h0 hb.size, (hb.cell h0).trans h1, (hb.cell h0).trans h2, (hb.cell h0).trans h3, (hb.cell h0).trans h4, (hb.cell h0).trans h5⟩

/-- The point that TreePoint tells. -/
def tpn (S : List ByteArray) : Int := if lok S then (S.length : Int) else 0
set_option maxRecDepth 20000 in
set_option maxHeartbeats 1000000 in
theorem tp_impl (S : List ByteArray) (v : Value) (w : World) (hT : Txt w v S) :
    Calls Tryd.prog 23 #[v] w fun e w' => e = .returned (.agg #[.int .i64 (tpn S), .int .u64 (((trv S).a).toNat : Int), .int .u64 (((trv S).b).toNat : Int), .int .u64 (((trv S).c).toNat : Int), .int .u64 (((trv S).d).toNat : Int)]) ∧ Below w.heap.size w w' := by
  have cl := fun (W : World) (h : Below w.heap.size w W) => lok_impl W v S (hT.call h)
  cases hl : lok S with
  | false =>
    have ht : trv S = { a := 0, b := 0, c := 0, d := 0 } := by unfold trv; rw [hl]; rfl
    have hn : tpn S = 0 := by unfold tpn; rw [hl]; rfl
    rw [ht, hn]
    rw [hl] at cl
    go_enter Tryd.func23, Tryd.ntmps23
    go_wp2_with (go_at_call 37; refine (cl _ (by repeat' (first | (with_reducible exact Below.refl _ _) | (with_reducible refine Below.alloc ?_ ?_ _) | exact Nat.le_refl _))).mono ?_; rintro e w1 ⟨rfl, rfl⟩)
    exact bodyPost_ret (v := .agg #[.int .i64 0, .int .u64 0, .int .u64 0, .int .u64 0, .int .u64 0]) (by simp [results, Tryd.results23, go_sem]) rfl ⟨rfl, (by repeat' (first | (with_reducible exact Below.refl _ _) | (with_reducible assumption) | (with_reducible refine below_drewN ?_ _) | (with_reducible refine Below.setCell ?_ ?_ _) | (with_reducible refine Below.alloc ?_ ?_ _) | (with_reducible refine Below.drew ?_) | go_size))⟩
  | true =>
    have hn : tpn S = (S.length : Int) := by unfold tpn; rw [hl]; rfl
    rw [hn]
    rw [hl] at cl
    have c1 := fun (W : World) (h : Below w.heap.size w W) => tr_impl S v W (hT.call h)
    obtain ⟨z, hz⟩ : ∃ z, z = trv S := ⟨_, rfl⟩
    rw [← hz] at c1 ⊢
    obtain ⟨a, cap, rfl⟩ : ∃ a cap, v = .slice a S.length cap := by
      rcases hT with ⟨rfl, rfl⟩ | ⟨a, cap, rfl, _⟩
      · exact ⟨none, 0, rfl⟩
      · exact ⟨some a, cap, rfl⟩
    clear hz hn hT
    go_enter Tryd.func23, Tryd.ntmps23
    go_wp2_with (first | (go_at_call 37; refine (cl _ (by repeat' (first | (with_reducible exact Below.refl _ _) | (with_reducible refine Below.alloc ?_ ?_ _) | exact Nat.le_refl _))).mono ?_; rintro e w1 ⟨rfl, rfl⟩) | (go_at_call 38; refine (c1 _ (by repeat' (first | (with_reducible exact Below.refl _ _) | (with_reducible refine Below.alloc ?_ ?_ _) | (with_reducible refine Below.drew ?_) | exact Nat.le_refl _))).mono ?_; rintro e w3 ⟨rfl, hb3⟩; have hX3 : Box5 w.heap.size w3 := (Box5.start w).call hb3; obtain ⟨⟨s0, s1, s2, s3, s4⟩, t0, t1, t2, t3, t4⟩ := hX3.facts; have hB3 : Below w.heap.size w w3 := below_after ((Below.refl _ _).alloc (Nat.le_refl _) _) hb3 (by simp)))
    obtain ⟨q0, q1, q2, q3, q4⟩ := five_set (w := w3) (b := w.heap.size) (x0 := .int .i64 (S.length : Int)) (x1 := Value.int IntKind.u64 ((z.a).toNat : Int)) (x2 := Value.int IntKind.u64 ((z.b).toNat : Int)) (x3 := Value.int IntKind.u64 ((z.c).toNat : Int)) (x4 := Value.int IntKind.u64 ((z.d).toNat : Int)) hX3
    exact bodyPost_ret (v := .agg #[.int .i64 (S.length : Int), .int .u64 ((z.a).toNat : Int), .int .u64 ((z.b).toNat : Int), .int .u64 ((z.c).toNat : Int), .int .u64 ((z.d).toNat : Int)]) (by simp [results, Tryd.results23, go_sem, q0, q1, q2, q3, q4]) rfl ⟨rfl, by repeat' (first | (with_reducible exact hB3) | (with_reducible refine Below.setCell ?_ ?_ _) | go_size)⟩

end Go.Proofs.YteaaaojafipllaaDoor
