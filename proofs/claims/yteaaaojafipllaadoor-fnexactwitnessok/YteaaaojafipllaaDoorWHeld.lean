/-
  What a witness holds, on both sides.
-/
import Derived.Test.YteaaaojafipllaaDoorLawRR
import Derived.Test.YteaaaojafipllaaDoorPoint
namespace Go.Proofs.YteaaaojafipllaaDoor
open Go.RowKit Go.MuLone

/-- The size of the point that a disk holds. -/
def whn (s t : Sl) : Int := if (rread s t).2 = 0 then 0 else ((rread s t).1.z.toNat : Int)
/-- The root of the point that a disk holds. -/
def whq (s t : Sl) : Qd := if (rread s t).2 = 0 then dg (ByteArray.mk #[]) else (rread s t).1.r
theorem tpn_nil : tpn [] = 0 := rfl
theorem trv_nil : trv [] = dg (ByteArray.mk #[]) := rfl
theorem RBnew (W : World) (a b : Int) (q : Qd) (ty : TypeId) : RB W.heap.size a b q (W.alloc (.cells #[.int .i64 a, .int .i64 b, .int .u64 ((q.a).toNat : Int), .int .u64 ((q.b).toNat : Int), .int .u64 ((q.c).toNat : Int), .int .u64 ((q.d).toNat : Int)] ty)) := by
  refine ⟨by simp, ⟨?_, ?_, ?_, ?_, ?_, ?_⟩, fun i hi => ?_⟩ <;> simp [go_sem]

set_option maxRecDepth 20000 in
set_option maxHeartbeats 2000000 in
theorem wh_spec (s t : Sl) (w : World) :
    Calls Tryd.prog 10 #[.agg #[.int .u64 ((s).m.toNat : Int), .int .u64 ((s).q.toNat : Int), .int .u64 ((s).z.toNat : Int), .int .u64 ((s).r.a.toNat : Int), .int .u64 ((s).r.b.toNat : Int), .int .u64 ((s).r.c.toNat : Int), .int .u64 ((s).r.d.toNat : Int), .int .u64 ((t).m.toNat : Int), .int .u64 ((t).q.toNat : Int), .int .u64 ((t).z.toNat : Int), .int .u64 ((t).r.a.toNat : Int), .int .u64 ((t).r.b.toNat : Int), .int .u64 ((t).r.c.toNat : Int), .int .u64 ((t).r.d.toNat : Int)]] w fun e w' => e = .returned (.agg #[.int .i64 (whn s t), .int .u64 (((whq s t).a).toNat : Int), .int .u64 (((whq s t).b).toNat : Int), .int .u64 (((whq s t).c).toNat : Int), .int .u64 (((whq s t).d).toNat : Int)]) ∧ Below w.heap.size w w' := by
  have c1 := fun W : World => rread_spec s t W
  have en : whn s t = if (rread s t).2 = 0 then 0 else ((rread s t).1.z.toNat : Int) := rfl
  have eq : whq s t = if (rread s t).2 = 0 then dg (ByteArray.mk #[]) else (rread s t).1.r := rfl
  rw [en, eq]
  clear en eq
  generalize rread s t = X at c1 ⊢
  obtain ⟨x, k⟩ := X
  simp only at c1 ⊢
  have z0 : Below w.heap.size w ((w.alloc (.cells #[.int .u64 ((s).m.toNat : Int), .int .u64 ((s).q.toNat : Int), .int .u64 ((s).z.toNat : Int), .int .u64 ((s).r.a.toNat : Int), .int .u64 ((s).r.b.toNat : Int), .int .u64 ((s).r.c.toNat : Int), .int .u64 ((s).r.d.toNat : Int), .int .u64 ((t).m.toNat : Int), .int .u64 ((t).q.toNat : Int), .int .u64 ((t).z.toNat : Int), .int .u64 ((t).r.a.toNat : Int), .int .u64 ((t).r.b.toNat : Int), .int .u64 ((t).r.c.toNat : Int), .int .u64 ((t).r.d.toNat : Int)] 38)).alloc (.cells #[Value.int IntKind.i64 0, .int .u64 0, .int .u64 0, .int .u64 0, .int .u64 0] 47)) := (by repeat' (first | (with_reducible exact Below.refl _ _) | (with_reducible assumption) | (with_reducible refine below_drewN ?_ _) | (with_reducible refine Below.setCell ?_ ?_ _) | (with_reducible refine Below.alloc ?_ ?_ _) | (with_reducible refine Below.drew ?_) | go_size))
  have hX1 : Box5 (w.heap.size + 1) ((w.alloc (.cells #[.int .u64 ((s).m.toNat : Int), .int .u64 ((s).q.toNat : Int), .int .u64 ((s).z.toNat : Int), .int .u64 ((s).r.a.toNat : Int), .int .u64 ((s).r.b.toNat : Int), .int .u64 ((s).r.c.toNat : Int), .int .u64 ((s).r.d.toNat : Int), .int .u64 ((t).m.toNat : Int), .int .u64 ((t).q.toNat : Int), .int .u64 ((t).z.toNat : Int), .int .u64 ((t).r.a.toNat : Int), .int .u64 ((t).r.b.toNat : Int), .int .u64 ((t).r.c.toNat : Int), .int .u64 ((t).r.d.toNat : Int)] 38)).alloc (.cells #[Value.int IntKind.i64 0, .int .u64 0, .int .u64 0, .int .u64 0, .int .u64 0] 47)) := by
    have hh := Box5.start (w.alloc (.cells #[.int .u64 ((s).m.toNat : Int), .int .u64 ((s).q.toNat : Int), .int .u64 ((s).z.toNat : Int), .int .u64 ((s).r.a.toNat : Int), .int .u64 ((s).r.b.toNat : Int), .int .u64 ((s).r.c.toNat : Int), .int .u64 ((s).r.d.toNat : Int), .int .u64 ((t).m.toNat : Int), .int .u64 ((t).q.toNat : Int), .int .u64 ((t).z.toNat : Int), .int .u64 ((t).r.a.toNat : Int), .int .u64 ((t).r.b.toNat : Int), .int .u64 ((t).r.c.toNat : Int), .int .u64 ((t).r.d.toNat : Int)] 38))
    simp only [World.size_alloc] at hh
    exact hh
  by_cases hk : k = 0
  · subst hk
    simp only [if_true]
    have c2 := fun W : World => ho_spec_all (ByteArray.mk #[]) W
    generalize dg (ByteArray.mk #[]) = z at c2 ⊢
    go_enter Tryd.func10, Tryd.ntmps10
    go_wp2_with (first
      | (have hh := z2; go_at_call 19; refine (c2 _).mono ?_; rintro e w3 ⟨rfl, hb3⟩; have z3 := below_after z2 hb3 z2.size; have hX3 := hX2.call hb3; obtain ⟨⟨u0, u1, u2, u3, u4⟩, v0, v1, v2, v3, v4⟩ := hX3.facts)
      | (go_at_call 18; refine (c1 _).mono ?_; rintro e w1 ⟨rfl, hb1⟩; have z1 := below_after z0 hb1 z0.size; have hX2 := (hX1.call hb1).call ((Below.refl _ w1).alloc (Nat.le_refl _) (.cells #[.int .i64 (x.q.toNat : Int), .int .i64 (x.z.toNat : Int), .int .u64 ((x.r.a).toNat : Int), .int .u64 ((x.r.b).toNat : Int), .int .u64 ((x.r.c).toNat : Int), .int .u64 ((x.r.d).toNat : Int)] 58)); have hz1 : w.heap.size + 2 ≤ w1.heap.size := Nat.le_trans (by simp) hb1.size; have z2 : Below w.heap.size w (w1.alloc (.cells #[.int .i64 (x.q.toNat : Int), .int .i64 (x.z.toNat : Int), .int .u64 ((x.r.a).toNat : Int), .int .u64 ((x.r.b).toNat : Int), .int .u64 ((x.r.c).toNat : Int), .int .u64 ((x.r.d).toNat : Int)] 58)) := z1.alloc z1.size _; have hR := RBnew w1 (x.q.toNat : Int) (x.z.toNat : Int) x.r 58; obtain ⟨lR, ⟨r0, r1, r2, r3, r4, r5⟩, -⟩ := id hR; obtain ⟨⟨s0, s1, s2, s3, s4⟩, t0, t1, t2, t3, t4⟩ := hX2.facts))
    obtain ⟨q0, q1, q2, q3, q4⟩ := five_set (w := w3) (b := w.heap.size + 1) (x0 := .int .i64 0) (x1 := Value.int IntKind.u64 ((z.a).toNat : Int)) (x2 := Value.int IntKind.u64 ((z.b).toNat : Int)) (x3 := Value.int IntKind.u64 ((z.c).toNat : Int)) (x4 := Value.int IntKind.u64 ((z.d).toNat : Int)) hX3
    exact bodyPost_ret (v := .agg #[.int .i64 0, .int .u64 ((z.a).toNat : Int), .int .u64 ((z.b).toNat : Int), .int .u64 ((z.c).toNat : Int), .int .u64 ((z.d).toNat : Int)]) (by simp [results, Tryd.results10, go_sem, q0, q1, q2, q3, q4]) rfl ⟨rfl, by repeat' (first | (with_reducible exact z3) | (with_reducible refine Below.setCell ?_ ?_ _) | go_size)⟩
  · rw [if_neg hk, if_neg hk]
    have hkb : ((k : Int) == 0) = false := by simpa using hk
    go_enter Tryd.func10, Tryd.ntmps10
    go_wp2_with (first
      | (go_at_call 18; refine (c1 _).mono ?_; rintro e w1 ⟨rfl, hb1⟩; have z1 := below_after z0 hb1 z0.size; have hX2 := (hX1.call hb1).call ((Below.refl _ w1).alloc (Nat.le_refl _) (.cells #[.int .i64 (x.q.toNat : Int), .int .i64 (x.z.toNat : Int), .int .u64 ((x.r.a).toNat : Int), .int .u64 ((x.r.b).toNat : Int), .int .u64 ((x.r.c).toNat : Int), .int .u64 ((x.r.d).toNat : Int)] 58)); have hz1 : w.heap.size + 2 ≤ w1.heap.size := Nat.le_trans (by simp) hb1.size; have z2 : Below w.heap.size w (w1.alloc (.cells #[.int .i64 (x.q.toNat : Int), .int .i64 (x.z.toNat : Int), .int .u64 ((x.r.a).toNat : Int), .int .u64 ((x.r.b).toNat : Int), .int .u64 ((x.r.c).toNat : Int), .int .u64 ((x.r.d).toNat : Int)] 58)) := z1.alloc z1.size _; have hR := RBnew w1 (x.q.toNat : Int) (x.z.toNat : Int) x.r 58; obtain ⟨lR, ⟨r0, r1, r2, r3, r4, r5⟩, -⟩ := id hR; obtain ⟨⟨s0, s1, s2, s3, s4⟩, t0, t1, t2, t3, t4⟩ := hX2.facts))
    obtain ⟨q0, q1, q2, q3, q4⟩ := five_set (w := (w1.alloc (.cells #[.int .i64 (x.q.toNat : Int), .int .i64 (x.z.toNat : Int), .int .u64 ((x.r.a).toNat : Int), .int .u64 ((x.r.b).toNat : Int), .int .u64 ((x.r.c).toNat : Int), .int .u64 ((x.r.d).toNat : Int)] 58))) (b := w.heap.size + 1) (x0 := .int .i64 (x.z.toNat : Int)) (x1 := Value.int IntKind.u64 ((x.r.a).toNat : Int)) (x2 := Value.int IntKind.u64 ((x.r.b).toNat : Int)) (x3 := Value.int IntKind.u64 ((x.r.c).toNat : Int)) (x4 := Value.int IntKind.u64 ((x.r.d).toNat : Int)) hX2
    exact bodyPost_ret (v := .agg #[.int .i64 (x.z.toNat : Int), .int .u64 ((x.r.a).toNat : Int), .int .u64 ((x.r.b).toNat : Int), .int .u64 ((x.r.c).toNat : Int), .int .u64 ((x.r.d).toNat : Int)]) (by simp [results, Tryd.results10, go_sem, q0, q1, q2, q3, q4]) rfl ⟨rfl, by repeat' (first | (with_reducible exact z2) | (with_reducible refine Below.setCell ?_ ?_ _) | go_size)⟩

set_option maxRecDepth 20000 in
set_option maxHeartbeats 2000000 in
theorem wh_impl (s t : Sl) (w : World) :
    Calls Tryd.prog 14 #[.agg #[.int .u64 ((s).m.toNat : Int), .int .u64 ((s).q.toNat : Int), .int .u64 ((s).z.toNat : Int), .int .u64 ((s).r.a.toNat : Int), .int .u64 ((s).r.b.toNat : Int), .int .u64 ((s).r.c.toNat : Int), .int .u64 ((s).r.d.toNat : Int), .int .u64 ((t).m.toNat : Int), .int .u64 ((t).q.toNat : Int), .int .u64 ((t).z.toNat : Int), .int .u64 ((t).r.a.toNat : Int), .int .u64 ((t).r.b.toNat : Int), .int .u64 ((t).r.c.toNat : Int), .int .u64 ((t).r.d.toNat : Int)]] w fun e w' => e = .returned (.agg #[.int .i64 (whn s t), .int .u64 (((whq s t).a).toNat : Int), .int .u64 (((whq s t).b).toNat : Int), .int .u64 (((whq s t).c).toNat : Int), .int .u64 (((whq s t).d).toNat : Int)]) ∧ Below w.heap.size w w' := by
  have c1 := fun W : World => rread_impl s t W
  have en : whn s t = if (rread s t).2 = 0 then 0 else ((rread s t).1.z.toNat : Int) := rfl
  have eq : whq s t = if (rread s t).2 = 0 then dg (ByteArray.mk #[]) else (rread s t).1.r := rfl
  rw [en, eq]
  clear en eq
  generalize rread s t = X at c1 ⊢
  obtain ⟨x, k⟩ := X
  simp only at c1 ⊢
  have z0 : Below w.heap.size w ((w.alloc (.cells #[.int .u64 ((s).m.toNat : Int), .int .u64 ((s).q.toNat : Int), .int .u64 ((s).z.toNat : Int), .int .u64 ((s).r.a.toNat : Int), .int .u64 ((s).r.b.toNat : Int), .int .u64 ((s).r.c.toNat : Int), .int .u64 ((s).r.d.toNat : Int), .int .u64 ((t).m.toNat : Int), .int .u64 ((t).q.toNat : Int), .int .u64 ((t).z.toNat : Int), .int .u64 ((t).r.a.toNat : Int), .int .u64 ((t).r.b.toNat : Int), .int .u64 ((t).r.c.toNat : Int), .int .u64 ((t).r.d.toNat : Int)] 38)).alloc (.cells #[Value.int IntKind.i64 0, .int .u64 0, .int .u64 0, .int .u64 0, .int .u64 0] 47)) := (by repeat' (first | (with_reducible exact Below.refl _ _) | (with_reducible assumption) | (with_reducible refine below_drewN ?_ _) | (with_reducible refine Below.setCell ?_ ?_ _) | (with_reducible refine Below.alloc ?_ ?_ _) | (with_reducible refine Below.drew ?_) | go_size))
  have hX1 : Box5 (w.heap.size + 1) ((w.alloc (.cells #[.int .u64 ((s).m.toNat : Int), .int .u64 ((s).q.toNat : Int), .int .u64 ((s).z.toNat : Int), .int .u64 ((s).r.a.toNat : Int), .int .u64 ((s).r.b.toNat : Int), .int .u64 ((s).r.c.toNat : Int), .int .u64 ((s).r.d.toNat : Int), .int .u64 ((t).m.toNat : Int), .int .u64 ((t).q.toNat : Int), .int .u64 ((t).z.toNat : Int), .int .u64 ((t).r.a.toNat : Int), .int .u64 ((t).r.b.toNat : Int), .int .u64 ((t).r.c.toNat : Int), .int .u64 ((t).r.d.toNat : Int)] 38)).alloc (.cells #[Value.int IntKind.i64 0, .int .u64 0, .int .u64 0, .int .u64 0, .int .u64 0] 47)) := by
    have hh := Box5.start (w.alloc (.cells #[.int .u64 ((s).m.toNat : Int), .int .u64 ((s).q.toNat : Int), .int .u64 ((s).z.toNat : Int), .int .u64 ((s).r.a.toNat : Int), .int .u64 ((s).r.b.toNat : Int), .int .u64 ((s).r.c.toNat : Int), .int .u64 ((s).r.d.toNat : Int), .int .u64 ((t).m.toNat : Int), .int .u64 ((t).q.toNat : Int), .int .u64 ((t).z.toNat : Int), .int .u64 ((t).r.a.toNat : Int), .int .u64 ((t).r.b.toNat : Int), .int .u64 ((t).r.c.toNat : Int), .int .u64 ((t).r.d.toNat : Int)] 38))
    simp only [World.size_alloc] at hh
    exact hh
  by_cases hk : k = 0
  · subst hk
    simp only [if_true]
    have c2 := fun W : World => tp_impl [] (.slice none 0 0) W (Or.inl ⟨rfl, rfl⟩)
    rw [tpn_nil, trv_nil] at c2
    generalize dg (ByteArray.mk #[]) = z at c2 ⊢
    go_enter Tryd.func14, Tryd.ntmps14
    go_wp2_with (first
      | (have hh := z2; go_at_call 23; refine (c2 _).mono ?_; rintro e w3 ⟨rfl, hb3⟩; have z3 := below_after z2 hb3 z2.size; have hX3 := hX2.call hb3; obtain ⟨⟨u0, u1, u2, u3, u4⟩, v0, v1, v2, v3, v4⟩ := hX3.facts)
      | (go_at_call 22; refine (c1 _).mono ?_; rintro e w1 ⟨rfl, hb1⟩; have z1 := below_after z0 hb1 z0.size; have hX2 := (hX1.call hb1).call ((Below.refl _ w1).alloc (Nat.le_refl _) (.cells #[.int .i64 (x.q.toNat : Int), .int .i64 (x.z.toNat : Int), .int .u64 ((x.r.a).toNat : Int), .int .u64 ((x.r.b).toNat : Int), .int .u64 ((x.r.c).toNat : Int), .int .u64 ((x.r.d).toNat : Int)] 58)); have hz1 : w.heap.size + 2 ≤ w1.heap.size := Nat.le_trans (by simp) hb1.size; have z2 : Below w.heap.size w (w1.alloc (.cells #[.int .i64 (x.q.toNat : Int), .int .i64 (x.z.toNat : Int), .int .u64 ((x.r.a).toNat : Int), .int .u64 ((x.r.b).toNat : Int), .int .u64 ((x.r.c).toNat : Int), .int .u64 ((x.r.d).toNat : Int)] 58)) := z1.alloc z1.size _; have hR := RBnew w1 (x.q.toNat : Int) (x.z.toNat : Int) x.r 58; obtain ⟨lR, ⟨r0, r1, r2, r3, r4, r5⟩, -⟩ := id hR; obtain ⟨⟨s0, s1, s2, s3, s4⟩, t0, t1, t2, t3, t4⟩ := hX2.facts))
    obtain ⟨q0, q1, q2, q3, q4⟩ := five_set (w := w3) (b := w.heap.size + 1) (x0 := .int .i64 0) (x1 := Value.int IntKind.u64 ((z.a).toNat : Int)) (x2 := Value.int IntKind.u64 ((z.b).toNat : Int)) (x3 := Value.int IntKind.u64 ((z.c).toNat : Int)) (x4 := Value.int IntKind.u64 ((z.d).toNat : Int)) hX3
    exact bodyPost_ret (v := .agg #[.int .i64 0, .int .u64 ((z.a).toNat : Int), .int .u64 ((z.b).toNat : Int), .int .u64 ((z.c).toNat : Int), .int .u64 ((z.d).toNat : Int)]) (by simp [results, Tryd.results14, go_sem, q0, q1, q2, q3, q4]) rfl ⟨rfl, by repeat' (first | (with_reducible exact z3) | (with_reducible refine Below.setCell ?_ ?_ _) | go_size)⟩
  · rw [if_neg hk, if_neg hk]
    have hkb : ((k : Int) == 0) = false := by simpa using hk
    go_enter Tryd.func14, Tryd.ntmps14
    go_wp2_with (first
      | (go_at_call 22; refine (c1 _).mono ?_; rintro e w1 ⟨rfl, hb1⟩; have z1 := below_after z0 hb1 z0.size; have hX2 := (hX1.call hb1).call ((Below.refl _ w1).alloc (Nat.le_refl _) (.cells #[.int .i64 (x.q.toNat : Int), .int .i64 (x.z.toNat : Int), .int .u64 ((x.r.a).toNat : Int), .int .u64 ((x.r.b).toNat : Int), .int .u64 ((x.r.c).toNat : Int), .int .u64 ((x.r.d).toNat : Int)] 58)); have hz1 : w.heap.size + 2 ≤ w1.heap.size := Nat.le_trans (by simp) hb1.size; have z2 : Below w.heap.size w (w1.alloc (.cells #[.int .i64 (x.q.toNat : Int), .int .i64 (x.z.toNat : Int), .int .u64 ((x.r.a).toNat : Int), .int .u64 ((x.r.b).toNat : Int), .int .u64 ((x.r.c).toNat : Int), .int .u64 ((x.r.d).toNat : Int)] 58)) := z1.alloc z1.size _; have hR := RBnew w1 (x.q.toNat : Int) (x.z.toNat : Int) x.r 58; obtain ⟨lR, ⟨r0, r1, r2, r3, r4, r5⟩, -⟩ := id hR; obtain ⟨⟨s0, s1, s2, s3, s4⟩, t0, t1, t2, t3, t4⟩ := hX2.facts))
    obtain ⟨q0, q1, q2, q3, q4⟩ := five_set (w := (w1.alloc (.cells #[.int .i64 (x.q.toNat : Int), .int .i64 (x.z.toNat : Int), .int .u64 ((x.r.a).toNat : Int), .int .u64 ((x.r.b).toNat : Int), .int .u64 ((x.r.c).toNat : Int), .int .u64 ((x.r.d).toNat : Int)] 58))) (b := w.heap.size + 1) (x0 := .int .i64 (x.z.toNat : Int)) (x1 := Value.int IntKind.u64 ((x.r.a).toNat : Int)) (x2 := Value.int IntKind.u64 ((x.r.b).toNat : Int)) (x3 := Value.int IntKind.u64 ((x.r.c).toNat : Int)) (x4 := Value.int IntKind.u64 ((x.r.d).toNat : Int)) hX2
    exact bodyPost_ret (v := .agg #[.int .i64 (x.z.toNat : Int), .int .u64 ((x.r.a).toNat : Int), .int .u64 ((x.r.b).toNat : Int), .int .u64 ((x.r.c).toNat : Int), .int .u64 ((x.r.d).toNat : Int)]) (by simp [results, Tryd.results14, go_sem, q0, q1, q2, q3, q4]) rfl ⟨rfl, by repeat' (first | (with_reducible exact z2) | (with_reducible refine Below.setCell ?_ ?_ _) | go_size)⟩

end Go.Proofs.YteaaaojafipllaaDoor
