/-
  The law of RecordRead, walked.
-/
import Derived.Test.YtlgpblgfkmjdpaaRRead2
namespace Go.Proofs.Ytlgpblgfkmjdpaa
open Go.RowKit Go.MuLone

set_option maxRecDepth 20000 in
set_option maxHeartbeats 1000000 in
theorem tosl_ex (s : Sl) (w : World) :
    Calls Try.prog 7 #[.agg #[.int .u64 ((s).m.toNat : Int), .int .u64 ((s).q.toNat : Int), .int .u64 ((s).z.toNat : Int), .int .u64 ((s).r.a.toNat : Int), .int .u64 ((s).r.b.toNat : Int), .int .u64 ((s).r.c.toNat : Int), .int .u64 ((s).r.d.toNat : Int)]] w fun e w' => e = .returned (.agg #[.int .u64 ((s).m.toNat : Int), .int .u64 ((s).q.toNat : Int), .int .u64 ((s).z.toNat : Int), .int .u64 ((s).r.a.toNat : Int), .int .u64 ((s).r.b.toNat : Int), .int .u64 ((s).r.c.toNat : Int), .int .u64 ((s).r.d.toNat : Int)]) ∧ w' = (((((w.alloc (.cells #[Value.int IntKind.u64 ((s).m.toNat : Int), Value.int IntKind.u64 ((s).q.toNat : Int), Value.int IntKind.u64 ((s).z.toNat : Int), Value.int IntKind.u64 ((s).r.a.toNat : Int), Value.int IntKind.u64 ((s).r.b.toNat : Int), Value.int IntKind.u64 ((s).r.c.toNat : Int), Value.int IntKind.u64 ((s).r.d.toNat : Int)] 26)).alloc (.cells #[Value.int IntKind.u64 ((s).m.toNat : Int), Value.int IntKind.u64 ((s).q.toNat : Int), Value.int IntKind.u64 ((s).z.toNat : Int), Value.int IntKind.u64 ((s).r.a.toNat : Int), Value.int IntKind.u64 ((s).r.b.toNat : Int), Value.int IntKind.u64 ((s).r.c.toNat : Int), Value.int IntKind.u64 ((s).r.d.toNat : Int)] 30)).alloc (.cells #[Value.int IntKind.u64 ((s).m.toNat : Int), Value.int IntKind.u64 ((s).q.toNat : Int), Value.int IntKind.u64 ((s).z.toNat : Int), Value.int IntKind.u64 ((s).r.a.toNat : Int), Value.int IntKind.u64 ((s).r.b.toNat : Int), Value.int IntKind.u64 ((s).r.c.toNat : Int), Value.int IntKind.u64 ((s).r.d.toNat : Int)] 30)).alloc (.cells #[Value.int IntKind.u64 ((s.r).a.toNat : Int), Value.int IntKind.u64 ((s.r).b.toNat : Int), Value.int IntKind.u64 ((s.r).c.toNat : Int), Value.int IntKind.u64 ((s.r).d.toNat : Int)] 24)).alloc (.cells #[Value.int IntKind.u64 ((s.r).a.toNat : Int), Value.int IntKind.u64 ((s.r).b.toNat : Int), Value.int IntKind.u64 ((s.r).c.toNat : Int), Value.int IntKind.u64 ((s.r).d.toNat : Int)] 28)).alloc (.cells #[Value.int IntKind.u64 ((s.r).a.toNat : Int), Value.int IntKind.u64 ((s.r).b.toNat : Int), Value.int IntKind.u64 ((s.r).c.toNat : Int), Value.int IntKind.u64 ((s.r).d.toNat : Int)] 28) := by
  go_enter Try.func7, Try.ntmps7
  go_wp2_with (go_at_call 18; refine (toD_is _ _).mono ?_; rintro e w1 ⟨rfl, rfl⟩)
  exact bodyPost_ret (v := .agg #[.int .u64 ((s).m.toNat : Int), .int .u64 ((s).q.toNat : Int), .int .u64 ((s).z.toNat : Int), .int .u64 ((s).r.a.toNat : Int), .int .u64 ((s).r.b.toNat : Int), .int .u64 ((s).r.c.toNat : Int), .int .u64 ((s).r.d.toNat : Int)]) (by simp [results, Try.results7, go_sem]) rfl ⟨rfl, rfl⟩
set_option maxRecDepth 20000 in
set_option maxHeartbeats 2000000 in
theorem todk_is (s t : Sl) (w : World) :
    Calls Try.prog 12 #[.agg #[.int .u64 ((s).m.toNat : Int), .int .u64 ((s).q.toNat : Int), .int .u64 ((s).z.toNat : Int), .int .u64 ((s).r.a.toNat : Int), .int .u64 ((s).r.b.toNat : Int), .int .u64 ((s).r.c.toNat : Int), .int .u64 ((s).r.d.toNat : Int), .int .u64 ((t).m.toNat : Int), .int .u64 ((t).q.toNat : Int), .int .u64 ((t).z.toNat : Int), .int .u64 ((t).r.a.toNat : Int), .int .u64 ((t).r.b.toNat : Int), .int .u64 ((t).r.c.toNat : Int), .int .u64 ((t).r.d.toNat : Int)]] w fun e w' => e = .returned (.agg #[.int .u64 ((s).m.toNat : Int), .int .u64 ((s).q.toNat : Int), .int .u64 ((s).z.toNat : Int), .int .u64 ((s).r.a.toNat : Int), .int .u64 ((s).r.b.toNat : Int), .int .u64 ((s).r.c.toNat : Int), .int .u64 ((s).r.d.toNat : Int), .int .u64 ((t).m.toNat : Int), .int .u64 ((t).q.toNat : Int), .int .u64 ((t).z.toNat : Int), .int .u64 ((t).r.a.toNat : Int), .int .u64 ((t).r.b.toNat : Int), .int .u64 ((t).r.c.toNat : Int), .int .u64 ((t).r.d.toNat : Int)]) ∧ Below w.heap.size w w' := by
  have c1 := fun W : World => tosl_ex s W
  have c2 := fun W : World => tosl_ex t W
  go_enter Try.func12, Try.ntmps12
  go_wp2_with (first
    | (have hh := H1; go_at_call 7; refine (c2 _).mono ?_; rintro e w2 ⟨rfl, rfl⟩)
    | (go_at_call 7; refine (c1 _).mono ?_; rintro e w1 ⟨rfl, rfl⟩; have H1 : True := trivial))
  exact bodyPost_ret (v := .agg #[.int .u64 ((s).m.toNat : Int), .int .u64 ((s).q.toNat : Int), .int .u64 ((s).z.toNat : Int), .int .u64 ((s).r.a.toNat : Int), .int .u64 ((s).r.b.toNat : Int), .int .u64 ((s).r.c.toNat : Int), .int .u64 ((s).r.d.toNat : Int), .int .u64 ((t).m.toNat : Int), .int .u64 ((t).q.toNat : Int), .int .u64 ((t).z.toNat : Int), .int .u64 ((t).r.a.toNat : Int), .int .u64 ((t).r.b.toNat : Int), .int .u64 ((t).r.c.toNat : Int), .int .u64 ((t).r.d.toNat : Int)]) (by simp [results, Try.results12, go_sem]) rfl ⟨rfl, (by repeat' (first | (with_reducible exact Below.refl _ _) | (with_reducible assumption) | (with_reducible refine below_drewN ?_ _) | (with_reducible refine Below.setCell ?_ ?_ _) | (with_reducible refine Below.alloc ?_ ?_ _) | (with_reducible refine Below.drew ?_) | go_size))⟩
set_option maxRecDepth 20000 in
set_option maxHeartbeats 1000000 in
theorem eqrec_same (a b : Int) (q : Qd) (w : World) :
    Calls Try.prog 14 #[.agg #[.int .i64 a, .int .i64 b, .int .u64 ((q.a).toNat : Int), .int .u64 ((q.b).toNat : Int), .int .u64 ((q.c).toNat : Int), .int .u64 ((q.d).toNat : Int)], .agg #[.int .i64 a, .int .i64 b, .int .u64 ((q.a).toNat : Int), .int .u64 ((q.b).toNat : Int), .int .u64 ((q.c).toNat : Int), .int .u64 ((q.d).toNat : Int)]] w fun e w' => e = .returned (.bool true) ∧ Below w.heap.size w w' := by
  have ce := fun W : World => eqd_same q W
  go_enter Try.func14, Try.ntmps14
  go_wp2_with (go_at_call 22; refine (ce _).mono ?_; rintro e w1 ⟨rfl, hb1⟩)
  go_ret
  exact ⟨rfl, below_after (by exact (by repeat' (first | (with_reducible exact Below.refl _ _) | (with_reducible assumption) | (with_reducible refine below_drewN ?_ _) | (with_reducible refine Below.setCell ?_ ?_ _) | (with_reducible refine Below.alloc ?_ ?_ _) | (with_reducible refine Below.drew ?_) | go_size))) hb1 (by simp; omega)⟩
theorem RB.new (W : World) (a b : Int) (q : Qd) (ty : TypeId) : RB W.heap.size a b q (W.alloc (.cells #[.int .i64 a, .int .i64 b, .int .u64 ((q.a).toNat : Int), .int .u64 ((q.b).toNat : Int), .int .u64 ((q.c).toNat : Int), .int .u64 ((q.d).toNat : Int)] ty)) := by
  refine ⟨by simp, ⟨?_, ?_, ?_, ?_, ?_, ?_⟩, fun i hi => ?_⟩ <;> simp [go_sem]
set_option maxRecDepth 20000 in
set_option maxHeartbeats 2000000 in
theorem lawRecordRead (s t : Sl) (w : World) :
    Calls Try.prog 5 #[.agg #[.int .u64 ((s).m.toNat : Int), .int .u64 ((s).q.toNat : Int), .int .u64 ((s).z.toNat : Int), .int .u64 ((s).r.a.toNat : Int), .int .u64 ((s).r.b.toNat : Int), .int .u64 ((s).r.c.toNat : Int), .int .u64 ((s).r.d.toNat : Int), .int .u64 ((t).m.toNat : Int), .int .u64 ((t).q.toNat : Int), .int .u64 ((t).z.toNat : Int), .int .u64 ((t).r.a.toNat : Int), .int .u64 ((t).r.b.toNat : Int), .int .u64 ((t).r.c.toNat : Int), .int .u64 ((t).r.d.toNat : Int)]] w fun e w' => e = .returned (.bool true) ∧ Below w.heap.size w w' := by
  have ct := fun W : World => todk_is s t W
  have c1 := fun W : World => rread_spec s t W
  have c2 := fun W : World => rread_impl s t W
  generalize rread s t = X at c1 c2
  have ce := fun W : World => eqrec_same (X.1.q.toNat : Int) (X.1.z.toNat : Int) X.1.r W
  have z0 : Below w.heap.size w (w.alloc (.cells #[.int .u64 ((s).m.toNat : Int), .int .u64 ((s).q.toNat : Int), .int .u64 ((s).z.toNat : Int), .int .u64 ((s).r.a.toNat : Int), .int .u64 ((s).r.b.toNat : Int), .int .u64 ((s).r.c.toNat : Int), .int .u64 ((s).r.d.toNat : Int), .int .u64 ((t).m.toNat : Int), .int .u64 ((t).q.toNat : Int), .int .u64 ((t).z.toNat : Int), .int .u64 ((t).r.a.toNat : Int), .int .u64 ((t).r.b.toNat : Int), .int .u64 ((t).r.c.toNat : Int), .int .u64 ((t).r.d.toNat : Int)] 35)) := (Below.refl _ _).alloc (Nat.le_refl _) _
  have hD0 := DB.new w s t 35
  obtain ⟨⟨-, a0, a1, a2, a3, a4, a5, a6⟩, a7, a8, a9, a10, a11, a12, a13⟩ := id hD0
  go_enter Try.func5, Try.ntmps5
  go_wp2_with (first
    | (go_at_call 14; refine (ce _).mono ?_; rintro e w5 ⟨rfl, hb5⟩; have z5 := below_after (z4.alloc z4.size _) hb5 (Nat.le_trans z4.size (by simp)))
    | (go_at_call 13; refine (c2 _).mono ?_; rintro e w4 ⟨rfl, hb4⟩; have z4 := below_after z3 hb4 z3.size; have hR4 := (hR3.call hb4).call ((Below.refl _ _).alloc (Nat.le_refl _) (.cells #[.int .i64 (X.1.q.toNat : Int), .int .i64 (X.1.z.toNat : Int), .int .u64 ((X.1.r.a).toNat : Int), .int .u64 ((X.1.r.b).toNat : Int), .int .u64 ((X.1.r.c).toNat : Int), .int .u64 ((X.1.r.d).toNat : Int)] 37)); obtain ⟨lR, ⟨r0, r1, r2, r3, r4, r5⟩, -⟩ := id hR4)
    | (have hh := hR2; go_at_call 12; refine (ct _).mono ?_; rintro e w3 ⟨rfl, hb3⟩; have z3 := below_after z2 hb3 z2.size; have hR3 := hR2.call hb3)
    | (go_at_call 11; refine (c1 _).mono ?_; rintro e w2 ⟨rfl, hb2⟩; have hR2 := RB.new w2 (X.1.q.toNat : Int) (X.1.z.toNat : Int) X.1.r 37; have z2 := (below_after z1 hb2 z1.size).alloc (below_after z1 hb2 z1.size).size (.cells #[.int .i64 (X.1.q.toNat : Int), .int .i64 (X.1.z.toNat : Int), .int .u64 ((X.1.r.a).toNat : Int), .int .u64 ((X.1.r.b).toNat : Int), .int .u64 ((X.1.r.c).toNat : Int), .int .u64 ((X.1.r.d).toNat : Int)] 37); have hD2 := (hD1.call hb2).call ((Below.refl _ _).alloc (Nat.le_refl _) (.cells #[.int .i64 (X.1.q.toNat : Int), .int .i64 (X.1.z.toNat : Int), .int .u64 ((X.1.r.a).toNat : Int), .int .u64 ((X.1.r.b).toNat : Int), .int .u64 ((X.1.r.c).toNat : Int), .int .u64 ((X.1.r.d).toNat : Int)] 37)); obtain ⟨⟨-, d0, d1, d2, d3, d4, d5, d6⟩, d7, d8, d9, d10, d11, d12, d13⟩ := id hD2)
    | (go_at_call 12; refine (ct _).mono ?_; rintro e w1 ⟨rfl, hb1⟩; have z1 := below_after z0 hb1 z0.size; have hD1 := hD0.call hb1))
  go_ret
  exact ⟨rfl, z5⟩
end Go.Proofs.Ytlgpblgfkmjdpaa
