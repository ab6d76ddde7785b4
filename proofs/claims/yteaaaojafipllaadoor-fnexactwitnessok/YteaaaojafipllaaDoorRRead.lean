/-
  What a disk says, on both sides.
-/
import Derived.Test.YteaaaojafipllaaDoorReader4
namespace Go.Proofs.YteaaaojafipllaaDoor
open Go.RowKit Go.MuLone

/-- What a disk of the slots s and t says: the record, and the slot's number. -/
def rread (s t : Sl) : (Sl × Int) :=
  if slok s = true ∧ (slok t = false ∨ t.q.toNat ≤ s.q.toNat) then (s, 1) else if slok t = true then (t, 2) else (⟨0, 0, 0, ⟨0, 0, 0, 0⟩⟩, 0)
/-- The block B begins with a disk. -/
def DB (B : Nat) (s t : Sl) (W : World) : Prop :=
  SB B s W ∧ W.cell? ⟨B, 7, none⟩ = some (.int .u64 ((t.m).toNat : Int)) ∧ W.cell? ⟨B, 8, none⟩ = some (.int .u64 ((t.q).toNat : Int)) ∧ W.cell? ⟨B, 9, none⟩ = some (.int .u64 ((t.z).toNat : Int)) ∧ W.cell? ⟨B, 10, none⟩ = some (.int .u64 ((t.r.a).toNat : Int)) ∧ W.cell? ⟨B, 11, none⟩ = some (.int .u64 ((t.r.b).toNat : Int)) ∧ W.cell? ⟨B, 12, none⟩ = some (.int .u64 ((t.r.c).toNat : Int)) ∧ W.cell? ⟨B, 13, none⟩ = some (.int .u64 ((t.r.d).toNat : Int))
theorem DB.call {B : Nat} {s t : Sl} {W W' : World} (h : DB B s t W) (hb : Below W.heap.size W W') : DB B s t W' := by
  have hB := h.1.1
  obtain ⟨h0, h7, h8, h9, h10, h11, h12, h13⟩ := h
  exact ⟨h0.call hb, (hb.cell hB).trans h7, (hb.cell hB).trans h8, (hb.cell hB).trans h9, (hb.cell hB).trans h10, (hb.cell hB).trans h11, (hb.cell hB).trans h12, (hb.cell hB).trans h13⟩
theorem DB.new (W : World) (s t : Sl) (ty : TypeId) : DB W.heap.size s t (W.alloc (.cells #[.int .u64 ((s).m.toNat : Int), .int .u64 ((s).q.toNat : Int), .int .u64 ((s).z.toNat : Int), .int .u64 ((s).r.a.toNat : Int), .int .u64 ((s).r.b.toNat : Int), .int .u64 ((s).r.c.toNat : Int), .int .u64 ((s).r.d.toNat : Int), .int .u64 ((t).m.toNat : Int), .int .u64 ((t).q.toNat : Int), .int .u64 ((t).z.toNat : Int), .int .u64 ((t).r.a.toNat : Int), .int .u64 ((t).r.b.toNat : Int), .int .u64 ((t).r.c.toNat : Int), .int .u64 ((t).r.d.toNat : Int)] ty)) := by
  refine ⟨⟨by simp, ?_, ?_, ?_, ?_, ?_, ?_, ?_⟩, ?_, ?_, ?_, ?_, ?_, ?_, ?_⟩ <;> simp [go_sem]
/-- A record in the block R. -/
def RB (R : Nat) (a b : Int) (q : Qd) (W : World) : Prop :=
  R < W.heap.size ∧ (W.cell? ⟨R, 0, none⟩ = some (.int .i64 a) ∧ W.cell? ⟨R, 1, none⟩ = some (.int .i64 b) ∧ W.cell? ⟨R, 2, none⟩ = some (.int .u64 ((q.a).toNat : Int)) ∧ W.cell? ⟨R, 3, none⟩ = some (.int .u64 ((q.b).toNat : Int)) ∧ W.cell? ⟨R, 4, none⟩ = some (.int .u64 ((q.c).toNat : Int)) ∧ W.cell? ⟨R, 5, none⟩ = some (.int .u64 ((q.d).toNat : Int))) ∧ ∀ i, i < 6 → W.frozen? ⟨R, i, none⟩ = false
theorem RB.call {R : Nat} {a b : Int} {q : Qd} {W W' : World} (h : RB R a b q W) (hb : Below W.heap.size W W') : RB R a b q W' := by
  obtain ⟨hB, ⟨h0, h1, h2, h3, h4, h5⟩, hf⟩ := h
  exact ⟨Nat.lt_of_lt_of_le hB hb.size, ⟨(hb.cell hB).trans h0, (hb.cell hB).trans h1, (hb.cell hB).trans h2, (hb.cell hB).trans h3, (hb.cell hB).trans h4, (hb.cell hB).trans h5⟩, fun i hi => (hb.frozen (p := ⟨R, i, none⟩) hB).trans (hf i hi)⟩

theorem slok_bnd {s : Sl} (h : slok s = true) : (1 ≤ (s.q.toNat : Int) ∧ (s.q.toNat : Int) ≤ 1000000000) ∧ 1 ≤ (s.z.toNat : Int) ∧ (s.z.toNat : Int) ≤ 256 := by
  unfold slok bnd at h
  rw [Bool.and_eq_true, Bool.and_eq_true, decide_eq_true_iff, decide_eq_true_iff, decide_eq_true_iff] at h
  exact h.2

set_option maxRecDepth 20000 in
set_option maxHeartbeats 1600000 in
theorem rread_spec (s t : Sl) (w : World) :
    Calls Tryd.prog 18 #[.agg #[.int .u64 ((s).m.toNat : Int), .int .u64 ((s).q.toNat : Int), .int .u64 ((s).z.toNat : Int), .int .u64 ((s).r.a.toNat : Int), .int .u64 ((s).r.b.toNat : Int), .int .u64 ((s).r.c.toNat : Int), .int .u64 ((s).r.d.toNat : Int), .int .u64 ((t).m.toNat : Int), .int .u64 ((t).q.toNat : Int), .int .u64 ((t).z.toNat : Int), .int .u64 ((t).r.a.toNat : Int), .int .u64 ((t).r.b.toNat : Int), .int .u64 ((t).r.c.toNat : Int), .int .u64 ((t).r.d.toNat : Int)]] w fun e w' => e = .returned (.tuple #[.agg #[.int .i64 (((rread s t).1).q.toNat : Int), .int .i64 (((rread s t).1).z.toNat : Int), .int .u64 ((((rread s t).1).r.a).toNat : Int), .int .u64 ((((rread s t).1).r.b).toNat : Int), .int .u64 ((((rread s t).1).r.c).toNat : Int), .int .u64 ((((rread s t).1).r.d).toNat : Int)], .int .i64 (rread s t).2]) ∧ Below w.heap.size w w' := by
  have z0 : Below w.heap.size w ((w.alloc (.cells #[.int .u64 ((s).m.toNat : Int), .int .u64 ((s).q.toNat : Int), .int .u64 ((s).z.toNat : Int), .int .u64 ((s).r.a.toNat : Int), .int .u64 ((s).r.b.toNat : Int), .int .u64 ((s).r.c.toNat : Int), .int .u64 ((s).r.d.toNat : Int), .int .u64 ((t).m.toNat : Int), .int .u64 ((t).q.toNat : Int), .int .u64 ((t).z.toNat : Int), .int .u64 ((t).r.a.toNat : Int), .int .u64 ((t).r.b.toNat : Int), .int .u64 ((t).r.c.toNat : Int), .int .u64 ((t).r.d.toNat : Int)] 38)).alloc (.cells #[.int .i64 0, .int .i64 0, .int .u64 0, .int .u64 0, .int .u64 0, .int .u64 0] 58)) := (by repeat' (first | (with_reducible exact Below.refl _ _) | (with_reducible assumption) | (with_reducible refine below_drewN ?_ _) | (with_reducible refine Below.setCell ?_ ?_ _) | (with_reducible refine Below.alloc ?_ ?_ _) | (with_reducible refine Below.drew ?_) | go_size))
  have hD0 : DB w.heap.size s t ((w.alloc (.cells #[.int .u64 ((s).m.toNat : Int), .int .u64 ((s).q.toNat : Int), .int .u64 ((s).z.toNat : Int), .int .u64 ((s).r.a.toNat : Int), .int .u64 ((s).r.b.toNat : Int), .int .u64 ((s).r.c.toNat : Int), .int .u64 ((s).r.d.toNat : Int), .int .u64 ((t).m.toNat : Int), .int .u64 ((t).q.toNat : Int), .int .u64 ((t).z.toNat : Int), .int .u64 ((t).r.a.toNat : Int), .int .u64 ((t).r.b.toNat : Int), .int .u64 ((t).r.c.toNat : Int), .int .u64 ((t).r.d.toNat : Int)] 38)).alloc (.cells #[.int .i64 0, .int .i64 0, .int .u64 0, .int .u64 0, .int .u64 0, .int .u64 0] 58)) := (DB.new w s t 38).call ((Below.refl _ _).alloc (Nat.le_refl _) _)
  have hR0 : RB (w.heap.size + 1) 0 0 ⟨0, 0, 0, 0⟩ ((w.alloc (.cells #[.int .u64 ((s).m.toNat : Int), .int .u64 ((s).q.toNat : Int), .int .u64 ((s).z.toNat : Int), .int .u64 ((s).r.a.toNat : Int), .int .u64 ((s).r.b.toNat : Int), .int .u64 ((s).r.c.toNat : Int), .int .u64 ((s).r.d.toNat : Int), .int .u64 ((t).m.toNat : Int), .int .u64 ((t).q.toNat : Int), .int .u64 ((t).z.toNat : Int), .int .u64 ((t).r.a.toNat : Int), .int .u64 ((t).r.b.toNat : Int), .int .u64 ((t).r.c.toNat : Int), .int .u64 ((t).r.d.toNat : Int)] 38)).alloc (.cells #[.int .i64 0, .int .i64 0, .int .u64 0, .int .u64 0, .int .u64 0, .int .u64 0] 58)) := by
    refine ⟨by simp, ⟨?_, ?_, ?_, ?_, ?_, ?_⟩, fun i hi => ?_⟩ <;> first | (simp [go_sem]; done) | (simp [go_sem]; rfl)
  have c1 := fun W : World => sok_spec s W
  have c2 := fun W : World => sok_spec t W
  obtain ⟨⟨-, a0, a1, a2, a3, a4, a5, a6⟩, a7, a8, a9, a10, a11, a12, a13⟩ := id hD0
  cases hs : slok s with
  | false =>
    rw [hs] at c1
    cases ht : slok t with
    | false =>
      rw [ht] at c2
      have e : rread s t = ((⟨0, 0, 0, ⟨0, 0, 0, 0⟩⟩ : Sl), 0) := by unfold rread; simp [hs, ht]
      rw [e]
      clear e hs ht
      go_enter Tryd.func18, Tryd.ntmps18
      go_wp2_with (first
        | (have hh := z1; go_at_call 28; refine (c2 _).mono ?_; rintro e w2 ⟨rfl, hb2⟩; have z2 := below_after z1 hb2 z1.size; have hD2 := hD1.call hb2; have hR2 := hR1.call hb2; obtain ⟨⟨-, d0, d1, d2, d3, d4, d5, d6⟩, d7, d8, d9, d10, d11, d12, d13⟩ := id hD2; obtain ⟨lR2, ⟨r0, r1, r2, r3, r4, r5⟩, hrf⟩ := id hR2; have f0 := hrf 0 (by omega); have f1 := hrf 1 (by omega); have f2 := hrf 2 (by omega); have f3 := hrf 3 (by omega); have f4 := hrf 4 (by omega); have f5 := hrf 5 (by omega); clear hrf hD2 hD1)
        | (go_at_call 28; refine (c1 _).mono ?_; rintro e w1 ⟨rfl, hb1⟩; have z1 := below_after z0 hb1 z0.size; have hD1 := hD0.call hb1; have hR1 := hR0.call hb1; obtain ⟨⟨-, b0, b1, b2, b3, b4, b5, b6⟩, b7, b8, b9, b10, b11, b12, b13⟩ := id hD1))
      exact bodyPost_ret (v := .tuple #[.agg #[.int .i64 (((⟨0, 0, 0, ⟨0, 0, 0, 0⟩⟩ : Sl)).q.toNat : Int), .int .i64 (((⟨0, 0, 0, ⟨0, 0, 0, 0⟩⟩ : Sl)).z.toNat : Int), .int .u64 ((((⟨0, 0, 0, ⟨0, 0, 0, 0⟩⟩ : Sl)).r.a).toNat : Int), .int .u64 ((((⟨0, 0, 0, ⟨0, 0, 0, 0⟩⟩ : Sl)).r.b).toNat : Int), .int .u64 ((((⟨0, 0, 0, ⟨0, 0, 0, 0⟩⟩ : Sl)).r.c).toNat : Int), .int .u64 ((((⟨0, 0, 0, ⟨0, 0, 0, 0⟩⟩ : Sl)).r.d).toNat : Int)], .int .i64 0]) (by simp [results, Tryd.results18, go_sem, r0, r1, r2, r3, r4, r5]) rfl ⟨rfl, (((((z2.setCell (by show w.heap.size ≤ w.heap.size + 1; omega) _).setCell (by show w.heap.size ≤ w.heap.size + 1; omega) _).setCell (by show w.heap.size ≤ w.heap.size + 1; omega) _).setCell (by show w.heap.size ≤ w.heap.size + 1; omega) _).setCell (by show w.heap.size ≤ w.heap.size + 1; omega) _).setCell (by show w.heap.size ≤ w.heap.size + 1; omega) _⟩
    | true =>
      rw [ht] at c2
      obtain ⟨⟨-, q2⟩, -, q4⟩ := slok_bnd ht
      have e : rread s t = (t, 2) := by unfold rread; simp [hs, ht]
      rw [e]
      clear e hs ht
      go_enter Tryd.func18, Tryd.ntmps18
      go_wp2_with (first
        | (have hh := z1; go_at_call 28; refine (c2 _).mono ?_; rintro e w2 ⟨rfl, hb2⟩; have z2 := below_after z1 hb2 z1.size; have hD2 := hD1.call hb2; have hR2 := hR1.call hb2; obtain ⟨⟨-, d0, d1, d2, d3, d4, d5, d6⟩, d7, d8, d9, d10, d11, d12, d13⟩ := id hD2; obtain ⟨lR2, ⟨r0, r1, r2, r3, r4, r5⟩, hrf⟩ := id hR2; have f0 := hrf 0 (by omega); have f1 := hrf 1 (by omega); have f2 := hrf 2 (by omega); have f3 := hrf 3 (by omega); have f4 := hrf 4 (by omega); have f5 := hrf 5 (by omega); clear hrf hD2 hD1)
        | (go_at_call 28; refine (c1 _).mono ?_; rintro e w1 ⟨rfl, hb1⟩; have z1 := below_after z0 hb1 z0.size; have hD1 := hD0.call hb1; have hR1 := hR0.call hb1; obtain ⟨⟨-, b0, b1, b2, b3, b4, b5, b6⟩, b7, b8, b9, b10, b11, b12, b13⟩ := id hD1))
      exact bodyPost_ret (v := .tuple #[.agg #[.int .i64 ((t).q.toNat : Int), .int .i64 ((t).z.toNat : Int), .int .u64 (((t).r.a).toNat : Int), .int .u64 (((t).r.b).toNat : Int), .int .u64 (((t).r.c).toNat : Int), .int .u64 (((t).r.d).toNat : Int)], .int .i64 2]) (by simp [results, Tryd.results18, go_sem, r0, r1, r2, r3, r4, r5]) rfl ⟨rfl, (((((z2.setCell (by show w.heap.size ≤ w.heap.size + 1; omega) _).setCell (by show w.heap.size ≤ w.heap.size + 1; omega) _).setCell (by show w.heap.size ≤ w.heap.size + 1; omega) _).setCell (by show w.heap.size ≤ w.heap.size + 1; omega) _).setCell (by show w.heap.size ≤ w.heap.size + 1; omega) _).setCell (by show w.heap.size ≤ w.heap.size + 1; omega) _⟩
  | true =>
    rw [hs] at c1
    obtain ⟨⟨-, p2⟩, -, p4⟩ := slok_bnd hs
    cases ht : slok t with
    | false =>
      rw [ht] at c2
      have e : rread s t = (s, 1) := by unfold rread; simp [hs, ht]
      rw [e]
      clear e hs ht
      go_enter Tryd.func18, Tryd.ntmps18
      go_wp2_with (first
        | (have hh := z1; go_at_call 28; refine (c2 _).mono ?_; rintro e w2 ⟨rfl, hb2⟩; have z2 := below_after z1 hb2 z1.size; have hD2 := hD1.call hb2; have hR2 := hR1.call hb2; obtain ⟨⟨-, d0, d1, d2, d3, d4, d5, d6⟩, d7, d8, d9, d10, d11, d12, d13⟩ := id hD2; obtain ⟨lR2, ⟨r0, r1, r2, r3, r4, r5⟩, hrf⟩ := id hR2; have f0 := hrf 0 (by omega); have f1 := hrf 1 (by omega); have f2 := hrf 2 (by omega); have f3 := hrf 3 (by omega); have f4 := hrf 4 (by omega); have f5 := hrf 5 (by omega); clear hrf hD2 hD1)
        | (go_at_call 28; refine (c1 _).mono ?_; rintro e w1 ⟨rfl, hb1⟩; have z1 := below_after z0 hb1 z0.size; have hD1 := hD0.call hb1; have hR1 := hR0.call hb1; obtain ⟨⟨-, b0, b1, b2, b3, b4, b5, b6⟩, b7, b8, b9, b10, b11, b12, b13⟩ := id hD1))
      exact bodyPost_ret (v := .tuple #[.agg #[.int .i64 ((s).q.toNat : Int), .int .i64 ((s).z.toNat : Int), .int .u64 (((s).r.a).toNat : Int), .int .u64 (((s).r.b).toNat : Int), .int .u64 (((s).r.c).toNat : Int), .int .u64 (((s).r.d).toNat : Int)], .int .i64 1]) (by simp [results, Tryd.results18, go_sem, r0, r1, r2, r3, r4, r5]) rfl ⟨rfl, (((((z2.setCell (by show w.heap.size ≤ w.heap.size + 1; omega) _).setCell (by show w.heap.size ≤ w.heap.size + 1; omega) _).setCell (by show w.heap.size ≤ w.heap.size + 1; omega) _).setCell (by show w.heap.size ≤ w.heap.size + 1; omega) _).setCell (by show w.heap.size ≤ w.heap.size + 1; omega) _).setCell (by show w.heap.size ≤ w.heap.size + 1; omega) _⟩
    | true =>
      rw [ht] at c2
      obtain ⟨⟨-, q2⟩, -, q4⟩ := slok_bnd ht
      by_cases hle : t.q.toNat ≤ s.q.toNat
      · have e : rread s t = (s, 1) := by unfold rread; simp [hs, ht, hle]
        rw [e]
        clear e hs ht
        go_enter Tryd.func18, Tryd.ntmps18
        go_wp2_with (first
          | (have hh := z1; go_at_call 28; refine (c2 _).mono ?_; rintro e w2 ⟨rfl, hb2⟩; have z2 := below_after z1 hb2 z1.size; have hD2 := hD1.call hb2; have hR2 := hR1.call hb2; obtain ⟨⟨-, d0, d1, d2, d3, d4, d5, d6⟩, d7, d8, d9, d10, d11, d12, d13⟩ := id hD2; obtain ⟨lR2, ⟨r0, r1, r2, r3, r4, r5⟩, hrf⟩ := id hR2; have f0 := hrf 0 (by omega); have f1 := hrf 1 (by omega); have f2 := hrf 2 (by omega); have f3 := hrf 3 (by omega); have f4 := hrf 4 (by omega); have f5 := hrf 5 (by omega); clear hrf hD2 hD1)
          | (go_at_call 28; refine (c1 _).mono ?_; rintro e w1 ⟨rfl, hb1⟩; have z1 := below_after z0 hb1 z0.size; have hD1 := hD0.call hb1; have hR1 := hR0.call hb1; obtain ⟨⟨-, b0, b1, b2, b3, b4, b5, b6⟩, b7, b8, b9, b10, b11, b12, b13⟩ := id hD1))
        exact bodyPost_ret (v := .tuple #[.agg #[.int .i64 ((s).q.toNat : Int), .int .i64 ((s).z.toNat : Int), .int .u64 (((s).r.a).toNat : Int), .int .u64 (((s).r.b).toNat : Int), .int .u64 (((s).r.c).toNat : Int), .int .u64 (((s).r.d).toNat : Int)], .int .i64 1]) (by simp [results, Tryd.results18, go_sem, r0, r1, r2, r3, r4, r5]) rfl ⟨rfl, (((((z2.setCell (by show w.heap.size ≤ w.heap.size + 1; omega) _).setCell (by show w.heap.size ≤ w.heap.size + 1; omega) _).setCell (by show w.heap.size ≤ w.heap.size + 1; omega) _).setCell (by show w.heap.size ≤ w.heap.size + 1; omega) _).setCell (by show w.heap.size ≤ w.heap.size + 1; omega) _).setCell (by show w.heap.size ≤ w.heap.size + 1; omega) _⟩
      · have e : rread s t = (t, 2) := by unfold rread; simp [hs, ht, hle]
        rw [e]
        clear e hs ht
        go_enter Tryd.func18, Tryd.ntmps18
        go_wp2_with (first
          | (have hh := z1; go_at_call 28; refine (c2 _).mono ?_; rintro e w2 ⟨rfl, hb2⟩; have z2 := below_after z1 hb2 z1.size; have hD2 := hD1.call hb2; have hR2 := hR1.call hb2; obtain ⟨⟨-, d0, d1, d2, d3, d4, d5, d6⟩, d7, d8, d9, d10, d11, d12, d13⟩ := id hD2; obtain ⟨lR2, ⟨r0, r1, r2, r3, r4, r5⟩, hrf⟩ := id hR2; have f0 := hrf 0 (by omega); have f1 := hrf 1 (by omega); have f2 := hrf 2 (by omega); have f3 := hrf 3 (by omega); have f4 := hrf 4 (by omega); have f5 := hrf 5 (by omega); clear hrf hD2 hD1)
          | (go_at_call 28; refine (c1 _).mono ?_; rintro e w1 ⟨rfl, hb1⟩; have z1 := below_after z0 hb1 z0.size; have hD1 := hD0.call hb1; have hR1 := hR0.call hb1; obtain ⟨⟨-, b0, b1, b2, b3, b4, b5, b6⟩, b7, b8, b9, b10, b11, b12, b13⟩ := id hD1))
        exact bodyPost_ret (v := .tuple #[.agg #[.int .i64 ((t).q.toNat : Int), .int .i64 ((t).z.toNat : Int), .int .u64 (((t).r.a).toNat : Int), .int .u64 (((t).r.b).toNat : Int), .int .u64 (((t).r.c).toNat : Int), .int .u64 (((t).r.d).toNat : Int)], .int .i64 2]) (by simp [results, Tryd.results18, go_sem, r0, r1, r2, r3, r4, r5]) rfl ⟨rfl, (((((z2.setCell (by show w.heap.size ≤ w.heap.size + 1; omega) _).setCell (by show w.heap.size ≤ w.heap.size + 1; omega) _).setCell (by show w.heap.size ≤ w.heap.size + 1; omega) _).setCell (by show w.heap.size ≤ w.heap.size + 1; omega) _).setCell (by show w.heap.size ≤ w.heap.size + 1; omega) _).setCell (by show w.heap.size ≤ w.heap.size + 1; omega) _⟩
end Go.Proofs.YteaaaojafipllaaDoor
