/-
  DrawHashBlock, walked.
-/
import Derived.Test.YtnaaeooieljkmaaDraw2
namespace Go.Proofs.Ytnaaeooieljkmaa
open Go.RowKit

theorem Dig.far {b B : Nat} {q : Qd} {W W' : World} (h : Dig b q W) (g : W.grownBy W' (some B)) (hne : b ≠ B) : Dig b q W' := by
  obtain ⟨h0, h1, h2, h3, h4⟩ := h
  exact ⟨Nat.lt_of_lt_of_le h0 g.size, g.cell h1 (fun e => hne (by simpa using e)), g.cell h2 (fun e => hne (by simpa using e)), g.cell h3 (fun e => hne (by simpa using e)), g.cell h4 (fun e => hne (by simpa using e))⟩

theorem eight_set {w : World} {b c : Nat} {q r : Qd} (hX : Box b w) (hY : Box c w) (hne : b ≠ c) :
    ((((((((w.setCell ⟨b, 0, none⟩ (Value.int IntKind.u64 ((q.a).toNat : Int))).setCell ⟨b, 1, none⟩ (Value.int IntKind.u64 ((q.b).toNat : Int))).setCell ⟨b, 2, none⟩ (Value.int IntKind.u64 ((q.c).toNat : Int))).setCell ⟨b, 3, none⟩ (Value.int IntKind.u64 ((q.d).toNat : Int))).setCell ⟨c, 0, none⟩ (Value.int IntKind.u64 ((r.a).toNat : Int))).setCell ⟨c, 1, none⟩ (Value.int IntKind.u64 ((r.b).toNat : Int))).setCell ⟨c, 2, none⟩ (Value.int IntKind.u64 ((r.c).toNat : Int))).setCell ⟨c, 3, none⟩ (Value.int IntKind.u64 ((r.d).toNat : Int))).cell? ⟨b, 0, none⟩ = some (Value.int IntKind.u64 ((q.a).toNat : Int)) ∧ ((((((((w.setCell ⟨b, 0, none⟩ (Value.int IntKind.u64 ((q.a).toNat : Int))).setCell ⟨b, 1, none⟩ (Value.int IntKind.u64 ((q.b).toNat : Int))).setCell ⟨b, 2, none⟩ (Value.int IntKind.u64 ((q.c).toNat : Int))).setCell ⟨b, 3, none⟩ (Value.int IntKind.u64 ((q.d).toNat : Int))).setCell ⟨c, 0, none⟩ (Value.int IntKind.u64 ((r.a).toNat : Int))).setCell ⟨c, 1, none⟩ (Value.int IntKind.u64 ((r.b).toNat : Int))).setCell ⟨c, 2, none⟩ (Value.int IntKind.u64 ((r.c).toNat : Int))).setCell ⟨c, 3, none⟩ (Value.int IntKind.u64 ((r.d).toNat : Int))).cell? ⟨b, 1, none⟩ = some (Value.int IntKind.u64 ((q.b).toNat : Int)) ∧ ((((((((w.setCell ⟨b, 0, none⟩ (Value.int IntKind.u64 ((q.a).toNat : Int))).setCell ⟨b, 1, none⟩ (Value.int IntKind.u64 ((q.b).toNat : Int))).setCell ⟨b, 2, none⟩ (Value.int IntKind.u64 ((q.c).toNat : Int))).setCell ⟨b, 3, none⟩ (Value.int IntKind.u64 ((q.d).toNat : Int))).setCell ⟨c, 0, none⟩ (Value.int IntKind.u64 ((r.a).toNat : Int))).setCell ⟨c, 1, none⟩ (Value.int IntKind.u64 ((r.b).toNat : Int))).setCell ⟨c, 2, none⟩ (Value.int IntKind.u64 ((r.c).toNat : Int))).setCell ⟨c, 3, none⟩ (Value.int IntKind.u64 ((r.d).toNat : Int))).cell? ⟨b, 2, none⟩ = some (Value.int IntKind.u64 ((q.c).toNat : Int)) ∧ ((((((((w.setCell ⟨b, 0, none⟩ (Value.int IntKind.u64 ((q.a).toNat : Int))).setCell ⟨b, 1, none⟩ (Value.int IntKind.u64 ((q.b).toNat : Int))).setCell ⟨b, 2, none⟩ (Value.int IntKind.u64 ((q.c).toNat : Int))).setCell ⟨b, 3, none⟩ (Value.int IntKind.u64 ((q.d).toNat : Int))).setCell ⟨c, 0, none⟩ (Value.int IntKind.u64 ((r.a).toNat : Int))).setCell ⟨c, 1, none⟩ (Value.int IntKind.u64 ((r.b).toNat : Int))).setCell ⟨c, 2, none⟩ (Value.int IntKind.u64 ((r.c).toNat : Int))).setCell ⟨c, 3, none⟩ (Value.int IntKind.u64 ((r.d).toNat : Int))).cell? ⟨b, 3, none⟩ = some (Value.int IntKind.u64 ((q.d).toNat : Int)) ∧ ((((((((w.setCell ⟨b, 0, none⟩ (Value.int IntKind.u64 ((q.a).toNat : Int))).setCell ⟨b, 1, none⟩ (Value.int IntKind.u64 ((q.b).toNat : Int))).setCell ⟨b, 2, none⟩ (Value.int IntKind.u64 ((q.c).toNat : Int))).setCell ⟨b, 3, none⟩ (Value.int IntKind.u64 ((q.d).toNat : Int))).setCell ⟨c, 0, none⟩ (Value.int IntKind.u64 ((r.a).toNat : Int))).setCell ⟨c, 1, none⟩ (Value.int IntKind.u64 ((r.b).toNat : Int))).setCell ⟨c, 2, none⟩ (Value.int IntKind.u64 ((r.c).toNat : Int))).setCell ⟨c, 3, none⟩ (Value.int IntKind.u64 ((r.d).toNat : Int))).cell? ⟨c, 0, none⟩ = some (Value.int IntKind.u64 ((r.a).toNat : Int)) ∧ ((((((((w.setCell ⟨b, 0, none⟩ (Value.int IntKind.u64 ((q.a).toNat : Int))).setCell ⟨b, 1, none⟩ (Value.int IntKind.u64 ((q.b).toNat : Int))).setCell ⟨b, 2, none⟩ (Value.int IntKind.u64 ((q.c).toNat : Int))).setCell ⟨b, 3, none⟩ (Value.int IntKind.u64 ((q.d).toNat : Int))).setCell ⟨c, 0, none⟩ (Value.int IntKind.u64 ((r.a).toNat : Int))).setCell ⟨c, 1, none⟩ (Value.int IntKind.u64 ((r.b).toNat : Int))).setCell ⟨c, 2, none⟩ (Value.int IntKind.u64 ((r.c).toNat : Int))).setCell ⟨c, 3, none⟩ (Value.int IntKind.u64 ((r.d).toNat : Int))).cell? ⟨c, 1, none⟩ = some (Value.int IntKind.u64 ((r.b).toNat : Int)) ∧ ((((((((w.setCell ⟨b, 0, none⟩ (Value.int IntKind.u64 ((q.a).toNat : Int))).setCell ⟨b, 1, none⟩ (Value.int IntKind.u64 ((q.b).toNat : Int))).setCell ⟨b, 2, none⟩ (Value.int IntKind.u64 ((q.c).toNat : Int))).setCell ⟨b, 3, none⟩ (Value.int IntKind.u64 ((q.d).toNat : Int))).setCell ⟨c, 0, none⟩ (Value.int IntKind.u64 ((r.a).toNat : Int))).setCell ⟨c, 1, none⟩ (Value.int IntKind.u64 ((r.b).toNat : Int))).setCell ⟨c, 2, none⟩ (Value.int IntKind.u64 ((r.c).toNat : Int))).setCell ⟨c, 3, none⟩ (Value.int IntKind.u64 ((r.d).toNat : Int))).cell? ⟨c, 2, none⟩ = some (Value.int IntKind.u64 ((r.c).toNat : Int)) ∧ ((((((((w.setCell ⟨b, 0, none⟩ (Value.int IntKind.u64 ((q.a).toNat : Int))).setCell ⟨b, 1, none⟩ (Value.int IntKind.u64 ((q.b).toNat : Int))).setCell ⟨b, 2, none⟩ (Value.int IntKind.u64 ((q.c).toNat : Int))).setCell ⟨b, 3, none⟩ (Value.int IntKind.u64 ((q.d).toNat : Int))).setCell ⟨c, 0, none⟩ (Value.int IntKind.u64 ((r.a).toNat : Int))).setCell ⟨c, 1, none⟩ (Value.int IntKind.u64 ((r.b).toNat : Int))).setCell ⟨c, 2, none⟩ (Value.int IntKind.u64 ((r.c).toNat : Int))).setCell ⟨c, 3, none⟩ (Value.int IntKind.u64 ((r.d).toNat : Int))).cell? ⟨c, 3, none⟩ = some (Value.int IntKind.u64 ((r.d).toNat : Int)) := by
  obtain ⟨s0, s1, s2, s3, _⟩ := hX.facts
  obtain ⟨y0, y1, y2, y3, _⟩ := hY.facts
  obtain ⟨m0, m1, m2, m3⟩ := four_set_at (w := w) (b := b) (q := q) s0 s1 s2 s3
  obtain ⟨n0, n1, n2, n3⟩ := four_set_at (w := ((((w.setCell ⟨b, 0, none⟩ (Value.int IntKind.u64 ((q.a).toNat : Int))).setCell ⟨b, 1, none⟩ (Value.int IntKind.u64 ((q.b).toNat : Int))).setCell ⟨b, 2, none⟩ (Value.int IntKind.u64 ((q.c).toNat : Int))).setCell ⟨b, 3, none⟩ (Value.int IntKind.u64 ((q.d).toNat : Int)))) (b := c) (q := r) (c_set (c_set (c_set (c_set y0 hne) hne) hne) hne) (c_set (c_set (c_set (c_set y1 hne) hne) hne) hne) (c_set (c_set (c_set (c_set y2 hne) hne) hne) hne) (c_set (c_set (c_set (c_set y3 hne) hne) hne) hne)
  have hne' := hne.symm
  exact ⟨c_set (c_set (c_set (c_set m0 hne') hne') hne') hne', c_set (c_set (c_set (c_set m1 hne') hne') hne') hne', c_set (c_set (c_set (c_set m2 hne') hne') hne') hne', c_set (c_set (c_set (c_set m3 hne') hne') hne') hne', n0, n1, n2, n3⟩

set_option maxRecDepth 20000 in
set_option maxHeartbeats 2000000 in
theorem drawBlock_is (W : World) (v : Value) (L : List UInt8) (h : Byt W v L) :
    Calls Try.prog 4 #[v] W fun e w' => ∃ q r : Qd, e = .returned (.tuple #[.agg #[.int .u64 ((q).a.toNat : Int), .int .u64 ((q).b.toNat : Int), .int .u64 ((q).c.toNat : Int), .int .u64 ((q).d.toNat : Int)], .agg #[.int .u64 ((r).a.toNat : Int), .int .u64 ((r).b.toNat : Int), .int .u64 ((r).c.toNat : Int), .int .u64 ((r).d.toNat : Int)]]) ∧ Below W.heap.size W w' := by
  have hI : Below W.heap.size W ((W.alloc (.cells #[Value.int IntKind.u64 0, Value.int IntKind.u64 0, Value.int IntKind.u64 0, Value.int IntKind.u64 0] 25)).alloc (.cells #[Value.int IntKind.u64 0, Value.int IntKind.u64 0, Value.int IntKind.u64 0, Value.int IntKind.u64 0] 25)) := ((Below.refl W.heap.size W).alloc (Nat.le_refl _) _).alloc (by simp) _
  have c1 := open_is _ v L (h.call hI)
  simp only [World.size_alloc] at c1
  have cd := fun (W' : World) (v' : Value) (L' : List UInt8) (p' : Nat) (hp : p' ≤ 800000) (hr : RdAt (W.heap.size + 1 + 1) v' L' p' W') => digest_is (W.heap.size + 1 + 1) v' L' p' W' hr hp
  have hX0 : Box W.heap.size _ := (Box.start W).call ((Below.refl _ (W.alloc (.cells #[Value.int IntKind.u64 0, Value.int IntKind.u64 0, Value.int IntKind.u64 0, Value.int IntKind.u64 0] 25))).alloc (Nat.le_refl _) (.cells #[Value.int IntKind.u64 0, Value.int IntKind.u64 0, Value.int IntKind.u64 0, Value.int IntKind.u64 0] 25))
  have hY0 := Box.start (W.alloc (.cells #[Value.int IntKind.u64 0, Value.int IntKind.u64 0, Value.int IntKind.u64 0, Value.int IntKind.u64 0] 25))
  simp only [World.size_alloc] at hY0
  clear h
  go_enter Try.func4, Try.ntmps4
  go_wp2_with (first
    | (go_at_call 12; refine c1.mono ?_; rintro e w1 ⟨v1, L1, rfl, hR1, hb1⟩; have hX1 : Box W.heap.size w1 := hX0.call (by simpa only [World.size_alloc] using hb1); have hY1 : Box (W.heap.size + 1) w1 := hY0.call (by simpa only [World.size_alloc] using hb1))
    | (go_at_call 13; refine (cd w1 v1 L1 0 (by omega) hR1).mono ?_; rintro e w2 ⟨q, p2, hp2, rfl, hR2, hg2⟩; have hX2 : Box W.heap.size w2 := hX1.far hg2 (by omega); have hY2 : Box (W.heap.size + 1) w2 := hY1.far hg2 (by omega); clear hX1 hY1 hX0 hY0 c1))
  have hs2 : w1.heap.size ≤ w2.heap.size := hg2.size
  have hs1 := hb1.size
  simp only [World.size_alloc] at hs1
  have hB1 : Below W.heap.size W w1 := hI.trans (hb1.mono (by omega))
  have hB2 : Below W.heap.size W w2 := below_far hB1 hg2 (by omega) (by omega)
  have hD3 := Dig.new w2 q
  have hR3 : RdAt (W.heap.size + 1 + 1) v1 L1 p2 (w2.alloc (.cells #[Value.int IntKind.u64 ((q).a.toNat : Int), Value.int IntKind.u64 ((q).b.toNat : Int), Value.int IntKind.u64 ((q).c.toNat : Int), Value.int IntKind.u64 ((q).d.toNat : Int)] 25)) := hR2.grown (World.grownBy_alloc w2 _ none)
  have hX3 := hX2.alloc (.cells #[Value.int IntKind.u64 ((q).a.toNat : Int), Value.int IntKind.u64 ((q).b.toNat : Int), Value.int IntKind.u64 ((q).c.toNat : Int), Value.int IntKind.u64 ((q).d.toNat : Int)] 25)
  have hY3 := hY2.alloc (.cells #[Value.int IntKind.u64 ((q).a.toNat : Int), Value.int IntKind.u64 ((q).b.toNat : Int), Value.int IntKind.u64 ((q).c.toNat : Int), Value.int IntKind.u64 ((q).d.toNat : Int)] 25)
  have hB3 : Below W.heap.size W (w2.alloc (.cells #[Value.int IntKind.u64 ((q).a.toNat : Int), Value.int IntKind.u64 ((q).b.toNat : Int), Value.int IntKind.u64 ((q).c.toNat : Int), Value.int IntKind.u64 ((q).d.toNat : Int)] 25)) := hB2.alloc hB2.size _
  have hne : w2.heap.size ≠ W.heap.size + 1 + 1 := by have := hR1.1; omega
  obtain ⟨b, hb⟩ : ∃ b, b = w2.heap.size := ⟨_, rfl⟩
  obtain ⟨w3, hw3⟩ : ∃ w3, w3 = w2.alloc (.cells #[Value.int IntKind.u64 ((q).a.toNat : Int), Value.int IntKind.u64 ((q).b.toNat : Int), Value.int IntKind.u64 ((q).c.toNat : Int), Value.int IntKind.u64 ((q).d.toNat : Int)] 25) := ⟨_, rfl⟩
  rw [← hb] at hD3 hne ⊢
  rw [← hw3] at hD3 hR3 hX3 hY3 hB3 ⊢
  clear hw3 hb hR2 hX2 hY2 hB2 hg2 hR1 hB1 hb1 hI hs1 hs2
  have hh3 := hD3
  obtain ⟨_, f0, f1, f2, f3⟩ := hh3
  go_region_with (go_at_call 13; refine (cd _ v1 L1 p2 (by omega) hR3.drew).mono ?_; rintro e w4 ⟨r, p4, hp4, rfl, hR4, hg4⟩; have hX4 : Box W.heap.size w4 := hX3.drew.far hg4 (by omega); have hY4 : Box (W.heap.size + 1) w4 := hY3.drew.far hg4 (by omega); have hD4 : Dig b q w4 := hD3.drew.far hg4 hne; have hB4 : Below W.heap.size W w4 := below_far hB3.drew hg4 (by omega) hB3.size; obtain ⟨_, g0, g1, g2, g3⟩ := hD4; obtain ⟨s0, s1, s2, s3, t0, t1, t2, t3⟩ := hX4.facts; obtain ⟨y0, y1, y2, y3, z0, z1, z2, z3⟩ := hY4.facts)
  all_goals (go_wp2_with fail)
  all_goals obtain ⟨m0, m1, m2, m3, n0, n1, n2, n3⟩ := eight_set (q := q) (r := r) hX4 hY4 (by omega)
  all_goals exact bodyPost_ret (v := .tuple #[.agg #[.int .u64 ((q).a.toNat : Int), .int .u64 ((q).b.toNat : Int), .int .u64 ((q).c.toNat : Int), .int .u64 ((q).d.toNat : Int)], .agg #[.int .u64 ((r).a.toNat : Int), .int .u64 ((r).b.toNat : Int), .int .u64 ((r).c.toNat : Int), .int .u64 ((r).d.toNat : Int)]]) (by simp [results, Try.results4, go_sem, m0, m1, m2, m3, n0, n1, n2, n3]) rfl ⟨q, r, rfl, by repeat' (first | (with_reducible exact hB4) | (with_reducible refine Below.setCell ?_ ?_ _) | go_size)⟩
end Go.Proofs.Ytnaaeooieljkmaa
