/-
  DrawHashBytes, DrawHashBack, walked: whatever they draw.
-/
import Derived.Test.YtbmkknbbikoilaaJoinB22
import Derived.Test.YtbmkknbbikoilaaJoinB14
import Derived.Test.YtbmkknbbikoilaaJoinB49
import Derived.Test.YtbmkknbbikoilaaJoinB51
import Derived.Test.YtbmkknbbikoilaaWalks11
namespace Go.Proofs.Ytbmkknbbikoilaa
open Go.RowKit

theorem RdAt.call {B : Nat} {v : Value} {L : List UInt8} {p : Nat} {W W' : World} (h : RdAt B v L p W) (hb : Below W.heap.size W W') : RdAt B v L p W' := by
  obtain ⟨h0, h1, h2, h3, h4, h5⟩ := h
  refine ⟨Nat.lt_of_lt_of_le h0 hb.size, (hb.cell h0).trans h1, (hb.cell h0).trans h2, (hb.frozen h0).trans h3, h4, ?_⟩
  rcases h5 with h5 | ⟨a, cap, hv, hl, hbl, hc⟩
  · exact .inl h5
  · exact .inr ⟨a, cap, hv, hl, hbl, fun i hi => (hb.cell (by rw [add_block']; omega)).trans (hc i hi)⟩
theorem below_far {base B : Nat} {w W W' : World} (h : Below base w W) (g : W.grownBy W' (some B)) (hB : base ≤ B) (hs : base ≤ W.heap.size) : Below base w W' :=
  h.grown g hs (fun k e => by have e2 : B = k := (by simpa using e); omega)

theorem str_le (t : List UInt8) (k : Nat) (h : t.length ≤ k) : (str t).size ≤ k := by
  have e : (str t).size = t.length := by simp [ByteArray.size]
  rw [e]; exact h
theorem ext_le (S : ByteArray) (i j k : Nat) (h : S.size ≤ k) : (S.extract i j).size ≤ k := by rw [ByteArray.size_extract]; omega
theorem app_le (x y : ByteArray) (a b c : Nat) (hx : x.size ≤ a) (hy : y.size ≤ b) (h : a + b ≤ c) : (x ++ y).size ≤ c := by rw [ByteArray.size_append]; omega
theorem add_ok (x y : ByteArray) (hx : x.size ≤ 1000) (hy : y.size ≤ 1000) (W : World) : (Op.stringOp .add x y).run Try.prog W = .ok (.string (x ++ y)) W := run_string_add_sum W x y (by omega)
theorem ext_size (S : ByteArray) (k : Nat) (t : List UInt8) (hS : S.size = 32) (ht : t.length ≤ 1) : (S.extract k 32 ++ str t).size ≤ 100 :=
  app_le _ _ 32 1 100 (ext_le _ _ _ _ (by omega)) (str_le _ _ ht) (by omega)
theorem ext_size2 (S : ByteArray) (i j : Nat) (t : List UInt8) (hS : S.size = 64) (ht : t.length ≤ 1) : (S.extract 0 i ++ str t ++ S.extract j 64).size ≤ 200 :=
  app_le _ _ 65 64 200 (app_le _ _ 64 1 65 (ext_le _ _ _ _ (by omega)) (str_le _ _ ht) (by omega)) (ext_le _ _ _ _ (by omega)) (by omega)

end Go.Proofs.Ytbmkknbbikoilaa

/-
  l1Many, walked.
-/
namespace Go.Proofs.Ytbmkknbbikoilaa
open Go.RowKit

theorem add_ok2 (x y : ByteArray) (hx : x.size ≤ 1000000) (hy : y.size ≤ 1000000) (W : World) : (Op.stringOp .add x y).run Try.prog W = .ok (.string (x ++ y)) W := run_string_add_sum W x y (by omega)
theorem half_sum (n s o N : Nat) (h : o + n * s = N) (hm : n % 2 = 1) : (o + s) + n / 2 * (s + s) = N := by
  have e : n = 2 * (n / 2) + 1 := by omega
  rw [e, Nat.add_mul, Nat.one_mul] at h
  rw [← h, Nat.mul_add, Nat.mul_comm 2 (n / 2), Nat.mul_assoc, Nat.two_mul, Nat.mul_add]
  omega
theorem half_sum0 (n s o N : Nat) (h : o + n * s = N) (hm : n % 2 = 0) : o + n / 2 * (s + s) = N := by
  have e : n = 2 * (n / 2) := by omega
  rw [e] at h
  rw [← h, Nat.mul_add, Nat.mul_comm 2 (n / 2), Nat.mul_assoc, Nat.two_mul, Nat.mul_add]

end Go.Proofs.Ytbmkknbbikoilaa

/-
  l1Many, pad and DrawClashOk, walked: whatever is drawn.
-/
namespace Go.Proofs.Ytbmkknbbikoilaa
open Go.RowKit

/-- The block B holds two texts that may be written over. -/
def Box2 (B : Nat) (W : World) : Prop := B < W.heap.size ∧ (∃ x, W.cell? ⟨B, 0, none⟩ = some x) ∧ (∃ x, W.cell? ⟨B, 1, none⟩ = some x) ∧ W.frozen? ⟨B, 0, none⟩ = false ∧ W.frozen? ⟨B, 1, none⟩ = false
theorem Box2.call {B : Nat} {W W' : World} (h : Box2 B W) (hb : Below W.heap.size W W') : Box2 B W' := by
  obtain ⟨h0, ⟨x, hx⟩, ⟨y, hy⟩, f0, f1⟩ := h
  exact ⟨Nat.lt_of_lt_of_le h0 hb.size, ⟨x, (hb.cell h0).trans hx⟩, ⟨y, (hb.cell h0).trans hy⟩, (hb.frozen h0).trans f0, (hb.frozen h0).trans f1⟩
theorem Box2.far {b B : Nat} {W W' : World} (h : Box2 b W) (g : W.grownBy W' (some B)) (hne : b ≠ B) : Box2 b W' := by
  obtain ⟨h0, ⟨x, hx⟩, ⟨y, hy⟩, f0, f1⟩ := h
  have ne : some b ≠ some B := fun e => hne (by simpa using e)
  exact ⟨Nat.lt_of_lt_of_le h0 g.size, ⟨x, g.cell hx ne⟩, ⟨y, g.cell hy ne⟩, (g.frozen_far _ h0 ne).trans f0, (g.frozen_far _ h0 ne).trans f1⟩
theorem two_set {w : World} {b : Nat} {x0 x1 : Value} (h : Box2 b w) : ((w.setCell ⟨b, 0, none⟩ x0).setCell ⟨b, 1, none⟩ x1).cell? ⟨b, 0, none⟩ = some x0 ∧ ((w.setCell ⟨b, 0, none⟩ x0).setCell ⟨b, 1, none⟩ x1).cell? ⟨b, 1, none⟩ = some x1 := by
  obtain ⟨h0, ⟨x, hx⟩, ⟨y, hy⟩, f0, f1⟩ := h
  refine ⟨?_, ?_⟩
  · rw [set_off (by omega), set_same (by rw [hx]; rfl)]
  · rw [set_same (by rw [set_off (by omega), hy]; rfl)]

end Go.Proofs.Ytbmkknbbikoilaa

/-
  DrawHashBlock, walked.
-/
namespace Go.Proofs.Ytbmkknbbikoilaa
open Go.RowKit

theorem Dig.far {b B : Nat} {q : Qd} {W W' : World} (h : Dig b q W) (g : W.grownBy W' (some B)) (hne : b ≠ B) : Dig b q W' := by
  obtain ⟨h0, h1, h2, h3, h4⟩ := h
  exact ⟨Nat.lt_of_lt_of_le h0 g.size, g.cell h1 (fun e => hne (by simpa using e)), g.cell h2 (fun e => hne (by simpa using e)), g.cell h3 (fun e => hne (by simpa using e)), g.cell h4 (fun e => hne (by simpa using e))⟩

theorem eight_set {w : World} {b c : Nat} {q r : Qd} (hX : Box b w) (hY : Box c w) (hne : b ≠ c) :
    ((((((((w.setCell ⟨b, 0, none⟩ (Value.int IntKind.u64 ((q.a).toNat : Int))).setCell ⟨b, 1, none⟩ (Value.int IntKind.u64 ((q.b).toNat : Int))).setCell ⟨b, 2, none⟩ (Value.int IntKind.u64 ((q.c).toNat : Int))).setCell ⟨b, 3, none⟩ (Value.int IntKind.u64 ((q.d).toNat : Int))).setCell ⟨c, 0, none⟩ (Value.int IntKind.u64 ((r.a).toNat : Int))).setCell ⟨c, 1, none⟩ (Value.int IntKind.u64 ((r.b).toNat : Int))).setCell ⟨c, 2, none⟩ (Value.int IntKind.u64 ((r.c).toNat : Int))).setCell ⟨c, 3, none⟩ (Value.int IntKind.u64 ((r.d).toNat : Int))).cell? ⟨b, 0, none⟩ = some (Value.int IntKind.u64 ((q.a).toNat : Int)) ∧ ((((((((w.setCell ⟨b, 0, none⟩ (Value.int IntKind.u64 ((q.a).toNat : Int))).setCell ⟨b, 1, none⟩ (Value.int IntKind.u64 ((q.b).toNat : Int))).setCell ⟨b, 2, none⟩ (Value.int IntKind.u64 ((q.c).toNat : Int))).setCell ⟨b, 3, none⟩ (Value.int IntKind.u64 ((q.d).toNat : Int))).setCell ⟨c, 0, none⟩ (Value.int IntKind.u64 ((r.a).toNat : Int))).setCell ⟨c, 1, none⟩ (Value.int IntKind.u64 ((r.b).toNat : Int))).setCell ⟨c, 2, none⟩ (Value.int IntKind.u64 ((r.c).toNat : Int))).setCell ⟨c, 3, none⟩ (Value.int IntKind.u64 ((r.d).toNat : Int))).cell? ⟨b, 1, none⟩ = some (Value.int IntKind.u64 ((q.b).toNat : Int)) ∧ ((((((((w.setCell ⟨b, 0, none⟩ (Value.int IntKind.u64 ((q.a).toNat : Int))).setCell ⟨b, 1, none⟩ (Value.int IntKind.u64 ((q.b).toNat : Int))).setCell ⟨b, 2, none⟩ (Value.int IntKind.u64 ((q.c).toNat : Int))).setCell ⟨b, 3, none⟩ (Value.int IntKind.u64 ((q.d).toNat : Int))).setCell ⟨c, 0, none⟩ (Value.int IntKind.u64 ((r.a).toNat : Int))).setCell ⟨c, 1, none⟩ (Value.int IntKind.u64 ((r.b).toNat : Int))).setCell ⟨c, 2, none⟩ (Value.int IntKind.u64 ((r.c).toNat : Int))).setCell ⟨c, 3, none⟩ (Value.int IntKind.u64 ((r.d).toNat : Int))).cell? ⟨b, 2, none⟩ = some (Value.int IntKind.u64 ((q.c).toNat : Int)) ∧ ((((((((w.setCell ⟨b, 0, none⟩ (Value.int IntKind.u64 ((q.a).toNat : Int))).setCell ⟨b, 1, none⟩ (Value.int IntKind.u64 ((q.b).toNat : Int))).setCell ⟨b, 2, none⟩ (Value.int IntKind.u64 ((q.c).toNat : Int))).setCell ⟨b, 3, none⟩ (Value.int IntKind.u64 ((q.d).toNat : Int))).setCell ⟨c, 0, none⟩ (Value.int IntKind.u64 ((r.a).toNat : Int))).setCell ⟨c, 1, none⟩ (Value.int IntKind.u64 ((r.b).toNat : Int))).setCell ⟨c, 2, none⟩ (Value.int IntKind.u64 ((r.c).toNat : Int))).setCell ⟨c, 3, none⟩ (Value.int IntKind.u64 ((r.d).toNat : Int))).cell? ⟨b, 3, none⟩ = some (Value.int IntKind.u64 ((q.d).toNat : Int)) ∧ ((((((((w.setCell ⟨b, 0, none⟩ (Value.int IntKind.u64 ((q.a).toNat : Int))).setCell ⟨b, 1, none⟩ (Value.int IntKind.u64 ((q.b).toNat : Int))).setCell ⟨b, 2, none⟩ (Value.int IntKind.u64 ((q.c).toNat : Int))).setCell ⟨b, 3, none⟩ (Value.int IntKind.u64 ((q.d).toNat : Int))).setCell ⟨c, 0, none⟩ (Value.int IntKind.u64 ((r.a).toNat : Int))).setCell ⟨c, 1, none⟩ (Value.int IntKind.u64 ((r.b).toNat : Int))).setCell ⟨c, 2, none⟩ (Value.int IntKind.u64 ((r.c).toNat : Int))).setCell ⟨c, 3, none⟩ (Value.int IntKind.u64 ((r.d).toNat : Int))).cell? ⟨c, 0, none⟩ = some (Value.int IntKind.u64 ((r.a).toNat : Int)) ∧ ((((((((w.setCell ⟨b, 0, none⟩ (Value.int IntKind.u64 ((q.a).toNat : Int))).setCell ⟨b, 1, none⟩ (Value.int IntKind.u64 ((q.b).toNat : Int))).setCell ⟨b, 2, none⟩ (Value.int IntKind.u64 ((q.c).toNat : Int))).setCell ⟨b, 3, none⟩ (Value.int IntKind.u64 ((q.d).toNat : Int))).setCell ⟨c, 0, none⟩ (Value.int IntKind.u64 ((r.a).toNat : Int))).setCell ⟨c, 1, none⟩ (Value.int IntKind.u64 ((r.b).toNat : Int))).setCell ⟨c, 2, none⟩ (Value.int IntKind.u64 ((r.c).toNat : Int))).setCell ⟨c, 3, none⟩ (Value.int IntKind.u64 ((r.d).toNat : Int))).cell? ⟨c, 1, none⟩ = some (Value.int IntKind.u64 ((r.b).toNat : Int)) ∧ ((((((((w.setCell ⟨b, 0, none⟩ (Value.int IntKind.u64 ((q.a).toNat : Int))).setCell ⟨b, 1, none⟩ (Value.int IntKind.u64 ((q.b).toNat : Int))).setCell ⟨b, 2, none⟩ (Value.int IntKind.u64 ((q.c).toNat : Int))).setCell ⟨b, 3, none⟩ (Value.int IntKind.u64 ((q.d).toNat : Int))).setCell ⟨c, 0, none⟩ (Value.int IntKind.u64 ((r.a).toNat : Int))).setCell ⟨c, 1, none⟩ (Value.int IntKind.u64 ((r.b).toNat : Int))).setCell ⟨c, 2, none⟩ (Value.int IntKind.u64 ((r.c).toNat : Int))).setCell ⟨c, 3, none⟩ (Value.int IntKind.u64 ((r.d).toNat : Int))).cell? ⟨c, 2, none⟩ = some (Value.int IntKind.u64 ((r.c).toNat : Int)) ∧ ((((((((w.setCell ⟨b, 0, none⟩ (Value.int IntKind.u64 ((q.a).toNat : Int))).setCell ⟨b, 1, none⟩ (Value.int IntKind.u64 ((q.b).toNat : Int))).setCell ⟨b, 2, none⟩ (Value.int IntKind.u64 ((q.c).toNat : Int))).setCell ⟨b, 3, none⟩ (Value.int IntKind.u64 ((q.d).toNat : Int))).setCell ⟨c, 0, none⟩ (Value.int IntKind.u64 ((r.a).toNat : Int))).setCell ⟨c, 1, none⟩ (Value.int IntKind.u64 ((r.b).toNat : Int))).setCell ⟨c, 2, none⟩ (Value.int IntKind.u64 ((r.c).toNat : Int))).setCell ⟨c, 3, none⟩ (Value.int IntKind.u64 ((r.d).toNat : Int))).cell? ⟨c, 3, none⟩ = some (Value.int IntKind.u64 ((r.d).toNat : Int)) := by
  obtain ⟨s0, s1, s2, s3, _⟩ := hX.facts
  obtain ⟨y0, y1, y2, y3, _⟩ := hY.facts
  obtain ⟨m0, m1, m2, m3⟩ := four_set_at (w := w) (b := b) (q := q) s0 s1 s2 s3
  obtain ⟨n0, n1, n2, n3⟩ := four_set_at (w := ((((w.setCell ⟨b, 0, none⟩ (Value.int IntKind.u64 ((q.a).toNat : Int))).setCell ⟨b, 1, none⟩ (Value.int IntKind.u64 ((q.b).toNat : Int))).setCell ⟨b, 2, none⟩ (Value.int IntKind.u64 ((q.c).toNat : Int))).setCell ⟨b, 3, none⟩ (Value.int IntKind.u64 ((q.d).toNat : Int)))) (b := c) (q := r) (c_set (c_set (c_set (c_set y0 hne) hne) hne) hne) (c_set (c_set (c_set (c_set y1 hne) hne) hne) hne) (c_set (c_set (c_set (c_set y2 hne) hne) hne) hne) (c_set (c_set (c_set (c_set y3 hne) hne) hne) hne)
  have hne' := hne.symm
  exact ⟨c_set (c_set (c_set (c_set m0 hne') hne') hne') hne', c_set (c_set (c_set (c_set m1 hne') hne') hne') hne', c_set (c_set (c_set (c_set m2 hne') hne') hne') hne', c_set (c_set (c_set (c_set m3 hne') hne') hne') hne', n0, n1, n2, n3⟩

end Go.Proofs.Ytbmkknbbikoilaa
