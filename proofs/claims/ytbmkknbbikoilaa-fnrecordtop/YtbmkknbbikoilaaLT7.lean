/-
  What the laws of records have in common: the boxes of a drawn disk, size and root.
-/
import Derived.Test.YtbmkknbbikoilaaDRaws
namespace Go.Proofs.Ytbmkknbbikoilaa
open Go.RowKit Go.MuLone

set_option maxRecDepth 20000 in
theorem agg_rec : AggTy 47 6 := ⟨⟨_, Try.underlying47, rfl⟩, by kernel_rfl⟩
/-- The boxes of the disk and of the root. -/
def LT7 (D : Nat) (d : Sl × Sl) (q : Qd) (wx : World) : Prop := Lies D 0 [.int .u64 ((d.1).m.toNat : Int), .int .u64 ((d.1).q.toNat : Int), .int .u64 ((d.1).z.toNat : Int), .int .u64 ((d.1).r.a.toNat : Int), .int .u64 ((d.1).r.b.toNat : Int), .int .u64 ((d.1).r.c.toNat : Int), .int .u64 ((d.1).r.d.toNat : Int), .int .u64 ((d.2).m.toNat : Int), .int .u64 ((d.2).q.toNat : Int), .int .u64 ((d.2).z.toNat : Int), .int .u64 ((d.2).r.a.toNat : Int), .int .u64 ((d.2).r.b.toNat : Int), .int .u64 ((d.2).r.c.toNat : Int), .int .u64 ((d.2).r.d.toNat : Int)] wx ∧ Lies (D + 1) 0 [.int .u64 ((q.a).toNat : Int), .int .u64 ((q.b).toNat : Int), .int .u64 ((q.c).toNat : Int), .int .u64 ((q.d).toNat : Int)] wx ∧ D + 1 < wx.heap.size
theorem LT7.call {D : Nat} {d : Sl × Sl} {q : Qd} {w1 w2 : World} (h : LT7 D d q w1) (hb : Below w1.heap.size w1 w2) : LT7 D d q w2 := by
  obtain ⟨h1, h2, h3⟩ := h
  exact ⟨h1.call hb (by omega), h2.call hb (by omega), Nat.lt_of_lt_of_le h3 hb.size⟩
theorem LT7.new (w : World) (d : Sl × Sl) (q : Qd) : LT7 w.heap.size d q ((w.alloc (.cells #[.int .u64 ((d.1).m.toNat : Int), .int .u64 ((d.1).q.toNat : Int), .int .u64 ((d.1).z.toNat : Int), .int .u64 ((d.1).r.a.toNat : Int), .int .u64 ((d.1).r.b.toNat : Int), .int .u64 ((d.1).r.c.toNat : Int), .int .u64 ((d.1).r.d.toNat : Int), .int .u64 ((d.2).m.toNat : Int), .int .u64 ((d.2).q.toNat : Int), .int .u64 ((d.2).z.toNat : Int), .int .u64 ((d.2).r.a.toNat : Int), .int .u64 ((d.2).r.b.toNat : Int), .int .u64 ((d.2).r.c.toNat : Int), .int .u64 ((d.2).r.d.toNat : Int)] 35)).alloc (.cells #[.int .u64 ((q.a).toNat : Int), .int .u64 ((q.b).toNat : Int), .int .u64 ((q.c).toNat : Int), .int .u64 ((q.d).toNat : Int)] 31)) := by
  refine ⟨?_, ?_, by simp⟩
  · exact (Lies.new w [.int .u64 ((d.1).m.toNat : Int), .int .u64 ((d.1).q.toNat : Int), .int .u64 ((d.1).z.toNat : Int), .int .u64 ((d.1).r.a.toNat : Int), .int .u64 ((d.1).r.b.toNat : Int), .int .u64 ((d.1).r.c.toNat : Int), .int .u64 ((d.1).r.d.toNat : Int), .int .u64 ((d.2).m.toNat : Int), .int .u64 ((d.2).q.toNat : Int), .int .u64 ((d.2).z.toNat : Int), .int .u64 ((d.2).r.a.toNat : Int), .int .u64 ((d.2).r.b.toNat : Int), .int .u64 ((d.2).r.c.toNat : Int), .int .u64 ((d.2).r.d.toNat : Int)] 35).call ((Below.refl _ _).alloc (Nat.le_refl _) _) (by simp)
  · have := Lies.new (w.alloc (.cells #[.int .u64 ((d.1).m.toNat : Int), .int .u64 ((d.1).q.toNat : Int), .int .u64 ((d.1).z.toNat : Int), .int .u64 ((d.1).r.a.toNat : Int), .int .u64 ((d.1).r.b.toNat : Int), .int .u64 ((d.1).r.c.toNat : Int), .int .u64 ((d.1).r.d.toNat : Int), .int .u64 ((d.2).m.toNat : Int), .int .u64 ((d.2).q.toNat : Int), .int .u64 ((d.2).z.toNat : Int), .int .u64 ((d.2).r.a.toNat : Int), .int .u64 ((d.2).r.b.toNat : Int), .int .u64 ((d.2).r.c.toNat : Int), .int .u64 ((d.2).r.d.toNat : Int)] 35)) [.int .u64 ((q.a).toNat : Int), .int .u64 ((q.b).toNat : Int), .int .u64 ((q.c).toNat : Int), .int .u64 ((q.d).toNat : Int)] 31
    simp only [World.size_alloc] at this
    exact this
/-- A box of one's own, made behind. -/
theorem Lies.fresh {w : World} (vs : List Value) (ty : TypeId) (V : World) (hV : V = w.alloc (.cells vs.toArray ty)) : Lies w.heap.size 0 vs V := by
  subst hV
  exact Lies.new w vs ty
end Go.Proofs.Ytbmkknbbikoilaa
