/-
  A slot drawn.
-/
import Derived.Test.YtepgmdgcappfpaaJoinB15
import Derived.Test.YtepgmdgcappfpaaDWs3
import Derived.Test.YtepgmdgcappfpaaJoinB23
namespace Go.Proofs.Ytepgmdgcappfpaa
open Go.RowKit

theorem _root_.Go.World.grownBy.two {W W1 W2 : World} {r : Option Nat} (h : W.grownBy W1 r) (h' : W1.grownBy W2 r) : W.grownBy W2 r :=
  ⟨h'.os.trans h.os, h'.tape.trans h.tape, h'.output.trans h.output, Nat.le_trans h.size h'.size, fun k hk hne => (h'.block k (Nat.lt_of_lt_of_le hk h.size) hne).trans (h.block k hk hne)⟩
theorem grown_newS {W W1 W2 : World} {r : Option Nat} {X : Nat} (h : W.grownBy W1 r) (h' : W1.grownBy W2 (some X)) (hX : W.heap.size ≤ X) : W.grownBy W2 r :=
  h.andThen h' (fun k e => .inl (by injection e with e; omega))
theorem Room.scs {b k n : Nat} (g : Nat) : ∀ (vs : List Value) (i : Nat) (w : World), Room b k n w → Room b k n (w.setCells g i vs)
  | [], _, _, h => h
  | v :: r, i, w, h => by rw [World.setCells]; exact Room.scs g r _ _ (h.set g i v)
/-- What stands while a slot is drawn: the reader B, the answer's box H, the slot's box X. -/
def DSl (H X B : Nat) (v : Value) (L : List UInt8) (p : Nat) (x : Sl) (W0 W : World) : Prop :=
  RdAt B v L p W ∧ Room H 0 7 W ∧ Lies X 0 [.int .u64 ((x).m.toNat : Int), .int .u64 ((x).q.toNat : Int), .int .u64 ((x).z.toNat : Int), .int .u64 ((x).r.a.toNat : Int), .int .u64 ((x).r.b.toNat : Int), .int .u64 ((x).r.c.toNat : Int), .int .u64 ((x).r.d.toNat : Int)] W ∧ Room X 0 7 W ∧ B < H ∧ H < X ∧ X < W.heap.size ∧ W0.heap.size ≤ H ∧ W0.grownBy W (some B)
theorem RdAt.apart {B : Nat} {v : Value} {L : List UInt8} {p : Nat} {W W' : World} {X : Nat} (h : RdAt B v L p W) (g : W.grownBy W' (some X)) (hX : B < X) : RdAt B v L p W' :=
  h.far g (fun k e => by injection e with e; omega)
theorem DSl.pick {H X B : Nat} {v : Value} {L : List UInt8} {p p' : Nat} {x : Sl} {W0 W W' : World} (h : DSl H X B v L p x W0 W) (hr : RdAt B v L p' W') (g : W.grownBy W' (some B)) : DSl H X B v L p' x W0 W' := by
  obtain ⟨h1, h2, h3, h4, h5, h6, h7, h8, h9⟩ := h
  exact ⟨hr, h2.grown g (by omega) (fun e => by injection e with e; omega), h3.grown g h7 (fun e => by injection e with e; omega), h4.grown g h7 (fun e => by injection e with e; omega), h5, h6, Nat.lt_of_lt_of_le h7 g.size, h8, h9.two g⟩
theorem DSl.same {H X B : Nat} {v : Value} {L : List UInt8} {p : Nat} {x : Sl} {W0 W W' : World} (h : DSl H X B v L p x W0 W) (hb : Below W.heap.size W W') (g : W.grownBy W' none) : DSl H X B v L p x W0 W' := by
  obtain ⟨h1, h2, h3, h4, h5, h6, h7, h8, h9⟩ := h
  exact ⟨h1.grown g, h2.call hb (by omega), h3.call hb h7, h4.call hb h7, h5, h6, Nat.lt_of_lt_of_le h7 hb.size, h8, h9.andThen g (fun k e => by cases e)⟩
/-- Some cells of the slot written. -/
theorem DSl.at {H X B : Nat} {v : Value} {L : List UInt8} {p : Nat} {x x' : Sl} {W0 W W' : World} (h : DSl H X B v L p x W0 W) (g : W.grownBy W' (some X)) (l : Lies X 0 [.int .u64 ((x').m.toNat : Int), .int .u64 ((x').q.toNat : Int), .int .u64 ((x').z.toNat : Int), .int .u64 ((x').r.a.toNat : Int), .int .u64 ((x').r.b.toNat : Int), .int .u64 ((x').r.c.toNat : Int), .int .u64 ((x').r.d.toNat : Int)] W') (r : Room X 0 7 W') : DSl H X B v L p x' W0 W' := by
  obtain ⟨h1, h2, h3, h4, h5, h6, h7, h8, h9⟩ := h
  exact ⟨h1.apart g (by omega), h2.grown g (by omega) (fun e => by injection e with e; omega), l, r, h5, h6, Nat.lt_of_lt_of_le h7 g.size, h8, grown_newS h9 g (by omega)⟩
theorem DSl.sum {H X B : Nat} {v : Value} {L : List UInt8} {p : Nat} {x : Sl} {W0 W : World} (h : DSl H X B v L p x W0 W) (u : UInt64) : DSl H X B v L p ⟨u, x.q, x.z, x.r⟩ W0 (W.setCell ⟨X, 0, none⟩ (.int .u64 ((u).toNat : Int))) :=
  h.at (grownR_set W X 0 _) (h.2.2.1.set 0 (by simp) (.int .u64 ((u).toNat : Int))) (h.2.2.2.1.set X 0 _)
theorem DSl.seq {H X B : Nat} {v : Value} {L : List UInt8} {p : Nat} {x : Sl} {W0 W : World} (h : DSl H X B v L p x W0 W) (u : UInt64) : DSl H X B v L p ⟨x.m, u, x.z, x.r⟩ W0 (W.setCell ⟨X, 1, none⟩ (.int .u64 ((u).toNat : Int))) :=
  h.at (grownR_set W X 1 _) (h.2.2.1.set 1 (by simp) (.int .u64 ((u).toNat : Int))) (h.2.2.2.1.set X 1 _)
theorem DSl.size {H X B : Nat} {v : Value} {L : List UInt8} {p : Nat} {x : Sl} {W0 W : World} (h : DSl H X B v L p x W0 W) (u : UInt64) : DSl H X B v L p ⟨x.m, x.q, u, x.r⟩ W0 (W.setCell ⟨X, 2, none⟩ (.int .u64 ((u).toNat : Int))) :=
  h.at (grownR_set W X 2 _) (h.2.2.1.set 2 (by simp) (.int .u64 ((u).toNat : Int))) (h.2.2.2.1.set X 2 _)
theorem DSl.b {H X B : Nat} {v : Value} {L : List UInt8} {p : Nat} {x : Sl} {W0 W : World} (h : DSl H X B v L p x W0 W) (u : UInt64) : DSl H X B v L p ⟨x.m, x.q, x.z, ⟨x.r.a, u, x.r.c, x.r.d⟩⟩ W0 (W.setCell ⟨X, 4, none⟩ (.int .u64 ((u).toNat : Int))) :=
  h.at (grownR_set W X 4 _) (h.2.2.1.set 4 (by simp) (.int .u64 ((u).toNat : Int))) (h.2.2.2.1.set X 4 _)
theorem DSl.all {H X B : Nat} {v : Value} {L : List UInt8} {p : Nat} {x : Sl} {W0 W : World} (h : DSl H X B v L p x W0 W) (y : Sl) : DSl H X B v L p y W0 (W.setCells X 0 [.int .u64 ((y).m.toNat : Int), .int .u64 ((y).q.toNat : Int), .int .u64 ((y).z.toNat : Int), .int .u64 ((y).r.a.toNat : Int), .int .u64 ((y).r.b.toNat : Int), .int .u64 ((y).r.c.toNat : Int), .int .u64 ((y).r.d.toNat : Int)]) :=
  h.at (sc_grown W X 0 _) (Lies.sc rfl h.2.2.2.1) (h.2.2.2.1.scs X _ 0 _)
theorem DSl.start {H B : Nat} {v : Value} {L : List UInt8} {p : Nat} {W0 W : World} (x : Sl) (h1 : RdAt B v L p W) (h2 : Room H 0 7 W) (hB : B < H) (hH : H < W.heap.size) (h0 : W0.heap.size ≤ H) (hg : W0.grownBy W (some B)) (cs : Array Value) (t : TypeId) (hc : cs.size = 7) :
    DSl H W.heap.size B v L p x W0 ((W.alloc (.cells cs t)).setCells W.heap.size 0 [.int .u64 ((x).m.toNat : Int), .int .u64 ((x).q.toNat : Int), .int .u64 ((x).z.toNat : Int), .int .u64 ((x).r.a.toNat : Int), .int .u64 ((x).r.b.toNat : Int), .int .u64 ((x).r.c.toNat : Int), .int .u64 ((x).r.d.toNat : Int)]) := by
  have g := World.grownBy_alloc W (.cells cs t) none
  have hr := Room.new W cs t 7 hc
  have gs := sc_grown (W.alloc (.cells cs t)) W.heap.size 0 [.int .u64 ((x).m.toNat : Int), .int .u64 ((x).q.toNat : Int), .int .u64 ((x).z.toNat : Int), .int .u64 ((x).r.a.toNat : Int), .int .u64 ((x).r.b.toNat : Int), .int .u64 ((x).r.c.toNat : Int), .int .u64 ((x).r.d.toNat : Int)]
  have hz : (W.alloc (.cells cs t)).heap.size = W.heap.size + 1 := World.size_alloc _ _
  refine ⟨(h1.grown g).apart gs (by omega), (h2.grown g hH (fun e => by cases e)).grown gs (by omega) (fun e => by injection e with e; omega), Lies.sc rfl hr, hr.scs _ _ 0 _, hB, hH, by rw [sc_size]; omega, h0, ?_⟩
  exact grown_newS (hg.andThen g (fun k e => by cases e)) gs (by have := hg.size; omega)
theorem DSl.fresh {H B : Nat} {v : Value} {L : List UInt8} {p : Nat} {W0 W : World} (x : Sl) (h1 : RdAt B v L p W) (h2 : Room H 0 7 W) (hB : B < H) (hH : H < W.heap.size) (h0 : W0.heap.size ≤ H) (hg : W0.grownBy W (some B)) (t : TypeId) :
    DSl H W.heap.size B v L p x W0 (W.alloc (.cells #[.int .u64 ((x).m.toNat : Int), .int .u64 ((x).q.toNat : Int), .int .u64 ((x).z.toNat : Int), .int .u64 ((x).r.a.toNat : Int), .int .u64 ((x).r.b.toNat : Int), .int .u64 ((x).r.c.toNat : Int), .int .u64 ((x).r.d.toNat : Int)] t)) := by
  have g := World.grownBy_alloc W (.cells #[.int .u64 ((x).m.toNat : Int), .int .u64 ((x).q.toNat : Int), .int .u64 ((x).z.toNat : Int), .int .u64 ((x).r.a.toNat : Int), .int .u64 ((x).r.b.toNat : Int), .int .u64 ((x).r.c.toNat : Int), .int .u64 ((x).r.d.toNat : Int)] t) none
  have hr := Room.new W #[.int .u64 ((x).m.toNat : Int), .int .u64 ((x).q.toNat : Int), .int .u64 ((x).z.toNat : Int), .int .u64 ((x).r.a.toNat : Int), .int .u64 ((x).r.b.toNat : Int), .int .u64 ((x).r.c.toNat : Int), .int .u64 ((x).r.d.toNat : Int)] t 7 rfl
  have hz : (W.alloc (.cells #[.int .u64 ((x).m.toNat : Int), .int .u64 ((x).q.toNat : Int), .int .u64 ((x).z.toNat : Int), .int .u64 ((x).r.a.toNat : Int), .int .u64 ((x).r.b.toNat : Int), .int .u64 ((x).r.c.toNat : Int), .int .u64 ((x).r.d.toNat : Int)] t)).heap.size = W.heap.size + 1 := World.size_alloc _ _
  exact ⟨h1.grown g, h2.grown g hH (fun e => by cases e), Lies.new W [.int .u64 ((x).m.toNat : Int), .int .u64 ((x).q.toNat : Int), .int .u64 ((x).z.toNat : Int), .int .u64 ((x).r.a.toNat : Int), .int .u64 ((x).r.b.toNat : Int), .int .u64 ((x).r.c.toNat : Int), .int .u64 ((x).r.d.toNat : Int)] t, hr, hB, hH, by omega, h0, hg.andThen g (fun k e => by cases e)⟩
theorem DSl.after {H X B : Nat} {v : Value} {L : List UInt8} {p : Nat} {x : Sl} {W0 W W' : World} (h : DSl H X B v L p x W0 W) (hb : Below W.heap.size W W') : DSl H X B v L p x W0 W' :=
  h.same hb ⟨hb.os, hb.tape, hb.output, hb.size, fun k hk _ => hb.block k hk⟩
theorem DSl.done {H X B : Nat} {v : Value} {L : List UInt8} {p : Nat} {x : Sl} {W0 W : World} (h : DSl H X B v L p x W0 W) :
    Lies H 0 [.int .u64 ((x).m.toNat : Int), .int .u64 ((x).q.toNat : Int), .int .u64 ((x).z.toNat : Int), .int .u64 ((x).r.a.toNat : Int), .int .u64 ((x).r.b.toNat : Int), .int .u64 ((x).r.c.toNat : Int), .int .u64 ((x).r.d.toNat : Int)] (W.setCells H 0 [.int .u64 ((x).m.toNat : Int), .int .u64 ((x).q.toNat : Int), .int .u64 ((x).z.toNat : Int), .int .u64 ((x).r.a.toNat : Int), .int .u64 ((x).r.b.toNat : Int), .int .u64 ((x).r.c.toNat : Int), .int .u64 ((x).r.d.toNat : Int)]) ∧ RdAt B v L p (W.setCells H 0 [.int .u64 ((x).m.toNat : Int), .int .u64 ((x).q.toNat : Int), .int .u64 ((x).z.toNat : Int), .int .u64 ((x).r.a.toNat : Int), .int .u64 ((x).r.b.toNat : Int), .int .u64 ((x).r.c.toNat : Int), .int .u64 ((x).r.d.toNat : Int)]) ∧ W0.grownBy (W.setCells H 0 [.int .u64 ((x).m.toNat : Int), .int .u64 ((x).q.toNat : Int), .int .u64 ((x).z.toNat : Int), .int .u64 ((x).r.a.toNat : Int), .int .u64 ((x).r.b.toNat : Int), .int .u64 ((x).r.c.toNat : Int), .int .u64 ((x).r.d.toNat : Int)]) (some B) := by
  obtain ⟨h1, h2, h3, h4, h5, h6, h7, h8, h9⟩ := h
  exact ⟨Lies.sc rfl h2, h1.apart (sc_grown W H 0 _) h5, grown_newS h9 (sc_grown W H 0 _) h8⟩
theorem DSl.get {H X B : Nat} {v : Value} {L : List UInt8} {p : Nat} {x : Sl} {W0 W : World} (h : DSl H X B v L p x W0 W) (j : Nat) (u : Value) (hu : [.int .u64 ((x).m.toNat : Int), .int .u64 ((x).q.toNat : Int), .int .u64 ((x).z.toNat : Int), .int .u64 ((x).r.a.toNat : Int), .int .u64 ((x).r.b.toNat : Int), .int .u64 ((x).r.c.toNat : Int), .int .u64 ((x).r.d.toNat : Int)][j]? = some u) : W.cell? ⟨X, j, none⟩ = some u ∧ W.frozen? ⟨X, j, none⟩ = false := by
  have hj : j < 7 := (List.getElem?_eq_some_iff.1 hu).1
  have h1 := h.2.2.1 j u hu
  have h2 := h.2.2.2.1.2 j hj
  rw [Nat.zero_add] at h1 h2
  exact ⟨h1, h2⟩
end Go.Proofs.Ytepgmdgcappfpaa
