/-
  A disk drawn.
-/
import Derived.Test.YtepgmdgcappfpaaDSlot2
import Derived.Test.YtepgmdgcappfpaaCuts
import Derived.Test.YtepgmdgcappfpaaJoinB47
namespace Go.Proofs.Ytepgmdgcappfpaa
open Go.RowKit Go.MuLone

/-- What stands while a disk is drawn: the reader B, the answer's box H, the disk's box X. -/
def DDk (H X B : Nat) (v : Value) (L : List UInt8) (p : Nat) (d : Sl × Sl) (W0 W : World) : Prop :=
  RdAt B v L p W ∧ Room H 0 14 W ∧ Lies X 0 [.int .u64 ((d.1).m.toNat : Int), .int .u64 ((d.1).q.toNat : Int), .int .u64 ((d.1).z.toNat : Int), .int .u64 ((d.1).r.a.toNat : Int), .int .u64 ((d.1).r.b.toNat : Int), .int .u64 ((d.1).r.c.toNat : Int), .int .u64 ((d.1).r.d.toNat : Int), .int .u64 ((d.2).m.toNat : Int), .int .u64 ((d.2).q.toNat : Int), .int .u64 ((d.2).z.toNat : Int), .int .u64 ((d.2).r.a.toNat : Int), .int .u64 ((d.2).r.b.toNat : Int), .int .u64 ((d.2).r.c.toNat : Int), .int .u64 ((d.2).r.d.toNat : Int)] W ∧ Room X 0 14 W ∧ B < H ∧ H < X ∧ X < W.heap.size ∧ W0.heap.size ≤ H ∧ W0.grownBy W (some B)
theorem DDk.pick {H X B : Nat} {v : Value} {L : List UInt8} {p p' : Nat} {d : Sl × Sl} {W0 W W' : World} (h : DDk H X B v L p d W0 W) (hr : RdAt B v L p' W') (g : W.grownBy W' (some B)) : DDk H X B v L p' d W0 W' := by
  obtain ⟨h1, h2, h3, h4, h5, h6, h7, h8, h9⟩ := h
  exact ⟨hr, h2.grown g (by omega) (fun e => by injection e with e; omega), h3.grown g h7 (fun e => by injection e with e; omega), h4.grown g h7 (fun e => by injection e with e; omega), h5, h6, Nat.lt_of_lt_of_le h7 g.size, h8, h9.two g⟩
theorem DDk.after {H X B : Nat} {v : Value} {L : List UInt8} {p : Nat} {d : Sl × Sl} {W0 W W' : World} (h : DDk H X B v L p d W0 W) (hb : Below W.heap.size W W') : DDk H X B v L p d W0 W' := by
  obtain ⟨h1, h2, h3, h4, h5, h6, h7, h8, h9⟩ := h
  have g : W.grownBy W' none := ⟨hb.os, hb.tape, hb.output, hb.size, fun k hk _ => hb.block k hk⟩
  exact ⟨h1.grown g, h2.call hb (by omega), h3.call hb h7, h4.call hb h7, h5, h6, Nat.lt_of_lt_of_le h7 hb.size, h8, h9.andThen g (fun k e => by cases e)⟩
theorem DDk.drew {H X B : Nat} {v : Value} {L : List UInt8} {p : Nat} {d : Sl × Sl} {W0 W : World} (h : DDk H X B v L p d W0 W) : DDk H X B v L p d W0 W.drew := h.after ((Below.refl _ _).drew)
theorem DDk.put {H X B : Nat} {v : Value} {L : List UInt8} {p : Nat} {d : Sl × Sl} {W0 W : World} (h : DDk H X B v L p d W0 W) (e : Sl × Sl) : DDk H X B v L p e W0 (W.setCells X 0 [.int .u64 ((e.1).m.toNat : Int), .int .u64 ((e.1).q.toNat : Int), .int .u64 ((e.1).z.toNat : Int), .int .u64 ((e.1).r.a.toNat : Int), .int .u64 ((e.1).r.b.toNat : Int), .int .u64 ((e.1).r.c.toNat : Int), .int .u64 ((e.1).r.d.toNat : Int), .int .u64 ((e.2).m.toNat : Int), .int .u64 ((e.2).q.toNat : Int), .int .u64 ((e.2).z.toNat : Int), .int .u64 ((e.2).r.a.toNat : Int), .int .u64 ((e.2).r.b.toNat : Int), .int .u64 ((e.2).r.c.toNat : Int), .int .u64 ((e.2).r.d.toNat : Int)]) := by
  obtain ⟨h1, h2, h3, h4, h5, h6, h7, h8, h9⟩ := h
  have g := sc_grown W X 0 [.int .u64 ((e.1).m.toNat : Int), .int .u64 ((e.1).q.toNat : Int), .int .u64 ((e.1).z.toNat : Int), .int .u64 ((e.1).r.a.toNat : Int), .int .u64 ((e.1).r.b.toNat : Int), .int .u64 ((e.1).r.c.toNat : Int), .int .u64 ((e.1).r.d.toNat : Int), .int .u64 ((e.2).m.toNat : Int), .int .u64 ((e.2).q.toNat : Int), .int .u64 ((e.2).z.toNat : Int), .int .u64 ((e.2).r.a.toNat : Int), .int .u64 ((e.2).r.b.toNat : Int), .int .u64 ((e.2).r.c.toNat : Int), .int .u64 ((e.2).r.d.toNat : Int)]
  exact ⟨h1.apart g (by omega), h2.grown g (by omega) (fun e => by injection e with e; omega), Lies.sc rfl h4, h4.scs _ _ 0 _, h5, h6, by rw [sc_size]; exact h7, h8, grown_newS h9 g (by omega)⟩
theorem DDk.fresh {H B : Nat} {v : Value} {L : List UInt8} {p : Nat} {W0 W : World} (d : Sl × Sl) (h1 : RdAt B v L p W) (h2 : Room H 0 14 W) (hB : B < H) (hH : H < W.heap.size) (h0 : W0.heap.size ≤ H) (hg : W0.grownBy W (some B)) (t : TypeId) :
    DDk H W.heap.size B v L p d W0 (W.alloc (.cells #[.int .u64 ((d.1).m.toNat : Int), .int .u64 ((d.1).q.toNat : Int), .int .u64 ((d.1).z.toNat : Int), .int .u64 ((d.1).r.a.toNat : Int), .int .u64 ((d.1).r.b.toNat : Int), .int .u64 ((d.1).r.c.toNat : Int), .int .u64 ((d.1).r.d.toNat : Int), .int .u64 ((d.2).m.toNat : Int), .int .u64 ((d.2).q.toNat : Int), .int .u64 ((d.2).z.toNat : Int), .int .u64 ((d.2).r.a.toNat : Int), .int .u64 ((d.2).r.b.toNat : Int), .int .u64 ((d.2).r.c.toNat : Int), .int .u64 ((d.2).r.d.toNat : Int)] t)) := by
  have g := World.grownBy_alloc W (.cells #[.int .u64 ((d.1).m.toNat : Int), .int .u64 ((d.1).q.toNat : Int), .int .u64 ((d.1).z.toNat : Int), .int .u64 ((d.1).r.a.toNat : Int), .int .u64 ((d.1).r.b.toNat : Int), .int .u64 ((d.1).r.c.toNat : Int), .int .u64 ((d.1).r.d.toNat : Int), .int .u64 ((d.2).m.toNat : Int), .int .u64 ((d.2).q.toNat : Int), .int .u64 ((d.2).z.toNat : Int), .int .u64 ((d.2).r.a.toNat : Int), .int .u64 ((d.2).r.b.toNat : Int), .int .u64 ((d.2).r.c.toNat : Int), .int .u64 ((d.2).r.d.toNat : Int)] t) none
  have hr := Room.new W #[.int .u64 ((d.1).m.toNat : Int), .int .u64 ((d.1).q.toNat : Int), .int .u64 ((d.1).z.toNat : Int), .int .u64 ((d.1).r.a.toNat : Int), .int .u64 ((d.1).r.b.toNat : Int), .int .u64 ((d.1).r.c.toNat : Int), .int .u64 ((d.1).r.d.toNat : Int), .int .u64 ((d.2).m.toNat : Int), .int .u64 ((d.2).q.toNat : Int), .int .u64 ((d.2).z.toNat : Int), .int .u64 ((d.2).r.a.toNat : Int), .int .u64 ((d.2).r.b.toNat : Int), .int .u64 ((d.2).r.c.toNat : Int), .int .u64 ((d.2).r.d.toNat : Int)] t 14 rfl
  have hz : (W.alloc (.cells #[.int .u64 ((d.1).m.toNat : Int), .int .u64 ((d.1).q.toNat : Int), .int .u64 ((d.1).z.toNat : Int), .int .u64 ((d.1).r.a.toNat : Int), .int .u64 ((d.1).r.b.toNat : Int), .int .u64 ((d.1).r.c.toNat : Int), .int .u64 ((d.1).r.d.toNat : Int), .int .u64 ((d.2).m.toNat : Int), .int .u64 ((d.2).q.toNat : Int), .int .u64 ((d.2).z.toNat : Int), .int .u64 ((d.2).r.a.toNat : Int), .int .u64 ((d.2).r.b.toNat : Int), .int .u64 ((d.2).r.c.toNat : Int), .int .u64 ((d.2).r.d.toNat : Int)] t)).heap.size = W.heap.size + 1 := World.size_alloc _ _
  exact ⟨h1.grown g, h2.grown g hH (fun e => by cases e), Lies.new W [.int .u64 ((d.1).m.toNat : Int), .int .u64 ((d.1).q.toNat : Int), .int .u64 ((d.1).z.toNat : Int), .int .u64 ((d.1).r.a.toNat : Int), .int .u64 ((d.1).r.b.toNat : Int), .int .u64 ((d.1).r.c.toNat : Int), .int .u64 ((d.1).r.d.toNat : Int), .int .u64 ((d.2).m.toNat : Int), .int .u64 ((d.2).q.toNat : Int), .int .u64 ((d.2).z.toNat : Int), .int .u64 ((d.2).r.a.toNat : Int), .int .u64 ((d.2).r.b.toNat : Int), .int .u64 ((d.2).r.c.toNat : Int), .int .u64 ((d.2).r.d.toNat : Int)] t, hr, hB, hH, by omega, h0, hg.andThen g (fun k e => by cases e)⟩
theorem DDk.done {H X B : Nat} {v : Value} {L : List UInt8} {p : Nat} {d : Sl × Sl} {W0 W : World} (h : DDk H X B v L p d W0 W) :
    Lies H 0 [.int .u64 ((d.1).m.toNat : Int), .int .u64 ((d.1).q.toNat : Int), .int .u64 ((d.1).z.toNat : Int), .int .u64 ((d.1).r.a.toNat : Int), .int .u64 ((d.1).r.b.toNat : Int), .int .u64 ((d.1).r.c.toNat : Int), .int .u64 ((d.1).r.d.toNat : Int), .int .u64 ((d.2).m.toNat : Int), .int .u64 ((d.2).q.toNat : Int), .int .u64 ((d.2).z.toNat : Int), .int .u64 ((d.2).r.a.toNat : Int), .int .u64 ((d.2).r.b.toNat : Int), .int .u64 ((d.2).r.c.toNat : Int), .int .u64 ((d.2).r.d.toNat : Int)] (W.setCells H 0 [.int .u64 ((d.1).m.toNat : Int), .int .u64 ((d.1).q.toNat : Int), .int .u64 ((d.1).z.toNat : Int), .int .u64 ((d.1).r.a.toNat : Int), .int .u64 ((d.1).r.b.toNat : Int), .int .u64 ((d.1).r.c.toNat : Int), .int .u64 ((d.1).r.d.toNat : Int), .int .u64 ((d.2).m.toNat : Int), .int .u64 ((d.2).q.toNat : Int), .int .u64 ((d.2).z.toNat : Int), .int .u64 ((d.2).r.a.toNat : Int), .int .u64 ((d.2).r.b.toNat : Int), .int .u64 ((d.2).r.c.toNat : Int), .int .u64 ((d.2).r.d.toNat : Int)]) ∧ RdAt B v L p (W.setCells H 0 [.int .u64 ((d.1).m.toNat : Int), .int .u64 ((d.1).q.toNat : Int), .int .u64 ((d.1).z.toNat : Int), .int .u64 ((d.1).r.a.toNat : Int), .int .u64 ((d.1).r.b.toNat : Int), .int .u64 ((d.1).r.c.toNat : Int), .int .u64 ((d.1).r.d.toNat : Int), .int .u64 ((d.2).m.toNat : Int), .int .u64 ((d.2).q.toNat : Int), .int .u64 ((d.2).z.toNat : Int), .int .u64 ((d.2).r.a.toNat : Int), .int .u64 ((d.2).r.b.toNat : Int), .int .u64 ((d.2).r.c.toNat : Int), .int .u64 ((d.2).r.d.toNat : Int)]) ∧ W0.grownBy (W.setCells H 0 [.int .u64 ((d.1).m.toNat : Int), .int .u64 ((d.1).q.toNat : Int), .int .u64 ((d.1).z.toNat : Int), .int .u64 ((d.1).r.a.toNat : Int), .int .u64 ((d.1).r.b.toNat : Int), .int .u64 ((d.1).r.c.toNat : Int), .int .u64 ((d.1).r.d.toNat : Int), .int .u64 ((d.2).m.toNat : Int), .int .u64 ((d.2).q.toNat : Int), .int .u64 ((d.2).z.toNat : Int), .int .u64 ((d.2).r.a.toNat : Int), .int .u64 ((d.2).r.b.toNat : Int), .int .u64 ((d.2).r.c.toNat : Int), .int .u64 ((d.2).r.d.toNat : Int)]) (some B) := by
  obtain ⟨h1, h2, h3, h4, h5, h6, h7, h8, h9⟩ := h
  exact ⟨Lies.sc rfl h2, h1.apart (sc_grown W H 0 _) h5, grown_newS h9 (sc_grown W H 0 _) h8⟩
theorem belG {W W' : World} {r : Option Nat} (hb : Below W.heap.size W W') : W.grownBy W' r := ⟨hb.os, hb.tape, hb.output, hb.size, fun k hk _ => hb.block k hk⟩
theorem owr_far {W W' : World} {b B : Nat} {v : Value} {L : List Rw} (h : W.ownsRow b 56 3 v L.length (rcs L)) (g : W.grownBy W' (some B)) (hB : B < b) : W'.ownsRow b 56 3 v L.length (rcs L) :=
  h.kept g (.inr (fun e => by have := (h.lt _ e).1; omega))
set_option maxRecDepth 20000 in
set_option maxHeartbeats 8000000 in
theorem disk7_is (B : Nat) (v : Value) (L : List UInt8) (p : Nat) (W : World) (h : RdAt B v L p W) (hp : p ≤ 600000) :
    Calls Try.prog 17 #[.pointer (some ⟨B, 0, none⟩)] W fun e w' => ∃ (d : Sl × Sl) (p' : Nat), p' ≤ p + 300 ∧ e = .returned (.agg #[.int .u64 ((d.1).m.toNat : Int), .int .u64 ((d.1).q.toNat : Int), .int .u64 ((d.1).z.toNat : Int), .int .u64 ((d.1).r.a.toNat : Int), .int .u64 ((d.1).r.b.toNat : Int), .int .u64 ((d.1).r.c.toNat : Int), .int .u64 ((d.1).r.d.toNat : Int), .int .u64 ((d.2).m.toNat : Int), .int .u64 ((d.2).q.toNat : Int), .int .u64 ((d.2).z.toNat : Int), .int .u64 ((d.2).r.a.toNat : Int), .int .u64 ((d.2).r.b.toNat : Int), .int .u64 ((d.2).r.c.toNat : Int), .int .u64 ((d.2).r.d.toNat : Int)]) ∧ RdAt B v L p' w' ∧ W.grownBy w' (some B) := by
  have cn := fun (V : World) (q : Nat) (h : RdAt B v L q V) (hq : q ≤ 900000) (n : Int) (h1 : 1 ≤ n) (h2 : n ≤ 1000) => pick_is B v L q V h (by omega) n h1 (by omega)
  have cd := fun (V : World) (q : Nat) (h : RdAt B v L q V) (hq : q ≤ 800000) => digest_is B v L q V h hq
  have cs := fun (V : World) (q : Nat) (h : RdAt B v L q V) (hq : q ≤ 700000) => slot7_is B v L q V h hq
  have hBW := h.1
  have hwn : ∀ r : Nat, (r : Int) < 20 → IntKind.i64.wrap (1 + (r : Int)) = 1 + (r : Int) := fun r hr => IntWalk.i64_in _ (by omega)
  have h0 : RdAt B v L p (W.alloc (.cells #[.int .u64 0, .int .u64 0, .int .u64 0, .int .u64 0, .int .u64 0, .int .u64 0, .int .u64 0, .int .u64 0, .int .u64 0, .int .u64 0, .int .u64 0, .int .u64 0, .int .u64 0, .int .u64 0] 29)) := h.grown (World.grownBy_alloc W _ none)
  have l0 := Room.new W #[.int .u64 0, .int .u64 0, .int .u64 0, .int .u64 0, .int .u64 0, .int .u64 0, .int .u64 0, .int .u64 0, .int .u64 0, .int .u64 0, .int .u64 0, .int .u64 0, .int .u64 0, .int .u64 0] 29 14 rfl
  have g0 := World.grownBy_alloc W (.cells #[.int .u64 0, .int .u64 0, .int .u64 0, .int .u64 0, .int .u64 0, .int .u64 0, .int .u64 0, .int .u64 0, .int .u64 0, .int .u64 0, .int .u64 0, .int .u64 0, .int .u64 0, .int .u64 0] 29) (some B)
  have z0 : (W.alloc (.cells #[.int .u64 0, .int .u64 0, .int .u64 0, .int .u64 0, .int .u64 0, .int .u64 0, .int .u64 0, .int .u64 0, .int .u64 0, .int .u64 0, .int .u64 0, .int .u64 0, .int .u64 0, .int .u64 0] 29)).heap.size = W.heap.size + 1 := World.size_alloc _ _
  clear h
  go_enter Try.func17, Try.ntmps17
  go_upto_region 1 with fail
  generalize W.alloc (.cells #[.int .u64 0, .int .u64 0, .int .u64 0, .int .u64 0, .int .u64 0, .int .u64 0, .int .u64 0, .int .u64 0, .int .u64 0, .int .u64 0, .int .u64 0, .int .u64 0, .int .u64 0, .int .u64 0] 29) = V at h0 l0 g0 z0 ⊢
  have hHV : W.heap.size < V.heap.size := by omega
  obtain ⟨H, hH⟩ : ∃ H, H = W.heap.size := ⟨_, rfl⟩
  have hH0 : W.heap.size ≤ H := by omega
  have hBH : B < H := by omega
  rw [← hH] at l0 hHV ⊢
  clear z0 hH
  go_upto_if 9 with (go_at_call 30; refine (cn _ _ h0 (by omega) 3 (by omega) (by omega)).mono ?_; rintro e w1 ⟨r1, hr1, rfl, R1, g1⟩; have l1 := l0.grown g1 hHV (fun e => by injection e with e; omega); have G1 := g0.two g1; have hH1 := Nat.lt_of_lt_of_le hHV g1.size)
  clear h0 l0 g0 g1 hHV
  by_cases hr0 : r1 = 0
  · subst hr0
    go_upto_region 3 with (go_at_call 25; refine (cs _ _ R1 (by omega)).mono ?_; rintro e w2 ⟨s, p2, hp2, rfl, R2, g2⟩; have l2 := l1.grown g2 hH1 (fun e => by injection e with e; omega); have G2 := G1.two g2; have hH2 := Nat.lt_of_lt_of_le hH1 g2.size)
    have R3 : RdAt B v L p2 (w2.alloc (.cells #[.int .u64 ((s).m.toNat : Int), .int .u64 ((s).q.toNat : Int), .int .u64 ((s).z.toNat : Int), .int .u64 ((s).r.a.toNat : Int), .int .u64 ((s).r.b.toNat : Int), .int .u64 ((s).r.c.toNat : Int), .int .u64 ((s).r.d.toNat : Int)] 27)) := R2.grown (World.grownBy_alloc w2 _ none)
    have l3 := l2.grown (World.grownBy_alloc w2 (.cells #[.int .u64 ((s).m.toNat : Int), .int .u64 ((s).q.toNat : Int), .int .u64 ((s).z.toNat : Int), .int .u64 ((s).r.a.toNat : Int), .int .u64 ((s).r.b.toNat : Int), .int .u64 ((s).r.c.toNat : Int), .int .u64 ((s).r.d.toNat : Int)] 27) none) hH2 (fun e => by cases e)
    have A3 := Lies.new w2 [.int .u64 ((s).m.toNat : Int), .int .u64 ((s).q.toNat : Int), .int .u64 ((s).z.toNat : Int), .int .u64 ((s).r.a.toNat : Int), .int .u64 ((s).r.b.toNat : Int), .int .u64 ((s).r.c.toNat : Int), .int .u64 ((s).r.d.toNat : Int)] 27
    have G3 := G2.andThen (World.grownBy_alloc w2 (.cells #[.int .u64 ((s).m.toNat : Int), .int .u64 ((s).q.toNat : Int), .int .u64 ((s).z.toNat : Int), .int .u64 ((s).r.a.toNat : Int), .int .u64 ((s).r.b.toNat : Int), .int .u64 ((s).r.c.toNat : Int), .int .u64 ((s).r.d.toNat : Int)] 27) none) (fun k e => by cases e)
    have hz3 : (w2.alloc (.cells #[.int .u64 ((s).m.toNat : Int), .int .u64 ((s).q.toNat : Int), .int .u64 ((s).z.toNat : Int), .int .u64 ((s).r.a.toNat : Int), .int .u64 ((s).r.b.toNat : Int), .int .u64 ((s).r.c.toNat : Int), .int .u64 ((s).r.d.toNat : Int)] 27)).heap.size = w2.heap.size + 1 := World.size_alloc _ _
    obtain ⟨X, hX⟩ : ∃ X, X = w2.heap.size := ⟨_, rfl⟩
    rw [← hX] at A3 hz3 hH2 ⊢
    have A3 : Lies X 0 [.int .u64 ((s).m.toNat : Int), .int .u64 ((s).q.toNat : Int), .int .u64 ((s).z.toNat : Int), .int .u64 ((s).r.a.toNat : Int), .int .u64 ((s).r.b.toNat : Int), .int .u64 ((s).r.c.toNat : Int), .int .u64 ((s).r.d.toNat : Int)] (w2.alloc (.cells #[.int .u64 ((s).m.toNat : Int), .int .u64 ((s).q.toNat : Int), .int .u64 ((s).z.toNat : Int), .int .u64 ((s).r.a.toNat : Int), .int .u64 ((s).r.b.toNat : Int), .int .u64 ((s).r.c.toNat : Int), .int .u64 ((s).r.d.toNat : Int)] 27)) := A3
    generalize w2.alloc (.cells #[.int .u64 ((s).m.toNat : Int), .int .u64 ((s).q.toNat : Int), .int .u64 ((s).z.toNat : Int), .int .u64 ((s).r.a.toNat : Int), .int .u64 ((s).r.b.toNat : Int), .int .u64 ((s).r.c.toNat : Int), .int .u64 ((s).r.d.toNat : Int)] 27) = w3 at R3 l3 A3 G3 hz3 ⊢
    have hX3 : X < w3.heap.size := by omega
    have hBX : B < X := by omega
    have hHX : H < X := hH2
    clear hX hz3 R2 l2 G2 g2 hH2 R1 l1 G1 hH1
    have bd := (Below.refl w3.heap.size w3).drew
    have R4 : RdAt B v L p2 w3.drew := R3.grown (belG bd)
    have l4 := l3.call bd (by omega)
    have A4 := A3.call bd hX3
    have G4 := G3.two (belG bd)
    clear R3 l3 A3 G3
    refine wp_region_held_drew (S := fun w' => Lies X 0 [.int .u64 ((s).m.toNat : Int), .int .u64 ((s).q.toNat : Int), .int .u64 ((s).z.toNat : Int), .int .u64 ((s).r.a.toNat : Int), .int .u64 ((s).r.b.toNat : Int), .int .u64 ((s).r.c.toNat : Int), .int .u64 ((s).r.d.toNat : Int)] w') (by kernel_rfl) A4 (fun hHeld => ?_)
    refine wpAnyH_take (i := 0) (oi := { dst := some 12, op := Op.load 27 (Operand.tmp 3), type := 27, pos := "l7_record.go:158", after := #[], guard := none }) (v := .agg #[.int .u64 ((s).m.toNat : Int), .int .u64 ((s).q.toNat : Int), .int .u64 ((s).z.toNat : Int), .int .u64 ((s).r.a.toNat : Int), .int .u64 ((s).r.b.toNat : Int), .int .u64 ((s).r.c.toNat : Int), .int .u64 ((s).r.d.toNat : Int)]) rfl (by kernel_rfl) (by kernel_rfl) (by kernel_rfl) (fun _ _ _ h => h) (Or.inl ⟨by rfl, ?_⟩) (by assumption) ?_
    · (intro wq hq; exact run_load_op agg_slot X 0 [.int .u64 ((s).m.toNat : Int), .int .u64 ((s).q.toNat : Int), .int .u64 ((s).z.toNat : Int), .int .u64 ((s).r.a.toNat : Int), .int .u64 ((s).r.b.toNat : Int), .int .u64 ((s).r.c.toNat : Int), .int .u64 ((s).r.d.toNat : Int)] (by kernel_rfl) (by kernel_rfl) hq)
    try simp only [Act.put, List.setIfInBounds_toArray, List.set_cons_zero, List.set_cons_succ]
    refine wpAnyH_take (i := 1) (oi := { dst := some 13, op := Op.move (Operand.tmp 0), type := 43, pos := "l7_record.go:158", after := #[], guard := none }) (v := .pointer (some ⟨B, 0, none⟩)) rfl (by kernel_rfl) (by kernel_rfl) (by kernel_rfl) (fun _ _ _ h => h) (Or.inl ⟨by rfl, ?_⟩) (by assumption) ?_
    · (intro wq hq; go_simp)
    try simp only [Act.put, List.setIfInBounds_toArray, List.set_cons_zero, List.set_cons_succ]
    refine wpAnyH_ready (rs := [2]) (by kernel_rfl) (by simp) ?_
    refine AllReadyH.cons (o := { dst := some 14, op := Op.call { callee := Callee.value (Operand.func 25), args := #[Operand.tmp 13], argTypes := #[43] }, type := 27, pos := "l7_record.go:158", after := #[{ on := 1, ground := Ground.data }], guard := none }) rfl (fun K hK => ?_) AllReadyH.nil
    go_simp
    go_at_call 25
    refine (cs _ _ R4 (by omega)).mono ?_
    rintro e w5 ⟨t, p5, hp5, rfl, R5, g5⟩
    have hX5 : X < w3.drew.heap.size := hX3
    have l5 := l4.grown g5 (by omega) (fun e => by injection e with e; omega)
    have A5 := A4.grown g5 hX5 (fun e => by injection e with e; omega)
    have G5 := G4.two g5
    have hX6 := Nat.lt_of_lt_of_le hX5 g5.size
    clear R4 l4 A4 G4
    go_simp
    refine hK.out _ _ A5 (fun hHeld => ?_)
    clear hK K
    refine wpAnyH_take (i := 3) (oi := { dst := some 15, op := Op.build 29 #[(0, Operand.tmp 12), (1, Operand.tmp 14)], type := 29, pos := "l7_record.go:158", after := #[{ on := 0, ground := Ground.data }, { on := 2, ground := Ground.data }], guard := none }) (v := .agg #[.int .u64 ((s).m.toNat : Int), .int .u64 ((s).q.toNat : Int), .int .u64 ((s).z.toNat : Int), .int .u64 ((s).r.a.toNat : Int), .int .u64 ((s).r.b.toNat : Int), .int .u64 ((s).r.c.toNat : Int), .int .u64 ((s).r.d.toNat : Int), .int .u64 ((t).m.toNat : Int), .int .u64 ((t).q.toNat : Int), .int .u64 ((t).z.toNat : Int), .int .u64 ((t).r.a.toNat : Int), .int .u64 ((t).r.b.toNat : Int), .int .u64 ((t).r.c.toNat : Int), .int .u64 ((t).r.d.toNat : Int)]) rfl (by kernel_rfl) (by kernel_rfl) (by kernel_rfl) (fun _ _ _ h => h) (Or.inl ⟨by rfl, ?_⟩) (by assumption) ?_
    · (intro wq hq; go_simp)
    try simp only [Act.put, List.setIfInBounds_toArray, List.set_cons_zero, List.set_cons_succ]
    refine wpAnyH_ready (rs := [4]) (by kernel_rfl) (by simp) ?_
    refine AllReadyH.cons (o := { dst := none, op := Op.store 29 (Operand.tmp 2) (Operand.tmp 15), type := 0, pos := "l7_record.go:158", after := #[{ on := 3, ground := Ground.data }, { on := 2, ground := Ground.chain }, { on := 0, ground := Ground.phase }, { on := 1, ground := Ground.phase }, { on := 2, ground := Ground.phase }, { on := 3, ground := Ground.phase }], guard := none }) rfl (fun K hK => ?_) AllReadyH.nil
    rw [if_pos (by rfl)]
    refine wpo_store agg_disk H 0 [.int .u64 ((s).m.toNat : Int), .int .u64 ((s).q.toNat : Int), .int .u64 ((s).z.toNat : Int), .int .u64 ((s).r.a.toNat : Int), .int .u64 ((s).r.b.toNat : Int), .int .u64 ((s).r.c.toNat : Int), .int .u64 ((s).r.d.toNat : Int), .int .u64 ((t).m.toNat : Int), .int .u64 ((t).q.toNat : Int), .int .u64 ((t).z.toNat : Int), .int .u64 ((t).r.a.toNat : Int), .int .u64 ((t).r.b.toNat : Int), .int .u64 ((t).r.c.toNat : Int), .int .u64 ((t).r.d.toNat : Int)] (by kernel_rfl) (by kernel_rfl) (by kernel_rfl) (by kernel_rfl) l5 ?_
    refine hK.out _ _ (A5.grown (sc_grown w5 H 0 [.int .u64 ((s).m.toNat : Int), .int .u64 ((s).q.toNat : Int), .int .u64 ((s).z.toNat : Int), .int .u64 ((s).r.a.toNat : Int), .int .u64 ((s).r.b.toNat : Int), .int .u64 ((s).r.c.toNat : Int), .int .u64 ((s).r.d.toNat : Int), .int .u64 ((t).m.toNat : Int), .int .u64 ((t).q.toNat : Int), .int .u64 ((t).z.toNat : Int), .int .u64 ((t).r.a.toNat : Int), .int .u64 ((t).r.b.toNat : Int), .int .u64 ((t).r.c.toNat : Int), .int .u64 ((t).r.d.toNat : Int)]) hX6 (fun e => by injection e with e; omega)) (fun hHeld => ?_)
    clear hK K
    have HL : Lies H 0 [.int .u64 ((s).m.toNat : Int), .int .u64 ((s).q.toNat : Int), .int .u64 ((s).z.toNat : Int), .int .u64 ((s).r.a.toNat : Int), .int .u64 ((s).r.b.toNat : Int), .int .u64 ((s).r.c.toNat : Int), .int .u64 ((s).r.d.toNat : Int), .int .u64 ((t).m.toNat : Int), .int .u64 ((t).q.toNat : Int), .int .u64 ((t).z.toNat : Int), .int .u64 ((t).r.a.toNat : Int), .int .u64 ((t).r.b.toNat : Int), .int .u64 ((t).r.c.toNat : Int), .int .u64 ((t).r.d.toNat : Int)] (w5.setCells H 0 [.int .u64 ((s).m.toNat : Int), .int .u64 ((s).q.toNat : Int), .int .u64 ((s).z.toNat : Int), .int .u64 ((s).r.a.toNat : Int), .int .u64 ((s).r.b.toNat : Int), .int .u64 ((s).r.c.toNat : Int), .int .u64 ((s).r.d.toNat : Int), .int .u64 ((t).m.toNat : Int), .int .u64 ((t).q.toNat : Int), .int .u64 ((t).z.toNat : Int), .int .u64 ((t).r.a.toNat : Int), .int .u64 ((t).r.b.toNat : Int), .int .u64 ((t).r.c.toNat : Int), .int .u64 ((t).r.d.toNat : Int)]) := Lies.sc (by kernel_rfl) l5
    have HR := R5.apart (sc_grown w5 H 0 [.int .u64 ((s).m.toNat : Int), .int .u64 ((s).q.toNat : Int), .int .u64 ((s).z.toNat : Int), .int .u64 ((s).r.a.toNat : Int), .int .u64 ((s).r.b.toNat : Int), .int .u64 ((s).r.c.toNat : Int), .int .u64 ((s).r.d.toNat : Int), .int .u64 ((t).m.toNat : Int), .int .u64 ((t).q.toNat : Int), .int .u64 ((t).z.toNat : Int), .int .u64 ((t).r.a.toNat : Int), .int .u64 ((t).r.b.toNat : Int), .int .u64 ((t).r.c.toNat : Int), .int .u64 ((t).r.d.toNat : Int)]) hBH
    have HG := grown_newS G5 (sc_grown w5 H 0 [.int .u64 ((s).m.toNat : Int), .int .u64 ((s).q.toNat : Int), .int .u64 ((s).z.toNat : Int), .int .u64 ((s).r.a.toNat : Int), .int .u64 ((s).r.b.toNat : Int), .int .u64 ((s).r.c.toNat : Int), .int .u64 ((s).r.d.toNat : Int), .int .u64 ((t).m.toNat : Int), .int .u64 ((t).q.toNat : Int), .int .u64 ((t).z.toNat : Int), .int .u64 ((t).r.a.toNat : Int), .int .u64 ((t).r.b.toNat : Int), .int .u64 ((t).r.c.toNat : Int), .int .u64 ((t).r.d.toNat : Int)]) hH0
    clear hHeld
    generalize w5.setCells H 0 [.int .u64 ((s).m.toNat : Int), .int .u64 ((s).q.toNat : Int), .int .u64 ((s).z.toNat : Int), .int .u64 ((s).r.a.toNat : Int), .int .u64 ((s).r.b.toNat : Int), .int .u64 ((s).r.c.toNat : Int), .int .u64 ((s).r.d.toNat : Int), .int .u64 ((t).m.toNat : Int), .int .u64 ((t).q.toNat : Int), .int .u64 ((t).z.toNat : Int), .int .u64 ((t).r.a.toNat : Int), .int .u64 ((t).r.b.toNat : Int), .int .u64 ((t).r.c.toNat : Int), .int .u64 ((t).r.d.toNat : Int)] = wz at HL HR HG ⊢
    refine wpAnyH_done (by kernel_rfl) ?_ _
    go_wp2_with fail
    exact bodyPost_ret (v := .agg #[.int .u64 ((s).m.toNat : Int), .int .u64 ((s).q.toNat : Int), .int .u64 ((s).z.toNat : Int), .int .u64 ((s).r.a.toNat : Int), .int .u64 ((s).r.b.toNat : Int), .int .u64 ((s).r.c.toNat : Int), .int .u64 ((s).r.d.toNat : Int), .int .u64 ((t).m.toNat : Int), .int .u64 ((t).q.toNat : Int), .int .u64 ((t).z.toNat : Int), .int .u64 ((t).r.a.toNat : Int), .int .u64 ((t).r.b.toNat : Int), .int .u64 ((t).r.c.toNat : Int), .int .u64 ((t).r.d.toNat : Int)]) (res_cells agg_disk Try.results17 _ _ H 0 [.int .u64 ((s).m.toNat : Int), .int .u64 ((s).q.toNat : Int), .int .u64 ((s).z.toNat : Int), .int .u64 ((s).r.a.toNat : Int), .int .u64 ((s).r.b.toNat : Int), .int .u64 ((s).r.c.toNat : Int), .int .u64 ((s).r.d.toNat : Int), .int .u64 ((t).m.toNat : Int), .int .u64 ((t).q.toNat : Int), .int .u64 ((t).z.toNat : Int), .int .u64 ((t).r.a.toNat : Int), .int .u64 ((t).r.b.toNat : Int), .int .u64 ((t).r.c.toNat : Int), .int .u64 ((t).r.d.toNat : Int)] (by kernel_rfl) (by kernel_rfl) HL) rfl ⟨(s, t), p5, by omega, rfl, HR, HG⟩
  · have hr0' : ((r1 : Int) == 0) = false := by rw [beq_eq_false_iff_ne]; omega
    go_upto_region 5 with fail
    have hD := DDk.fresh (zro, zro) R1 l1 hBH hH1 hH0 G1 29
    generalize w1.heap.size = X at hD ⊢
    have hD : DDk H X B v L (p + 1) (zro, zro) W (w1.alloc (.cells #[.int .u64 0, .int .u64 0, .int .u64 0, .int .u64 0, .int .u64 0, .int .u64 0, .int .u64 0, .int .u64 0, .int .u64 0, .int .u64 0, .int .u64 0, .int .u64 0, .int .u64 0, .int .u64 0] 29)) := hD
    generalize w1.alloc (.cells #[.int .u64 0, .int .u64 0, .int .u64 0, .int .u64 0, .int .u64 0, .int .u64 0, .int .u64 0, .int .u64 0, .int .u64 0, .int .u64 0, .int .u64 0, .int .u64 0, .int .u64 0, .int .u64 0] 29) = w2 at hD ⊢
    clear R1 l1 G1 hH1 hr0' hr0 hr1
    go_upto_region 6 with (go_at_call 30; refine (cn _ _ hD.1 (by omega) 4 (by omega) (by omega)).mono ?_; rintro e w3 ⟨r3, hr3, rfl, R3, g3⟩; have hD3 := hD.pick R3 g3)
    go_loopw [5, 6] (fun i u wr => ∃ (j : Nat) (d : Sl × Sl) (q : Nat), i = .int .i64 (j : Int) ∧ j ≤ 4 ∧ q + 40 * j ≤ p + 170 ∧ Hid (DDk H X B v L q d W wr)) (fun i _ _ => (intOf i).toNat)
    case atStart => exact ⟨r3, (zro, zro), p + 1 + 1, rfl, by omega, by omega, hD3⟩
    case round =>
      obtain ⟨j, d, q, rfl, hj, hq, HW⟩ := hrel
      clear hD hD3 R3 g3
      by_cases hj0 : 0 < j
      · have hjI : (0 : Int) < (j : Int) := by omega
        have hwj : IntKind.i64.wrap ((j : Int) - 1) = ((j - 1 : Nat) : Int) := by rw [IntWalk.i64_in _ (by omega)]; omega
        go_upto_region 8 with fail
        have hD0 := HW.out.drew
        refine wp_region_held_drew (S := fun w' => Lies X 0 [.int .u64 ((d.1).m.toNat : Int), .int .u64 ((d.1).q.toNat : Int), .int .u64 ((d.1).z.toNat : Int), .int .u64 ((d.1).r.a.toNat : Int), .int .u64 ((d.1).r.b.toNat : Int), .int .u64 ((d.1).r.c.toNat : Int), .int .u64 ((d.1).r.d.toNat : Int), .int .u64 ((d.2).m.toNat : Int), .int .u64 ((d.2).q.toNat : Int), .int .u64 ((d.2).z.toNat : Int), .int .u64 ((d.2).r.a.toNat : Int), .int .u64 ((d.2).r.b.toNat : Int), .int .u64 ((d.2).r.c.toNat : Int), .int .u64 ((d.2).r.d.toNat : Int)] w') (by kernel_rfl) hD0.2.2.1 (fun hHeld => ?_)
        refine wpAnyH_take (i := 0) (oi := { dst := some 23, op := Op.load 29 (Operand.tmp 4), type := 29, pos := "l7_record.go:162", after := #[], guard := none }) (v := .agg #[.int .u64 ((d.1).m.toNat : Int), .int .u64 ((d.1).q.toNat : Int), .int .u64 ((d.1).z.toNat : Int), .int .u64 ((d.1).r.a.toNat : Int), .int .u64 ((d.1).r.b.toNat : Int), .int .u64 ((d.1).r.c.toNat : Int), .int .u64 ((d.1).r.d.toNat : Int), .int .u64 ((d.2).m.toNat : Int), .int .u64 ((d.2).q.toNat : Int), .int .u64 ((d.2).z.toNat : Int), .int .u64 ((d.2).r.a.toNat : Int), .int .u64 ((d.2).r.b.toNat : Int), .int .u64 ((d.2).r.c.toNat : Int), .int .u64 ((d.2).r.d.toNat : Int)]) rfl (by kernel_rfl) (by kernel_rfl) (by kernel_rfl) (fun _ _ _ h => h) (Or.inl ⟨by rfl, ?_⟩) (by assumption) ?_
        · (intro wq hq; exact run_load_op agg_disk X 0 [.int .u64 ((d.1).m.toNat : Int), .int .u64 ((d.1).q.toNat : Int), .int .u64 ((d.1).z.toNat : Int), .int .u64 ((d.1).r.a.toNat : Int), .int .u64 ((d.1).r.b.toNat : Int), .int .u64 ((d.1).r.c.toNat : Int), .int .u64 ((d.1).r.d.toNat : Int), .int .u64 ((d.2).m.toNat : Int), .int .u64 ((d.2).q.toNat : Int), .int .u64 ((d.2).z.toNat : Int), .int .u64 ((d.2).r.a.toNat : Int), .int .u64 ((d.2).r.b.toNat : Int), .int .u64 ((d.2).r.c.toNat : Int), .int .u64 ((d.2).r.d.toNat : Int)] (by kernel_rfl) (by kernel_rfl) hq)
        try simp only [Act.put, List.setIfInBounds_toArray, List.set_cons_zero, List.set_cons_succ]
        refine wpAnyH_take (i := 1) (oi := { dst := some 24, op := Op.move (Operand.tmp 0), type := 43, pos := "l7_record.go:162", after := #[], guard := none }) (v := .pointer (some ⟨B, 0, none⟩)) rfl (by kernel_rfl) (by kernel_rfl) (by kernel_rfl) (fun _ _ _ h => h) (Or.inl ⟨by rfl, ?_⟩) (by assumption) ?_
        · (intro wq hq; go_simp)
        try simp only [Act.put, List.setIfInBounds_toArray, List.set_cons_zero, List.set_cons_succ]
        refine wpAnyH_take (i := 4) (oi := { dst := some 27, op := Op.move (Operand.tmp 0), type := 43, pos := "l7_record.go:162", after := #[], guard := none }) (v := .pointer (some ⟨B, 0, none⟩)) rfl (by kernel_rfl) (by kernel_rfl) (by kernel_rfl) (fun _ _ _ h => h) (Or.inl ⟨by rfl, ?_⟩) (by assumption) ?_
        · (intro wq hq; go_simp)
        try simp only [Act.put, List.setIfInBounds_toArray, List.set_cons_zero, List.set_cons_succ]
        refine wpAnyH_ready (rs := [2]) (by kernel_rfl) (by simp) ?_
        refine AllReadyH.cons (o := { dst := some 25, op := Op.call { callee := Callee.value (Operand.func 30), args := #[Operand.tmp 24, Operand.const (Value.int IntKind.i64 20)], argTypes := #[43, 3] }, type := 3, pos := "l7_record.go:162", after := #[{ on := 1, ground := Ground.data }], guard := none }) rfl (fun K hK => ?_) AllReadyH.nil
        go_simp
        go_at_call 30
        refine (cn _ _ hD0.1 (by omega) 20 (by omega) (by omega)).mono ?_
        rintro e w2 ⟨r2, hr2, rfl, R2, g2⟩
        have hD2 := hD0.pick R2 g2
        have hw2 := hwn r2 hr2
        clear hD0 R2 g2
        go_simp
        refine hK.out _ _ hD2.2.2.1 (fun hHeld => ?_)
        clear hK K
        refine wpAnyH_take (i := 3) (oi := { dst := some 26, op := Op.binOp BinOp.add 3 (Operand.const (Value.int IntKind.i64 1)) (Operand.tmp 25) 3, type := 3, pos := "l7_record.go:162", after := #[{ on := 2, ground := Ground.data }], guard := none }) (v := .int .i64 (1 + (r2 : Int))) rfl (by kernel_rfl) (by kernel_rfl) (by kernel_rfl) (fun _ _ _ h => h) (Or.inl ⟨by rfl, ?_⟩) (by assumption) ?_
        · (intro wq hq; go_simp)
        try simp only [Act.put, List.setIfInBounds_toArray, List.set_cons_zero, List.set_cons_succ]
        refine wpAnyH_ready (rs := [5]) (by kernel_rfl) (by simp) ?_
        refine AllReadyH.cons (o := { dst := some 28, op := Op.call { callee := Callee.value (Operand.func 32), args := #[Operand.tmp 27], argTypes := #[43] }, type := 25, pos := "l7_record.go:162", after := #[{ on := 4, ground := Ground.data }, { on := 2, ground := Ground.chain }], guard := none }) rfl (fun K hK => ?_) AllReadyH.nil
        go_simp
        go_at_call 32
        refine (cd _ _ hD2.1 (by omega)).mono ?_
        rintro e w3 ⟨q3, p3, hp3, rfl, R3, g3⟩
        have hD3 := hD2.pick R3 g3
        clear hD2 R3 g3
        go_simp
        refine hK.out _ _ hD3.2.2.1 (fun hHeld => ?_)
        clear hK K
        refine wpAnyH_ready (rs := [6]) (by kernel_rfl) (by simp) ?_
        refine AllReadyH.cons (o := { dst := some 29, op := Op.call { callee := Callee.value (Operand.func 31), args := #[Operand.tmp 23, Operand.tmp 26, Operand.tmp 28], argTypes := #[29, 3, 25] }, type := 31, pos := "l7_record.go:162", after := #[{ on := 0, ground := Ground.data }, { on := 3, ground := Ground.data }, { on := 5, ground := Ground.data }, { on := 5, ground := Ground.chain }], guard := none }) rfl (fun K hK => ?_) AllReadyH.nil
        go_simp
        go_at_call 31
        refine (rraws_spec d.1 d.2 (1 + (r2 : Int)) q3 _ (by omega) (by omega)).mono ?_
        rintro e w4 ⟨v4, rfl, ho4, hb4⟩
        have hD4 := hD3.after hb4
        have hl4 : (rraws d.1 d.2 (1 + (r2 : Int)) q3).length ≤ 1000 := kraws_le _ _
        generalize rraws d.1 d.2 (1 + (r2 : Int)) q3 = L4 at ho4 hl4
        have O4 := owr_rws ho4
        clear hD3 hb4 ho4
        go_simp
        refine hK.out _ _ hD4.2.2.1 (fun hHeld => ?_)
        clear hK K
        refine wpAnyH_take (i := 7) (oi := { dst := some 6, op := Op.assign (Operand.tmp 29), type := 31, pos := "l7_record.go:162", after := #[{ on := 6, ground := Ground.data }, { on := 6, ground := Ground.chain }, { on := 0, ground := Ground.phase }, { on := 1, ground := Ground.phase }, { on := 2, ground := Ground.phase }, { on := 3, ground := Ground.phase }, { on := 4, ground := Ground.phase }, { on := 5, ground := Ground.phase }, { on := 6, ground := Ground.phase }], guard := none }) (v := v4) rfl (by kernel_rfl) (by kernel_rfl) (by kernel_rfl) (fun _ _ _ h => h) (Or.inl ⟨by rfl, ?_⟩) (by assumption) ?_
        · (intro wq hq; go_simp)
        try simp only [Act.put, List.setIfInBounds_toArray, List.set_cons_zero, List.set_cons_succ]
        refine wpAnyH_done (by kernel_rfl) ?_ _
        clear hHeld
        have HL := hD4.2.2.1
        have HR := hD4.2.2.2.1
        go_wp2_with (first
          | (with_reducible refine wpl_load agg_disk X 0 [.int .u64 ((d.1).m.toNat : Int), .int .u64 ((d.1).q.toNat : Int), .int .u64 ((d.1).z.toNat : Int), .int .u64 ((d.1).r.a.toNat : Int), .int .u64 ((d.1).r.b.toNat : Int), .int .u64 ((d.1).r.c.toNat : Int), .int .u64 ((d.1).r.d.toNat : Int), .int .u64 ((d.2).m.toNat : Int), .int .u64 ((d.2).q.toNat : Int), .int .u64 ((d.2).z.toNat : Int), .int .u64 ((d.2).r.a.toNat : Int), .int .u64 ((d.2).r.b.toNat : Int), .int .u64 ((d.2).r.c.toNat : Int), .int .u64 ((d.2).r.d.toNat : Int)] (by kernel_rfl) (by kernel_rfl) HL ?_)
          | (with_reducible refine wpl_store agg_disk X 0 [.int .u64 ((d6.1).m.toNat : Int), .int .u64 ((d6.1).q.toNat : Int), .int .u64 ((d6.1).z.toNat : Int), .int .u64 ((d6.1).r.a.toNat : Int), .int .u64 ((d6.1).r.b.toNat : Int), .int .u64 ((d6.1).r.c.toNat : Int), .int .u64 ((d6.1).r.d.toNat : Int), .int .u64 ((d6.2).m.toNat : Int), .int .u64 ((d6.2).q.toNat : Int), .int .u64 ((d6.2).z.toNat : Int), .int .u64 ((d6.2).r.a.toNat : Int), .int .u64 ((d6.2).r.b.toNat : Int), .int .u64 ((d6.2).r.c.toNat : Int), .int .u64 ((d6.2).r.d.toNat : Int)] (by kernel_rfl) (by kernel_rfl) (by kernel_rfl) (by kernel_rfl) HR6 ?_; have hD7 := hD6.put d6; clear hD6 HL HR HR6; generalize w6.setCells X 0 [.int .u64 ((d6.1).m.toNat : Int), .int .u64 ((d6.1).q.toNat : Int), .int .u64 ((d6.1).z.toNat : Int), .int .u64 ((d6.1).r.a.toNat : Int), .int .u64 ((d6.1).r.b.toNat : Int), .int .u64 ((d6.1).r.c.toNat : Int), .int .u64 ((d6.1).r.d.toNat : Int), .int .u64 ((d6.2).m.toNat : Int), .int .u64 ((d6.2).q.toNat : Int), .int .u64 ((d6.2).z.toNat : Int), .int .u64 ((d6.2).r.a.toNat : Int), .int .u64 ((d6.2).r.b.toNat : Int), .int .u64 ((d6.2).r.c.toNat : Int), .int .u64 ((d6.2).r.d.toNat : Int)] = w7 at hD7 ⊢)
          | (go_at_call 33; refine (cut_spec _ d.1 d.2 v4 L4 8 O4).mono ?_; rintro e w6 ⟨rfl, hb6⟩; have hD6 := hD4.after hb6; generalize dws (d.1, d.2) (L4.take (ncut 8 L4.length)) = d6; have HR6 := hD6.2.2.2.1))
        go_roundw
        case measure => simp [intOf]; omega
        case rel => exact ⟨j - 1, _, _, (by first | rfl | go_num), by omega, by omega, hD7⟩
      · have hj1 : j = 0 := by omega
        subst hj1
        go_upto_if 35 with (go_at_call 30; refine (cn _ _ HW.out.1 (by omega) 3 (by omega) (by omega)).mono ?_; rintro e w4 ⟨r4, hr4, rfl, R4, g4⟩; have hD := HW.out.pick R4 g4; clear R4 g4)
        clear HW
        by_cases hr40 : r4 = 0
        · subst hr40
          go_upto_region 11 with fail
          have hD0 := hD.drew
          refine wp_region_X (S := fun w' => Lies X 0 [.int .u64 ((d.1).m.toNat : Int), .int .u64 ((d.1).q.toNat : Int), .int .u64 ((d.1).z.toNat : Int), .int .u64 ((d.1).r.a.toNat : Int), .int .u64 ((d.1).r.b.toNat : Int), .int .u64 ((d.1).r.c.toNat : Int), .int .u64 ((d.1).r.d.toNat : Int), .int .u64 ((d.2).m.toNat : Int), .int .u64 ((d.2).q.toNat : Int), .int .u64 ((d.2).z.toNat : Int), .int .u64 ((d.2).r.a.toNat : Int), .int .u64 ((d.2).r.b.toNat : Int), .int .u64 ((d.2).r.c.toNat : Int), .int .u64 ((d.2).r.d.toNat : Int)] w') 11 (by kernel_rfl) hD0.2.2.1 (fun hHeld => ?_)
          refine wpAnyX_take (i := 0) (oi := { dst := some 36, op := Op.load 29 (Operand.tmp 4), type := 29, pos := "l7_record.go:166", after := #[], guard := none }) (v := .agg #[.int .u64 ((d.1).m.toNat : Int), .int .u64 ((d.1).q.toNat : Int), .int .u64 ((d.1).z.toNat : Int), .int .u64 ((d.1).r.a.toNat : Int), .int .u64 ((d.1).r.b.toNat : Int), .int .u64 ((d.1).r.c.toNat : Int), .int .u64 ((d.1).r.d.toNat : Int), .int .u64 ((d.2).m.toNat : Int), .int .u64 ((d.2).q.toNat : Int), .int .u64 ((d.2).z.toNat : Int), .int .u64 ((d.2).r.a.toNat : Int), .int .u64 ((d.2).r.b.toNat : Int), .int .u64 ((d.2).r.c.toNat : Int), .int .u64 ((d.2).r.d.toNat : Int)]) rfl (by kernel_rfl) (by kernel_rfl) (by kernel_rfl) (by kernel_rfl) (fun _ _ _ h => h) (Or.inl ⟨by rfl, ?_⟩) (by assumption) ?_
          · (intro wq hq; exact run_load_op agg_disk X 0 [.int .u64 ((d.1).m.toNat : Int), .int .u64 ((d.1).q.toNat : Int), .int .u64 ((d.1).z.toNat : Int), .int .u64 ((d.1).r.a.toNat : Int), .int .u64 ((d.1).r.b.toNat : Int), .int .u64 ((d.1).r.c.toNat : Int), .int .u64 ((d.1).r.d.toNat : Int), .int .u64 ((d.2).m.toNat : Int), .int .u64 ((d.2).q.toNat : Int), .int .u64 ((d.2).z.toNat : Int), .int .u64 ((d.2).r.a.toNat : Int), .int .u64 ((d.2).r.b.toNat : Int), .int .u64 ((d.2).r.c.toNat : Int), .int .u64 ((d.2).r.d.toNat : Int)] (by kernel_rfl) (by kernel_rfl) hq)
          try simp only [Act.put, List.setIfInBounds_toArray, List.set_cons_zero, List.set_cons_succ]
          refine wpAnyX_take (i := 1) (oi := { dst := some 37, op := Op.load 29 (Operand.tmp 4), type := 29, pos := "l7_record.go:166", after := #[], guard := none }) (v := .agg #[.int .u64 ((d.1).m.toNat : Int), .int .u64 ((d.1).q.toNat : Int), .int .u64 ((d.1).z.toNat : Int), .int .u64 ((d.1).r.a.toNat : Int), .int .u64 ((d.1).r.b.toNat : Int), .int .u64 ((d.1).r.c.toNat : Int), .int .u64 ((d.1).r.d.toNat : Int), .int .u64 ((d.2).m.toNat : Int), .int .u64 ((d.2).q.toNat : Int), .int .u64 ((d.2).z.toNat : Int), .int .u64 ((d.2).r.a.toNat : Int), .int .u64 ((d.2).r.b.toNat : Int), .int .u64 ((d.2).r.c.toNat : Int), .int .u64 ((d.2).r.d.toNat : Int)]) rfl (by kernel_rfl) (by kernel_rfl) (by kernel_rfl) (by kernel_rfl) (fun _ _ _ h => h) (Or.inl ⟨by rfl, ?_⟩) (by assumption) ?_
          · (intro wq hq; exact run_load_op agg_disk X 0 [.int .u64 ((d.1).m.toNat : Int), .int .u64 ((d.1).q.toNat : Int), .int .u64 ((d.1).z.toNat : Int), .int .u64 ((d.1).r.a.toNat : Int), .int .u64 ((d.1).r.b.toNat : Int), .int .u64 ((d.1).r.c.toNat : Int), .int .u64 ((d.1).r.d.toNat : Int), .int .u64 ((d.2).m.toNat : Int), .int .u64 ((d.2).q.toNat : Int), .int .u64 ((d.2).z.toNat : Int), .int .u64 ((d.2).r.a.toNat : Int), .int .u64 ((d.2).r.b.toNat : Int), .int .u64 ((d.2).r.c.toNat : Int), .int .u64 ((d.2).r.d.toNat : Int)] (by kernel_rfl) (by kernel_rfl) hq)
          try simp only [Act.put, List.setIfInBounds_toArray, List.set_cons_zero, List.set_cons_succ]
          refine wpAnyX_take (i := 2) (oi := { dst := some 38, op := Op.move (Operand.tmp 0), type := 43, pos := "l7_record.go:166", after := #[], guard := none }) (v := .pointer (some ⟨B, 0, none⟩)) rfl (by kernel_rfl) (by kernel_rfl) (by kernel_rfl) (by kernel_rfl) (fun _ _ _ h => h) (Or.inl ⟨by rfl, ?_⟩) (by assumption) ?_
          · (intro wq hq; go_simp)
          try simp only [Act.put, List.setIfInBounds_toArray, List.set_cons_zero, List.set_cons_succ]
          refine wpAnyX_take (i := 5) (oi := { dst := some 41, op := Op.move (Operand.tmp 0), type := 43, pos := "l7_record.go:166", after := #[], guard := none }) (v := .pointer (some ⟨B, 0, none⟩)) rfl (by kernel_rfl) (by kernel_rfl) (by kernel_rfl) (by kernel_rfl) (fun _ _ _ h => h) (Or.inl ⟨by rfl, ?_⟩) (by assumption) ?_
          · (intro wq hq; go_simp)
          try simp only [Act.put, List.setIfInBounds_toArray, List.set_cons_zero, List.set_cons_succ]
          refine wpAnyX_take (i := 8) (oi := { dst := some 44, op := Op.move (Operand.tmp 0), type := 43, pos := "l7_record.go:166", after := #[], guard := none }) (v := .pointer (some ⟨B, 0, none⟩)) rfl (by kernel_rfl) (by kernel_rfl) (by kernel_rfl) (by kernel_rfl) (fun _ _ _ h => h) (Or.inl ⟨by rfl, ?_⟩) (by assumption) ?_
          · (intro wq hq; go_simp)
          try simp only [Act.put, List.setIfInBounds_toArray, List.set_cons_zero, List.set_cons_succ]
          refine wpAnyX_ready (i := 3) (o := { dst := some 39, op := Op.call { callee := Callee.value (Operand.func 30), args := #[Operand.tmp 38, Operand.const (Value.int IntKind.i64 20)], argTypes := #[43, 3] }, type := 3, pos := "l7_record.go:166", after := #[{ on := 2, ground := Ground.data }], guard := none }) (by kernel_rfl) rfl (fun K hK => ?_)
          go_simp
          go_at_call 30
          refine (cn _ _ hD0.1 (by omega) 20 (by omega) (by omega)).mono ?_
          rintro e w2 ⟨r2, hr2, rfl, R2, g2⟩
          have hD2 := hD0.pick R2 g2
          have hw2 := hwn r2 hr2
          clear hD0 R2 g2
          go_simp
          refine hK.out _ _ hD2.2.2.1 (fun hHeld => ?_)
          clear hK K
          refine wpAnyX_take (i := 4) (oi := { dst := some 40, op := Op.binOp BinOp.add 3 (Operand.const (Value.int IntKind.i64 1)) (Operand.tmp 39) 3, type := 3, pos := "l7_record.go:166", after := #[{ on := 3, ground := Ground.data }], guard := none }) (v := .int .i64 (1 + (r2 : Int))) rfl (by kernel_rfl) (by kernel_rfl) (by kernel_rfl) (by kernel_rfl) (fun _ _ _ h => h) (Or.inl ⟨by rfl, ?_⟩) (by assumption) ?_
          · (intro wq hq; go_simp)
          try simp only [Act.put, List.setIfInBounds_toArray, List.set_cons_zero, List.set_cons_succ]
          refine wpAnyX_ready (i := 6) (o := { dst := some 42, op := Op.call { callee := Callee.value (Operand.func 32), args := #[Operand.tmp 41], argTypes := #[43] }, type := 25, pos := "l7_record.go:166", after := #[{ on := 5, ground := Ground.data }, { on := 3, ground := Ground.chain }], guard := none }) (by kernel_rfl) rfl (fun K hK => ?_)
          go_simp
          go_at_call 32
          refine (cd _ _ hD2.1 (by omega)).mono ?_
          rintro e w3 ⟨q3, p3, hp3, rfl, R3, g3⟩
          have hD3 := hD2.pick R3 g3
          clear hD2 R3 g3
          go_simp
          refine hK.out _ _ hD3.2.2.1 (fun hHeld => ?_)
          clear hK K
          refine wpAnyX_ready (i := 7) (o := { dst := some 43, op := Op.call { callee := Callee.value (Operand.func 31), args := #[Operand.tmp 37, Operand.tmp 40, Operand.tmp 42], argTypes := #[29, 3, 25] }, type := 31, pos := "l7_record.go:166", after := #[{ on := 1, ground := Ground.data }, { on := 4, ground := Ground.data }, { on := 6, ground := Ground.data }, { on := 6, ground := Ground.chain }], guard := none }) (by kernel_rfl) rfl (fun K hK => ?_)
          go_simp
          go_at_call 31
          refine (rraws_spec d.1 d.2 (1 + (r2 : Int)) q3 _ (by omega) (by omega)).mono ?_
          rintro e w4 ⟨v4, rfl, ho4, hb4⟩
          have hD4 := hD3.after hb4
          have hB4 : B < w3.heap.size := hD3.1.1
          have hl4 : (rraws d.1 d.2 (1 + (r2 : Int)) q3).length ≤ 1000 := kraws_le _ _
          generalize rraws d.1 d.2 (1 + (r2 : Int)) q3 = L4 at ho4 hl4
          clear hD3 hb4
          go_simp
          refine hK.out _ _ hD4.2.2.1 (fun hHeld => ?_)
          clear hK K
          refine wpAnyX_ready (i := 9) (o := { dst := some 45, op := Op.call { callee := Callee.value (Operand.func 30), args := #[Operand.tmp 44, Operand.const (Value.int IntKind.i64 9)], argTypes := #[43, 3] }, type := 3, pos := "l7_record.go:166", after := #[{ on := 8, ground := Ground.data }, { on := 7, ground := Ground.chain }], guard := none }) (by kernel_rfl) rfl (fun K hK => ?_)
          go_simp
          go_at_call 30
          refine (cn _ _ hD4.1 (by omega) 9 (by omega) (by omega)).mono ?_
          rintro e w5 ⟨r5, hr5, rfl, R5, g5⟩
          have hD5 := hD4.pick R5 g5
          have O5 := owr_rws (owr_far ho4 g5 hB4)
          clear hD4 R5 g5 ho4
          go_simp
          refine hK.out _ _ hD5.2.2.1 (fun hHeld => ?_)
          clear hK K
          refine wpAnyX_ready (i := 10) (o := { dst := some 46, op := Op.call { callee := Callee.value (Operand.func 33), args := #[Operand.tmp 36, Operand.tmp 43, Operand.tmp 45], argTypes := #[29, 31, 3] }, type := 29, pos := "l7_record.go:166", after := #[{ on := 0, ground := Ground.data }, { on := 7, ground := Ground.data }, { on := 9, ground := Ground.data }, { on := 9, ground := Ground.chain }], guard := none }) (by kernel_rfl) rfl (fun K hK => ?_)
          go_simp
          go_at_call 33
          refine (cut_spec _ d.1 d.2 v4 L4 (r5 : Int) O5).mono ?_
          rintro e w6 ⟨rfl, hb6⟩
          have hD6 := hD5.after hb6
          generalize dws (d.1, d.2) (L4.take (ncut (r5 : Int) L4.length)) = d6
          clear hD5 hb6 O5
          go_simp
          refine hK.out _ _ hD6.2.2.1 (fun hHeld => ?_)
          clear hK K
          refine wpAnyX_last (o := { dst := none, op := Op.store 29 (Operand.tmp 4) (Operand.tmp 46), type := 0, pos := "l7_record.go:166", after := #[{ on := 10, ground := Ground.data }, { on := 10, ground := Ground.chain }, { on := 0, ground := Ground.phase }, { on := 1, ground := Ground.phase }, { on := 2, ground := Ground.phase }, { on := 3, ground := Ground.phase }, { on := 4, ground := Ground.phase }, { on := 5, ground := Ground.phase }, { on := 6, ground := Ground.phase }, { on := 7, ground := Ground.phase }, { on := 8, ground := Ground.phase }, { on := 9, ground := Ground.phase }, { on := 10, ground := Ground.phase }], guard := none }) (by kernel_rfl) rfl (fun K hK => ?_)
          rw [if_pos (by rfl)]
          refine wpo_store agg_disk X 0 [.int .u64 ((d6.1).m.toNat : Int), .int .u64 ((d6.1).q.toNat : Int), .int .u64 ((d6.1).z.toNat : Int), .int .u64 ((d6.1).r.a.toNat : Int), .int .u64 ((d6.1).r.b.toNat : Int), .int .u64 ((d6.1).r.c.toNat : Int), .int .u64 ((d6.1).r.d.toNat : Int), .int .u64 ((d6.2).m.toNat : Int), .int .u64 ((d6.2).q.toNat : Int), .int .u64 ((d6.2).z.toNat : Int), .int .u64 ((d6.2).r.a.toNat : Int), .int .u64 ((d6.2).r.b.toNat : Int), .int .u64 ((d6.2).r.c.toNat : Int), .int .u64 ((d6.2).r.d.toNat : Int)] (by kernel_rfl) (by kernel_rfl) (by kernel_rfl) (by kernel_rfl) hD6.2.2.2.1 ?_
          refine hK.out _ _ ?_
          clear hK K
          have hD7 := hD6.put d6
          clear hHeld hD6
          generalize w6.setCells X 0 [.int .u64 ((d6.1).m.toNat : Int), .int .u64 ((d6.1).q.toNat : Int), .int .u64 ((d6.1).z.toNat : Int), .int .u64 ((d6.1).r.a.toNat : Int), .int .u64 ((d6.1).r.b.toNat : Int), .int .u64 ((d6.1).r.c.toNat : Int), .int .u64 ((d6.1).r.d.toNat : Int), .int .u64 ((d6.2).m.toNat : Int), .int .u64 ((d6.2).q.toNat : Int), .int .u64 ((d6.2).z.toNat : Int), .int .u64 ((d6.2).r.a.toNat : Int), .int .u64 ((d6.2).r.b.toNat : Int), .int .u64 ((d6.2).r.c.toNat : Int), .int .u64 ((d6.2).r.d.toNat : Int)] = w7 at hD7 ⊢
          refine wpAnyX_done (by kernel_rfl) ?_ _
          obtain ⟨d1, d2, d3⟩ := hD7.done
          have HL := hD7.2.2.1
          have HR := hD7.2.1
          go_wp2_with (first
            | (with_reducible refine wpl_load agg_disk X 0 [.int .u64 ((d6.1).m.toNat : Int), .int .u64 ((d6.1).q.toNat : Int), .int .u64 ((d6.1).z.toNat : Int), .int .u64 ((d6.1).r.a.toNat : Int), .int .u64 ((d6.1).r.b.toNat : Int), .int .u64 ((d6.1).r.c.toNat : Int), .int .u64 ((d6.1).r.d.toNat : Int), .int .u64 ((d6.2).m.toNat : Int), .int .u64 ((d6.2).q.toNat : Int), .int .u64 ((d6.2).z.toNat : Int), .int .u64 ((d6.2).r.a.toNat : Int), .int .u64 ((d6.2).r.b.toNat : Int), .int .u64 ((d6.2).r.c.toNat : Int), .int .u64 ((d6.2).r.d.toNat : Int)] (by kernel_rfl) (by kernel_rfl) HL ?_)
            | (with_reducible refine wpl_store agg_disk H 0 [.int .u64 ((d6.1).m.toNat : Int), .int .u64 ((d6.1).q.toNat : Int), .int .u64 ((d6.1).z.toNat : Int), .int .u64 ((d6.1).r.a.toNat : Int), .int .u64 ((d6.1).r.b.toNat : Int), .int .u64 ((d6.1).r.c.toNat : Int), .int .u64 ((d6.1).r.d.toNat : Int), .int .u64 ((d6.2).m.toNat : Int), .int .u64 ((d6.2).q.toNat : Int), .int .u64 ((d6.2).z.toNat : Int), .int .u64 ((d6.2).r.a.toNat : Int), .int .u64 ((d6.2).r.b.toNat : Int), .int .u64 ((d6.2).r.c.toNat : Int), .int .u64 ((d6.2).r.d.toNat : Int)] (by kernel_rfl) (by kernel_rfl) (by kernel_rfl) (by kernel_rfl) HR ?_; generalize w7.setCells H 0 [.int .u64 ((d6.1).m.toNat : Int), .int .u64 ((d6.1).q.toNat : Int), .int .u64 ((d6.1).z.toNat : Int), .int .u64 ((d6.1).r.a.toNat : Int), .int .u64 ((d6.1).r.b.toNat : Int), .int .u64 ((d6.1).r.c.toNat : Int), .int .u64 ((d6.1).r.d.toNat : Int), .int .u64 ((d6.2).m.toNat : Int), .int .u64 ((d6.2).q.toNat : Int), .int .u64 ((d6.2).z.toNat : Int), .int .u64 ((d6.2).r.a.toNat : Int), .int .u64 ((d6.2).r.b.toNat : Int), .int .u64 ((d6.2).r.c.toNat : Int), .int .u64 ((d6.2).r.d.toNat : Int)] = wz at d1 d2 d3 ⊢))
          exact bodyPost_ret (v := .agg #[.int .u64 ((d6.1).m.toNat : Int), .int .u64 ((d6.1).q.toNat : Int), .int .u64 ((d6.1).z.toNat : Int), .int .u64 ((d6.1).r.a.toNat : Int), .int .u64 ((d6.1).r.b.toNat : Int), .int .u64 ((d6.1).r.c.toNat : Int), .int .u64 ((d6.1).r.d.toNat : Int), .int .u64 ((d6.2).m.toNat : Int), .int .u64 ((d6.2).q.toNat : Int), .int .u64 ((d6.2).z.toNat : Int), .int .u64 ((d6.2).r.a.toNat : Int), .int .u64 ((d6.2).r.b.toNat : Int), .int .u64 ((d6.2).r.c.toNat : Int), .int .u64 ((d6.2).r.d.toNat : Int)]) (res_cells agg_disk Try.results17 _ _ H 0 [.int .u64 ((d6.1).m.toNat : Int), .int .u64 ((d6.1).q.toNat : Int), .int .u64 ((d6.1).z.toNat : Int), .int .u64 ((d6.1).r.a.toNat : Int), .int .u64 ((d6.1).r.b.toNat : Int), .int .u64 ((d6.1).r.c.toNat : Int), .int .u64 ((d6.1).r.d.toNat : Int), .int .u64 ((d6.2).m.toNat : Int), .int .u64 ((d6.2).q.toNat : Int), .int .u64 ((d6.2).z.toNat : Int), .int .u64 ((d6.2).r.a.toNat : Int), .int .u64 ((d6.2).r.b.toNat : Int), .int .u64 ((d6.2).r.c.toNat : Int), .int .u64 ((d6.2).r.d.toNat : Int)] (by kernel_rfl) (by kernel_rfl) d1) rfl ⟨d6, _, (by omega), rfl, d2, d3⟩
        · have hr40' : ((r4 : Int) == 0) = false := by rw [beq_eq_false_iff_ne]; omega
          obtain ⟨d1, d2, d3⟩ := hD.done
          have HL := hD.2.2.1
          have HR := hD.2.1
          go_wp2_with (first
            | (with_reducible refine wpl_load agg_disk X 0 [.int .u64 ((d.1).m.toNat : Int), .int .u64 ((d.1).q.toNat : Int), .int .u64 ((d.1).z.toNat : Int), .int .u64 ((d.1).r.a.toNat : Int), .int .u64 ((d.1).r.b.toNat : Int), .int .u64 ((d.1).r.c.toNat : Int), .int .u64 ((d.1).r.d.toNat : Int), .int .u64 ((d.2).m.toNat : Int), .int .u64 ((d.2).q.toNat : Int), .int .u64 ((d.2).z.toNat : Int), .int .u64 ((d.2).r.a.toNat : Int), .int .u64 ((d.2).r.b.toNat : Int), .int .u64 ((d.2).r.c.toNat : Int), .int .u64 ((d.2).r.d.toNat : Int)] (by kernel_rfl) (by kernel_rfl) HL ?_)
            | (with_reducible refine wpl_store agg_disk H 0 [.int .u64 ((d.1).m.toNat : Int), .int .u64 ((d.1).q.toNat : Int), .int .u64 ((d.1).z.toNat : Int), .int .u64 ((d.1).r.a.toNat : Int), .int .u64 ((d.1).r.b.toNat : Int), .int .u64 ((d.1).r.c.toNat : Int), .int .u64 ((d.1).r.d.toNat : Int), .int .u64 ((d.2).m.toNat : Int), .int .u64 ((d.2).q.toNat : Int), .int .u64 ((d.2).z.toNat : Int), .int .u64 ((d.2).r.a.toNat : Int), .int .u64 ((d.2).r.b.toNat : Int), .int .u64 ((d.2).r.c.toNat : Int), .int .u64 ((d.2).r.d.toNat : Int)] (by kernel_rfl) (by kernel_rfl) (by kernel_rfl) (by kernel_rfl) HR ?_; generalize w4.setCells H 0 [.int .u64 ((d.1).m.toNat : Int), .int .u64 ((d.1).q.toNat : Int), .int .u64 ((d.1).z.toNat : Int), .int .u64 ((d.1).r.a.toNat : Int), .int .u64 ((d.1).r.b.toNat : Int), .int .u64 ((d.1).r.c.toNat : Int), .int .u64 ((d.1).r.d.toNat : Int), .int .u64 ((d.2).m.toNat : Int), .int .u64 ((d.2).q.toNat : Int), .int .u64 ((d.2).z.toNat : Int), .int .u64 ((d.2).r.a.toNat : Int), .int .u64 ((d.2).r.b.toNat : Int), .int .u64 ((d.2).r.c.toNat : Int), .int .u64 ((d.2).r.d.toNat : Int)] = wz at d1 d2 d3 ⊢))
          exact bodyPost_ret (v := .agg #[.int .u64 ((d.1).m.toNat : Int), .int .u64 ((d.1).q.toNat : Int), .int .u64 ((d.1).z.toNat : Int), .int .u64 ((d.1).r.a.toNat : Int), .int .u64 ((d.1).r.b.toNat : Int), .int .u64 ((d.1).r.c.toNat : Int), .int .u64 ((d.1).r.d.toNat : Int), .int .u64 ((d.2).m.toNat : Int), .int .u64 ((d.2).q.toNat : Int), .int .u64 ((d.2).z.toNat : Int), .int .u64 ((d.2).r.a.toNat : Int), .int .u64 ((d.2).r.b.toNat : Int), .int .u64 ((d.2).r.c.toNat : Int), .int .u64 ((d.2).r.d.toNat : Int)]) (res_cells agg_disk Try.results17 _ _ H 0 [.int .u64 ((d.1).m.toNat : Int), .int .u64 ((d.1).q.toNat : Int), .int .u64 ((d.1).z.toNat : Int), .int .u64 ((d.1).r.a.toNat : Int), .int .u64 ((d.1).r.b.toNat : Int), .int .u64 ((d.1).r.c.toNat : Int), .int .u64 ((d.1).r.d.toNat : Int), .int .u64 ((d.2).m.toNat : Int), .int .u64 ((d.2).q.toNat : Int), .int .u64 ((d.2).z.toNat : Int), .int .u64 ((d.2).r.a.toNat : Int), .int .u64 ((d.2).r.b.toNat : Int), .int .u64 ((d.2).r.c.toNat : Int), .int .u64 ((d.2).r.d.toNat : Int)] (by kernel_rfl) (by kernel_rfl) d1) rfl ⟨d, _, (by omega), rfl, d2, d3⟩
end Go.Proofs.Ytepgmdgcappfpaa
