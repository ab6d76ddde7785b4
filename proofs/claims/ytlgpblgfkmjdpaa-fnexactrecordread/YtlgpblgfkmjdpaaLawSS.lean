/-
  The law of SlotSum, walked.
-/
import Derived.Test.YtlgpblgfkmjdpaaReader3
namespace Go.Proofs.Ytlgpblgfkmjdpaa
open Go.RowKit Go.MuLone

theorem below_in {n B : Nat} {w W W' : World} (h : Below n w W) (hg : W.grownBy W' (some B)) (hB : n ≤ B) (hn : n ≤ W.heap.size) : Below n w W' :=
  ⟨hg.os.trans h.os, hg.tape.trans h.tape, hg.output.trans h.output, Nat.le_trans h.size hg.size, fun k hk => (hg.block k (by omega) (fun e => by injection e with e; omega)).trans (h.block k hk)⟩
set_option maxHeartbeats 1000000 in
/-- SlotSum of the program. -/
theorem ssum_impl (s : Sl) (w : World) :
    Calls Try.prog 8 #[.agg #[.int .u64 ((s).m.toNat : Int), .int .u64 ((s).q.toNat : Int), .int .u64 ((s).z.toNat : Int), .int .u64 ((s).r.a.toNat : Int), .int .u64 ((s).r.b.toNat : Int), .int .u64 ((s).r.c.toNat : Int), .int .u64 ((s).r.d.toNat : Int)]] w fun e w' => e = .returned (.int .u64 ((sumOf s).toNat : Int)) ∧ Below w.heap.size w w' := by
  have cr := fun W : World => reader_is s W
  have cs := fun (B : Nat) (t : Sl) (W : World) (h : Rr B s 0 0 t W) => sum_is B s t 0 W h (.inl rfl)
  have hb0 : Below w.heap.size w (w.alloc (.cells #[Value.int IntKind.u64 ((s).m.toNat : Int), Value.int IntKind.u64 ((s).q.toNat : Int), Value.int IntKind.u64 ((s).z.toNat : Int), Value.int IntKind.u64 ((s).r.a.toNat : Int), Value.int IntKind.u64 ((s).r.b.toNat : Int), Value.int IntKind.u64 ((s).r.c.toNat : Int), Value.int IntKind.u64 ((s).r.d.toNat : Int)] 30)) := (Below.refl _ _).alloc (Nat.le_refl _) _
  go_enter Try.func8, Try.ntmps8
  go_wp2_with (first
    | (go_at_call 19; refine (cr _).mono ?_; rintro e w2 ⟨B, rfl, hB, hR, hb2⟩; have z2 := hb2; clear cr hb2)
    | (go_at_call 20; refine (cs B _ w2 hR).mono ?_; rintro e w3 ⟨rfl, hR3, hg3⟩; clear cs))
  go_ret
  exact ⟨rfl, below_in (below_after hb0 z2 hb0.size) hg3 (Nat.le_trans hb0.size hB) (Nat.le_trans hb0.size z2.size)⟩
set_option maxHeartbeats 1000000 in
theorem lawSlotSum (s : Sl) (w : World) :
    Calls Try.prog 3 #[.agg #[.int .u64 ((s).m.toNat : Int), .int .u64 ((s).q.toNat : Int), .int .u64 ((s).z.toNat : Int), .int .u64 ((s).r.a.toNat : Int), .int .u64 ((s).r.b.toNat : Int), .int .u64 ((s).r.c.toNat : Int), .int .u64 ((s).r.d.toNat : Int)]] w fun e w' => e = .returned (.bool true) ∧ Below w.heap.size w w' := by
  have ct := fun W : World => tosl_is s W
  have c1 := fun W : World => ssum_spec s W
  have c2 := fun W : World => ssum_impl s W
  have z0 : Below w.heap.size w (w.alloc (.cells #[Value.int IntKind.u64 ((s).m.toNat : Int), Value.int IntKind.u64 ((s).q.toNat : Int), Value.int IntKind.u64 ((s).z.toNat : Int), Value.int IntKind.u64 ((s).r.a.toNat : Int), Value.int IntKind.u64 ((s).r.b.toNat : Int), Value.int IntKind.u64 ((s).r.c.toNat : Int), Value.int IntKind.u64 ((s).r.d.toNat : Int)] 26)) := (Below.refl _ _).alloc (Nat.le_refl _) _
  have hS0 := SB.new w s 26
  obtain ⟨-, a0, a1, a2, a3, a4, a5, a6⟩ := id hS0
  go_enter Try.func3, Try.ntmps3
  go_wp2_with (first
    | (go_at_call 8; refine (c2 _).mono ?_; rintro e w4 ⟨rfl, hb4⟩; have z4 := below_after z3 hb4 z3.size)
    | (have hh := z2; go_at_call 7; refine (ct _).mono ?_; rintro e w3 ⟨rfl, hb3⟩; have z3 := below_after z2 hb3 z2.size)
    | (go_at_call 6; refine (c1 _).mono ?_; rintro e w2 ⟨rfl, hb2⟩; have z2 := below_after z1 hb2 z1.size; have hS2 := hS1.call hb2; obtain ⟨-, b0, b1, b2, b3, b4, b5, b6⟩ := id hS2)
    | (go_at_call 7; refine (ct _).mono ?_; rintro e w1 ⟨rfl, hb1⟩; have z1 := below_after z0 hb1 z0.size; have hS1 := hS0.call hb1))
  go_ret
  exact ⟨rfl, z4⟩
end Go.Proofs.Ytlgpblgfkmjdpaa
