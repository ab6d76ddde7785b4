/-
  The law of SlotOk, walked.
-/
import Derived.Test.YtlgpblgfkmjdpaaReader4
namespace Go.Proofs.Ytlgpblgfkmjdpaa
open Go.RowKit Go.MuLone

set_option maxHeartbeats 1000000 in
theorem lawSlotOk (s : Sl) (w : World) :
    Calls Try.prog 4 #[.agg #[.int .u64 ((s).m.toNat : Int), .int .u64 ((s).q.toNat : Int), .int .u64 ((s).z.toNat : Int), .int .u64 ((s).r.a.toNat : Int), .int .u64 ((s).r.b.toNat : Int), .int .u64 ((s).r.c.toNat : Int), .int .u64 ((s).r.d.toNat : Int)]] w fun e w' => e = .returned (.bool true) ∧ Below w.heap.size w w' := by
  have ct := fun W : World => tosl_is s W
  have c1 := fun W : World => sok_spec s W
  have c2 := fun W : World => sok_impl s W
  generalize slok s = b at c1 c2
  have z0 : Below w.heap.size w (w.alloc (.cells #[Value.int IntKind.u64 ((s).m.toNat : Int), Value.int IntKind.u64 ((s).q.toNat : Int), Value.int IntKind.u64 ((s).z.toNat : Int), Value.int IntKind.u64 ((s).r.a.toNat : Int), Value.int IntKind.u64 ((s).r.b.toNat : Int), Value.int IntKind.u64 ((s).r.c.toNat : Int), Value.int IntKind.u64 ((s).r.d.toNat : Int)] 26)) := (Below.refl _ _).alloc (Nat.le_refl _) _
  have hS0 := SB.new w s 26
  obtain ⟨-, a0, a1, a2, a3, a4, a5, a6⟩ := id hS0
  go_enter Try.func4, Try.ntmps4
  go_wp2_with (first
    | (go_at_call 10; refine (c2 _).mono ?_; rintro e w4 ⟨rfl, hb4⟩; have z4 := below_after z3 hb4 z3.size)
    | (have hh := z2; go_at_call 7; refine (ct _).mono ?_; rintro e w3 ⟨rfl, hb3⟩; have z3 := below_after z2 hb3 z2.size)
    | (go_at_call 9; refine (c1 _).mono ?_; rintro e w2 ⟨rfl, hb2⟩; have z2 := below_after z1 hb2 z1.size; have hS2 := hS1.call hb2; obtain ⟨-, b0, b1, b2, b3, b4, b5, b6⟩ := id hS2)
    | (go_at_call 7; refine (ct _).mono ?_; rintro e w1 ⟨rfl, hb1⟩; have z1 := below_after z0 hb1 z0.size; have hS1 := hS0.call hb1))
  go_ret
  exact ⟨rfl, z4⟩
end Go.Proofs.Ytlgpblgfkmjdpaa
