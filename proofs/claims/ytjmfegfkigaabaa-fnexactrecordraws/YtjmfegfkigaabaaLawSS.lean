/-
  The law of SlotSum, walked.
-/
import Derived.Test.YtjmfegfkigaabaaReader3
namespace Go.Proofs.Ytjmfegfkigaabaa
open Go.RowKit Go.MuLone

theorem below_in {n B : Nat} {w W W' : World} (h : Below n w W) (hg : W.grownBy W' (some B)) (hB : n ≤ B) (hn : n ≤ W.heap.size) : Below n w W' :=
  ⟨hg.os.trans h.os, hg.tape.trans h.tape, hg.output.trans h.output, Nat.le_trans h.size hg.size, fun k hk => (hg.block k (by omega) (fun e => by injection e with e; omega)).trans (h.block k hk)⟩
set_option maxHeartbeats 1000000 in
/-- SlotSum of the program. -/
theorem ssum_impl (s : Sl) (w : World) :
    Calls Try.prog 41 #[.agg #[.int .u64 ((s).m.toNat : Int), .int .u64 ((s).q.toNat : Int), .int .u64 ((s).z.toNat : Int), .int .u64 ((s).r.a.toNat : Int), .int .u64 ((s).r.b.toNat : Int), .int .u64 ((s).r.c.toNat : Int), .int .u64 ((s).r.d.toNat : Int)]] w fun e w' => e = .returned (.int .u64 ((sumOf s).toNat : Int)) ∧ Below w.heap.size w w' := by
  have cr := fun W : World => reader_is s W
  have cs := fun (B : Nat) (t : Sl) (W : World) (h : Rr B s 0 0 t W) => sum_is B s t 0 W h (.inl rfl)
  have hb0 : Below w.heap.size w (w.alloc (.cells #[Value.int IntKind.u64 ((s).m.toNat : Int), Value.int IntKind.u64 ((s).q.toNat : Int), Value.int IntKind.u64 ((s).z.toNat : Int), Value.int IntKind.u64 ((s).r.a.toNat : Int), Value.int IntKind.u64 ((s).r.b.toNat : Int), Value.int IntKind.u64 ((s).r.c.toNat : Int), Value.int IntKind.u64 ((s).r.d.toNat : Int)] 33)) := (Below.refl _ _).alloc (Nat.le_refl _) _
  go_enter Try.func41, Try.ntmps41
  go_wp2_with (first
    | (go_at_call 44; refine (cr _).mono ?_; rintro e w2 ⟨B, rfl, hB, hR, hb2⟩; have z2 := hb2; clear cr hb2)
    | (go_at_call 61; refine (cs B _ w2 hR).mono ?_; rintro e w3 ⟨rfl, hR3, hg3⟩; clear cs))
  go_ret
  exact ⟨rfl, below_in (below_after hb0 z2 hb0.size) hg3 (Nat.le_trans hb0.size hB) (Nat.le_trans hb0.size z2.size)⟩
end Go.Proofs.Ytjmfegfkigaabaa
