/-
  The law of LetterOk, walked.
-/
import Derived.Test.YtnnjecghkkcmkaaLet
namespace Go.Proofs.Ytnnjecghkkcmkaa
open Go.RowKit

set_option maxRecDepth 20000 in
set_option maxHeartbeats 1000000 in
theorem lawLetterOk (f t : Int) (s : ByteArray) (w : World) (hs : s.size ≤ maxLen) :
    Calls Try.prog 3 #[.agg #[.int .i64 f, .int .i64 t, .string s]] w fun e w' => e = .returned (.bool true) ∧ Below w.heap.size w w' := by
  have c1 := fun W : World => szlet_is f t s hs 1048576 (by omega) W
  have c2 := fun W : World => tolet_is f t s W
  have c3 := fun W : World => letok_spec f t s hs W
  have c4 := fun W : World => letok_impl f t s hs W
  generalize letOk f t s.size = b at c3 c4
  generalize hr : (if (1048576 : Int) - s.size < 0 then (-1 : Int) else 1048576 - s.size) = r at c1
  clear hr
  have hB0 := Le.new w f t s 23
  have hb0 : Below w.heap.size w (w.alloc (.cells #[.int .i64 f, .int .i64 t, .string s] 23)) := (Below.refl _ _).alloc (Nat.le_refl _) _
  go_enter Try.func3, Try.ntmps3
  go_wp2_with (go_at_call 6; refine (c1 _).mono ?_; rintro e w1 ⟨rfl, hb1⟩; obtain ⟨l1, d0, d1, d2⟩ := id (hB0.call hb1); have hB1 := hB0.call hb1; have z1 := below_after hb0 hb1 hb0.size; clear hB0 hb0 hb1)
  all_goals first
    | (go_ret; exact ⟨rfl, z1⟩)
    | (go_wp2_with (first
        | (go_at_call 9; refine (c4 _).mono ?_; rintro e w5 ⟨rfl, hb5⟩; have z5 := below_after z4 hb5 z4.size)
        | (go_at_call 7; refine (c3 _).mono ?_; rintro e w3 ⟨rfl, hb3⟩; obtain ⟨l3, f0, f1, f2⟩ := id (hB2.call hb3); have hB3 := hB2.call hb3; have z3 := below_after z2 hb3 z2.size; clear hB2)
        | (have hh := hB3; go_at_call 8; refine (c2 _).mono ?_; rintro e w4 ⟨rfl, hb4⟩; have z4 := below_after z3 hb4 z3.size)
        | (go_at_call 8; refine (c2 _).mono ?_; rintro e w2 ⟨rfl, hb2⟩; have hB2 := hB1.call hb2; have z2 := below_after z1 hb2 z1.size; clear hB1))
       go_ret
       exact ⟨rfl, z5⟩)
end Go.Proofs.Ytnnjecghkkcmkaa
