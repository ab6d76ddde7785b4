/-
  toPoint, walked; the box of a point.
-/
import Derived.Test.YtkdgdmicnfgdjaaJoinB1
import Derived.Test.YtkdgdmicnfgdjaaBox
import Derived.Test.YtkdgdmicnfgdjaaJoinB2
import Derived.Test.YtkdgdmicnfgdjaaPChk
namespace Go.Proofs.Ytkdgdmicnfgdjaa
open Go.RowKit
/-- The block B has a point. -/
def Pt (B : Nat) (n : Int) (q : Qd) (W : World) : Prop :=
  B < W.heap.size ∧ W.cell? ⟨B, 0, none⟩ = some (.int .i64 n) ∧ W.cell? ⟨B, 1, none⟩ = some (.int .u64 ((q.a).toNat : Int)) ∧ W.cell? ⟨B, 2, none⟩ = some (.int .u64 ((q.b).toNat : Int)) ∧ W.cell? ⟨B, 3, none⟩ = some (.int .u64 ((q.c).toNat : Int)) ∧ W.cell? ⟨B, 4, none⟩ = some (.int .u64 ((q.d).toNat : Int))
theorem Pt.call {B : Nat} {n : Int} {q : Qd} {W W' : World} (h : Pt B n q W) (hb : Below W.heap.size W W') : Pt B n q W' :=
  ⟨Nat.lt_of_lt_of_le h.1 hb.size, (hb.cell h.1).trans h.2.1, (hb.cell h.1).trans h.2.2.1, (hb.cell h.1).trans h.2.2.2.1, (hb.cell h.1).trans h.2.2.2.2.1, (hb.cell h.1).trans h.2.2.2.2.2⟩
theorem Pt.new (W : World) (n : Int) (q : Qd) (t : TypeId) : Pt W.heap.size n q (W.alloc (.cells #[.int .i64 n, .int .u64 ((q.a).toNat : Int), .int .u64 ((q.b).toNat : Int), .int .u64 ((q.c).toNat : Int), .int .u64 ((q.d).toNat : Int)] t)) := by
  refine ⟨by simp, ?_, ?_, ?_, ?_, ?_⟩ <;> simp [go_sem]

set_option maxRecDepth 20000 in
set_option maxHeartbeats 1000000 in
theorem topt_is (n : Int) (q : Qd) (w : World) :
    Calls Try.prog 24 #[.agg #[.int .i64 n, .int .u64 ((q.a).toNat : Int), .int .u64 ((q.b).toNat : Int), .int .u64 ((q.c).toNat : Int), .int .u64 ((q.d).toNat : Int)]] w fun e w' => e = .returned (.agg #[.int .i64 n, .int .u64 ((q.a).toNat : Int), .int .u64 ((q.b).toNat : Int), .int .u64 ((q.c).toNat : Int), .int .u64 ((q.d).toNat : Int)]) ∧ Below w.heap.size w w' := by
  go_enter Try.func24, Try.ntmps24
  go_wp2_with (go_at_call 44; refine (toD_is _ _).mono ?_; rintro e w1 ⟨rfl, rfl⟩)
  exact bodyPost_ret (v := .agg #[.int .i64 n, .int .u64 ((q.a).toNat : Int), .int .u64 ((q.b).toNat : Int), .int .u64 ((q.c).toNat : Int), .int .u64 ((q.d).toNat : Int)]) (by simp [results, Try.results24, go_sem]) rfl ⟨rfl, (by repeat' (first | (with_reducible exact Below.refl _ _) | (with_reducible assumption) | (with_reducible refine below_drewN ?_ _) | (with_reducible refine Below.setCell ?_ ?_ _) | (with_reducible refine Below.alloc ?_ ?_ _) | (with_reducible refine Below.drew ?_) | go_size))⟩
end Go.Proofs.Ytkdgdmicnfgdjaa

/-
  The law of PathCheck, walked.
-/
namespace Go.Proofs.Ytkdgdmicnfgdjaa
open Go.RowKit

set_option maxRecDepth 20000 in
set_option maxHeartbeats 2000000 in
theorem lawPathCheck (n : Int) (q : Qd) (i : Int) (s : ByteArray) (v : Value) (L : List Qd) (w : World) (hsm : s.size ≤ maxLen) (hT : Dgs w v L) :
    Calls Try.prog 5 #[.agg #[.int .i64 n, .int .u64 ((q.a).toNat : Int), .int .u64 ((q.b).toNat : Int), .int .u64 ((q.c).toNat : Int), .int .u64 ((q.d).toNat : Int)], .int .i64 i, .string s, v] w fun e w' => e = .returned (.bool true) ∧ Below w.heap.size w w' := by
  by_cases hbig : 1048576 < s.size
  · have hbI : 1048576 < (s.size : Int) := by omega
    have hss : s.size ≤ 9223372036854775807 := by unfold maxLen at hsm; omega
    clear hsm hT
    go_enter Try.func5, Try.ntmps5
    go_wp2
    go_ret
    exact ⟨rfl, (Below.refl _ _).alloc (Nat.le_refl _) _⟩
  have hbI : ¬ 1048576 < (s.size : Int) := by omega
  have hss : s.size ≤ 9223372036854775807 := by omega
  have c1 := fun W (h : Dgs W v L) => szd_is W v L h 1048576 (by omega)
  have k1 := fun (W : World) (u : Value) (h : Dgs W u L) => pchk_spec n i q s L u W (by omega) h
  have k2 := fun (W : World) (u : Value) (h : Dgs W u L) (hn : ∀ a l c, u = .slice (some a) l c → a.spot = none) => pchk_impl n i q s L u W (by omega) h hn
  generalize chk (prOk n i s L) (prQ n i s L) q = b at k1 k2
  clear hsm hbig
  have hB0 : Below w.heap.size w (w.alloc (.cells #[.int .i64 n, .int .u64 ((q.a).toNat : Int), .int .u64 ((q.b).toNat : Int), .int .u64 ((q.c).toNat : Int), .int .u64 ((q.d).toNat : Int)] 44)) := (Below.refl _ _).alloc (Nat.le_refl _) _
  have hT0 := hT.call hB0
  have hP0 := Pt.new w n q 44
  go_enter Try.func5, Try.ntmps5
  go_wp2_with (go_at_call 18; refine (c1 _ hT0).mono ?_; rintro e w1 ⟨r, rfl, hw1, hr⟩; replace hw1 := hw1.symm; subst hw1)
  all_goals first
    | (go_ret; exact ⟨rfl, hB0⟩)
    | (have hlen : L.length ≤ 1048576 := hr (by assumption)
       have c2 := fun W (h : Dgs W v L) => tods_ex2 W v L h hlen
       clear hr c1
       generalize w.alloc (.cells #[.int .i64 n, .int .u64 ((q.a).toNat : Int), .int .u64 ((q.b).toNat : Int), .int .u64 ((q.c).toNat : Int), .int .u64 ((q.d).toNat : Int)] 44) = w1 at hB0 hT0 hP0 ⊢
       obtain ⟨l0, p0, p1, p2, p3, p4⟩ := id hP0
       go_wp2_with (first
         | (go_at_call 13; refine (eqds_is w8 u5 u8 L hU8 hT8).mono ?_; rintro e w9 ⟨rfl, hb9⟩; have hz9 := hb9.size)
         | (go_at_call 20; refine (c2 w7 hV7).mono ?_; rintro e w8 ⟨u8, rfl, hb8, hT8, -⟩; have hU8 : Dgs w8 u5 L := hU7.call hb8; have hz8 := hb8.size)
         | (go_at_call 25; refine (k2 w6 u5 hU6 hn5).mono ?_; rintro e w7 ⟨rfl, hb7⟩; have hz7 := hb7.size; have hV7 : Dgs w7 v L := hV6.call hb7; have hU7 : Dgs w7 u5 L := hU6.call hb7; have hB7 : Below w.heap.size w w7 := below_after hB6 hb7 (by omega))
         | (go_at_call 24; refine (topt_is n q w5).mono ?_; rintro e w6 ⟨rfl, hb6⟩; have hz6 := hb6.size; have hV6 : Dgs w6 v L := hV5.call hb6; have hU6 : Dgs w6 u5 L := hU5.call hb6; have hB6 : Below w.heap.size w w6 := below_after hB5 hb6 (by omega); clear hb6)
         | (go_at_call 20; refine (c2 w4 hV4).mono ?_; rintro e w5 ⟨u5, rfl, hb5, hU5, hn5⟩; have hz5 := hb5.size; have hV5 : Dgs w5 v L := hV4.call hb5; have hP5 := hP4.call hb5; have hB5 : Below w.heap.size w w5 := below_after hB4 hb5 (by omega); clear hb5; obtain ⟨l5, a0, a1, a2, a3, a4⟩ := id hP5)
         | (go_at_call 23; refine (k1 w3 u3 hT3).mono ?_; rintro e w4 ⟨rfl, hb4⟩; have hz4 := hb4.size; have hV4 : Dgs w4 v L := hV3.call hb4; have hP4 := hP3.call hb4; have hB4 : Below w.heap.size w w4 := below_after hB3 hb4 (by omega); clear hb4)
         | (go_at_call 20; refine (c2 w2 hV2).mono ?_; rintro e w3 ⟨u3, rfl, hb3, hT3, -⟩; have hz3 := hb3.size; have hV3 : Dgs w3 v L := hV2.call hb3; have hP3 := hP2.call hb3; have hB3 : Below w.heap.size w w3 := below_after hB2 hb3 (by omega); clear hb3)
         | (go_at_call 24; refine (topt_is n q w1).mono ?_; rintro e w2 ⟨rfl, hb2⟩; have hz2 := hb2.size; have hV2 : Dgs w2 v L := hT0.call hb2; have hP2 := hP0.call hb2; have hB2 : Below w.heap.size w w2 := below_after hB0 hb2 (by omega); clear hb2))
       go_ret
       exact ⟨rfl, below_after (below_after hB7 hb8 (by omega)) hb9 (by omega)⟩)
end Go.Proofs.Ytkdgdmicnfgdjaa
