/-
  A place drawn; a bag and a place drawn.
-/
import Derived.Test.YtnfnhgloblfgnaaDBag3
namespace Go.Proofs.Ytnfnhgloblfgnaa
open Go.RowKit

set_option maxRecDepth 20000 in
set_option maxHeartbeats 1000000 in
theorem place6_is (B : Nat) (v : Value) (L : List UInt8) (p : Nat) (W : World) (h : RdAt B v L p W) (hp : p ≤ 100000) :
    Calls Try.prog 20 #[.pointer (some ⟨B, 0, none⟩)] W fun e w' => ∃ (k : Int) (p' : Nat), e = .returned (.int .i64 k) ∧ (-9223372036854775808 ≤ k ∧ k ≤ 9223372036854775807) ∧ p' ≤ p + 2 ∧ RdAt B v L p' w' ∧ W.grownBy w' (some B) := by
  have cn := fun (V : World) (q : Nat) (h : RdAt B v L q V) (hq : q ≤ 900000) (n : Int) (h1 : 1 ≤ n) (h2 : n ≤ 1000) => pick_is B v L q V h (by omega) n h1 (by omega)
  go_enter Try.func20, Try.ntmps20
  go_upto_if 7 with (go_at_call 31; refine (cn _ _ h (by omega) 10 (by omega) (by omega)).mono ?_; rintro e w1 ⟨r1, hr1, rfl, R1, g1⟩)
  have h4 : r1 = 0 ∨ r1 = 1 ∨ r1 = 2 ∨ 2 < r1 := by omega
  rcases h4 with rfl | rfl | rfl | h4
  · go_wp2_with (go_at_call 31; refine (cn _ _ R1 (by omega) 9 (by omega) (by omega)).mono ?_; rintro e w2 ⟨r2, hr2, rfl, R2, g2⟩; have hw : IntKind.i64.wrap (-1 - (r2 : Int)) = -1 - (r2 : Int) := IntWalk.i64_in _ (by omega))
    go_ret
    exact ⟨_, p + 1 + 1, rfl, by omega, by omega, R2, g1.trans2 g2⟩
  · go_wp2_with (go_at_call 31; refine (cn _ _ R1 (by omega) 3 (by omega) (by omega)).mono ?_; rintro e w2 ⟨r2, hr2, rfl, R2, g2⟩; have hw : IntKind.i64.wrap (9223372036854775807 - (r2 : Int)) = 9223372036854775807 - (r2 : Int) := IntWalk.i64_in _ (by omega))
    go_ret
    exact ⟨_, p + 1 + 1, rfl, by omega, by omega, R2, g1.trans2 g2⟩
  · go_wp2_with (go_at_call 31; refine (cn _ _ R1 (by omega) 3 (by omega) (by omega)).mono ?_; rintro e w2 ⟨r2, hr2, rfl, R2, g2⟩; have hw : IntKind.i64.wrap (-9223372036854775808 + (r2 : Int)) = -9223372036854775808 + (r2 : Int) := IntWalk.i64_in _ (by omega))
    go_ret
    exact ⟨_, p + 1 + 1, rfl, by omega, by omega, R2, g1.trans2 g2⟩
  · have e0 : ((r1 : Int) == 0) = false := by rw [beq_eq_false_iff_ne]; omega
    have e1 : ((r1 : Int) == 1) = false := by rw [beq_eq_false_iff_ne]; omega
    have e2 : ((r1 : Int) == 2) = false := by rw [beq_eq_false_iff_ne]; omega
    go_wp2_with (go_at_call 31; refine (cn _ _ R1 (by omega) 12 (by omega) (by omega)).mono ?_; rintro e w2 ⟨r2, hr2, rfl, R2, g2⟩)
    go_ret
    exact ⟨_, p + 1 + 1, rfl, by omega, by omega, R2, g1.trans2 g2⟩
/-- The box of a drawn bag. -/
def DT0 (W w1 : World) : Prop := C2 W.heap.size (.int .i64 0) (.slice none 0 0) w1 ∧ Below W.heap.size W w1
theorem DT0.call {W w1 w2 : World} (h : DT0 W w1) (hb : Below w1.heap.size w1 w2) : DT0 W w2 := ⟨h.1.call hb, below_after h.2 hb h.2.size⟩
theorem DT0.grown {W w1 w2 : World} {B : Nat} (h : DT0 W w1) (hg : w1.grownBy w2 (some B)) (hB : W.heap.size < B) : DT0 W w2 :=
  ⟨h.1.grown hg (fun e => by injection e with e; omega), h.2.grown hg h.2.size (fun k e => by injection e with e; omega)⟩
set_option maxRecDepth 20000 in
set_option maxHeartbeats 2000000 in
theorem drawTake_is (W : World) (v : Value) (L : List UInt8) (h : Byt W v L) :
    Calls Try.prog 5 #[v] W fun e w' => ∃ (m : Int) (ob : Option Addr) (cq : Nat) (Y : List Lt) (k : Int), e = .returned (.tuple #[.agg #[.int .i64 m, .slice ob Y.length cq], .int .i64 k]) ∧ Y.length ≤ 66 ∧ (∀ l ∈ Y, l.s.size ≤ 100000) ∧ (-9223372036854775808 ≤ k ∧ k ≤ 9223372036854775807) ∧ (ob = none ∨ ∃ g, ob = some ⟨g, 0, none⟩) ∧ Lts w' (.slice ob Y.length cq) Y ∧ Below W.heap.size W w' := by
  have hD0 : DT0 W (W.alloc (.cells #[.int .i64 0, .slice none 0 0] 25)) := ⟨C2.new W (.int .i64 0) (.slice none 0 0) 25, (by repeat' (first | (with_reducible exact Below.refl _ _) | (with_reducible assumption) | (with_reducible refine below_drewN ?_ _) | (with_reducible refine Below.setCell ?_ ?_ _) | (with_reducible refine Below.alloc ?_ ?_ _) | (with_reducible refine Below.drew ?_) | go_size))⟩
  have co := open_is _ v L (h.call hD0.2)
  have hsz : (W.alloc (.cells #[.int .i64 0, .slice none 0 0] 25)).heap.size = W.heap.size + 1 := by simp
  rw [hsz] at co
  have cb := fun (V : World) (v' : Value) (L' : List UInt8) (h : RdAt (W.heap.size + 1) v' L' 0 V) => bag6_is (W.heap.size + 1) v' L' 0 V h (by omega)
  have cl := fun (V : World) (v' : Value) (L' : List UInt8) (q : Nat) (h : RdAt (W.heap.size + 1) v' L' q V) (hq : q ≤ 2000) => place6_is (W.heap.size + 1) v' L' q V h (by omega)
  clear h
  go_enter Try.func5, Try.ntmps5
  go_upto_region 3 with (first
    | (go_at_call 18; refine co.mono ?_; rintro e w1 ⟨v', L', rfl, R1, b1⟩; have hD1 := hD0.call (hsz ▸ b1); clear co hD0)
    | (go_at_call 19; refine (cb _ _ _ R1).mono ?_; rintro e w2 ⟨m, ob, cq, Y, p', rfl, hYl, hYs, hp', R2, ho2, g2⟩; have hD2 := hD1.grown g2 (by omega); clear cb))
  have hX3 := C2.new w2 (.int .i64 m) (.slice ob Y.length cq) 25
  have hb3 : Below w2.heap.size w2 (w2.alloc (.cells #[.int .i64 m, .slice ob Y.length cq] 25)) := (Below.refl _ _).alloc (Nat.le_refl _) _
  have hD3 := hD2.call hb3
  have R3 := R2.alloc (.cells #[.int .i64 m, .slice ob Y.length cq] 25)
  have ho3 := ho2.alloc (.cells #[.int .i64 m, .slice ob Y.length cq] 25)
  have hBw : W.heap.size + 1 < w2.heap.size := R2.1
  have hw1 : W.heap.size + 1 < w1.heap.size := R1.1
  obtain ⟨-, x0, x1, -, -⟩ := id hX3
  obtain ⟨⟨-, d0, d1, d2, d3⟩, -⟩ := id hD3
  have HC : Hid (∀ V, (∃ B : Below (w2.alloc (.cells #[.int .i64 m, .slice ob Y.length cq] 25)).heap.size (w2.alloc (.cells #[.int .i64 m, .slice ob Y.length cq] 25)) V, True) → Calls Try.prog 20 #[.pointer (some ⟨W.heap.size + 1, 0, none⟩)] V fun e w' => ∃ (k : Int), (-9223372036854775808 ≤ k ∧ k ≤ 9223372036854775807) ∧ e = .returned (.int .i64 k) ∧ C2 w2.heap.size (.int .i64 m) (.slice ob Y.length cq) w' ∧ DT0 W w' ∧ w'.ownsRow w1.heap.size 32 3 (.slice ob Y.length cq) Y.length (lcs Y)) := fun V ⟨hB, _⟩ => by
    refine (cl V _ _ _ ((R3.row (grown_any hB none) (fun k e => by cases e))) (by omega)).mono ?_
    rintro e w' ⟨k, p2, h1, h2, h3, h4, h5⟩
    exact ⟨k, h2, h1, (hX3.call hB).grown h5 (fun e => by injection e with e; omega), (hD3.call hB).grown h5 (by omega), own_far (own_callL ho3 hB) h5 (by omega)⟩
  have hn0 : W.heap.size ≠ w2.heap.size := by omega
  clear hD1 hD2 hD3 hX3 hb3 R1 R2 R3 ho2 ho3 g2 b1 hsz cl
  go_region_held3 (fun w' => w'.cell? ⟨w2.heap.size, 0, none⟩ = some (.int .i64 m) ∧ w'.cell? ⟨w2.heap.size, 1, none⟩ = some (.slice ob Y.length cq)) ((refine ⟨?_, ?_⟩ <;> (repeat (first | (with_reducible assumption) | (with_reducible refine c_drew ?_) | (with_reducible refine c_set ?_ (by exact hn0)))))) (((try go_simp); go_at_call 20; refine (HC.out _ ⟨(by repeat' (first | (with_reducible exact Below.refl _ _) | (with_reducible assumption) | (with_reducible refine below_drewN ?_ _) | (with_reducible refine Below.setCell ?_ ?_ _) | (with_reducible refine Below.alloc ?_ ?_ _) | (with_reducible refine Below.drew ?_) | go_size)), trivial⟩).mono ?_; rintro e w5 ⟨k, hk, rfl, hX5, hD5, ho5⟩; obtain ⟨-, k0, k1, -, -⟩ := id hX5; obtain ⟨⟨-, f0, f1, f2, f3⟩, -⟩ := id hD5))
  go_wp2_with fail
  have gp := grown_put w5 W.heap.size (.int .i64 m) (.slice ob Y.length cq)
  have hob : ob = none ∨ ∃ g, ob = some ⟨g, 0, none⟩ := by
    rcases ho5.2 with ⟨h, _⟩ | ⟨g, cap', cur, h, _⟩
    · injection h with h1 h2 h3
      exact .inl h1
    · injection h with h1 h2 h3
      exact .inr ⟨g, h1⟩
  have hO := own_lts (ho5.kept gp (.inr (fun e => by have := (ho5.lt _ e).1; omega)))
  obtain ⟨-, p4, p5, -, -⟩ := hD5.1.put (x' := .int .i64 m) (y' := .slice ob Y.length cq)
  have p3 := hD5.2.grown gp hD5.2.size (fun k e => by injection e with e; omega)
  generalize (w5.setCell ⟨W.heap.size, 0, none⟩ (.int .i64 m)).setCell ⟨W.heap.size, 1, none⟩ (.slice ob Y.length cq) = Z at p3 p4 p5 hO ⊢
  refine bodyPost_ret (v := .tuple #[.agg #[.int .i64 m, .slice ob Y.length cq], .int .i64 k]) ?_ rfl ⟨m, ob, cq, Y, k, rfl, hYl, hYs, hk, hob, hO, p3⟩
  simp [results, Try.results5, go_sem, p4, p5]
end Go.Proofs.Ytnfnhgloblfgnaa
