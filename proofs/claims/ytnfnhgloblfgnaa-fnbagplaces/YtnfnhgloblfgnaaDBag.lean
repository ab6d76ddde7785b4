/-
  A letter drawn.
-/
import Derived.Test.YtnfnhgloblfgnaaTk5
import Derived.Test.YtnfnhgloblfgnaaJoinB36
namespace Go.Proofs.Ytnfnhgloblfgnaa
open Go.RowKit

theorem three_in (W : World) (B r : Nat) (hr : r < 3) (w5 : World) (g : (W.alloc (.cells #[.int .i64 (-1), .int .i64 20, .int .i64 21] 3)).grownBy w5 (some B)) (hB : B < W.heap.size) : ∃ y : Int, w5.cell? ⟨W.heap.size, r, none⟩ = some (.int .i64 y) := by
  have hc : ∃ y : Int, (W.alloc (.cells #[.int .i64 (-1), .int .i64 20, .int .i64 21] 3)).cell? ⟨W.heap.size, r, none⟩ = some (.int .i64 y) := by
    rcases r with _ | _ | _ | r
    · exact ⟨-1, by simp [go_sem]⟩
    · exact ⟨20, by simp [go_sem]⟩
    · exact ⟨21, by simp [go_sem]⟩
    · omega
  obtain ⟨y, hy⟩ := hc
  exact ⟨y, g.cell hy (fun e => by injection e with e; have e' : W.heap.size = B := e; omega)⟩
theorem L3.one {B : Nat} {f t : Int} {s : ByteArray} {W : World} (h : L3 B f t s W) (f' : Int) : L3 B f' t s (W.setCell ⟨B, 0, none⟩ (.int .i64 f')) := by
  obtain ⟨⟨h0, h1, h2, h3⟩, f0, f1, f2⟩ := h
  exact ⟨⟨by simp only [World.size_setCell]; exact h0, set_same (by rw [h1]; rfl), (set_off (by omega)).trans h2, (set_off (by omega)).trans h3⟩, by simp only [World.frozen?_setCell]; exact f0, by simp only [World.frozen?_setCell]; exact f1, by simp only [World.frozen?_setCell]; exact f2⟩
theorem L3.two {B : Nat} {f t : Int} {s : ByteArray} {W : World} (h : L3 B f t s W) (t' : Int) : L3 B f t' s (W.setCell ⟨B, 1, none⟩ (.int .i64 t')) := by
  obtain ⟨⟨h0, h1, h2, h3⟩, f0, f1, f2⟩ := h
  exact ⟨⟨by simp only [World.size_setCell]; exact h0, (set_off (by omega)).trans h1, set_same (by rw [h2]; rfl), (set_off (by omega)).trans h3⟩, by simp only [World.frozen?_setCell]; exact f0, by simp only [World.frozen?_setCell]; exact f1, by simp only [World.frozen?_setCell]; exact f2⟩
theorem L3.txt {B : Nat} {f t : Int} {s : ByteArray} {W : World} (h : L3 B f t s W) (s' : ByteArray) : L3 B f t s' (W.setCell ⟨B, 2, none⟩ (.string s')) := by
  obtain ⟨⟨h0, h1, h2, h3⟩, f0, f1, f2⟩ := h
  exact ⟨⟨by simp only [World.size_setCell]; exact h0, (set_off (by omega)).trans h1, (set_off (by omega)).trans h2, set_same (by rw [h3]; rfl)⟩, by simp only [World.frozen?_setCell]; exact f0, by simp only [World.frozen?_setCell]; exact f1, by simp only [World.frozen?_setCell]; exact f2⟩
/-- What stands while a letter is drawn: the reader, the answer's box H, the letter's box X. -/
def DL (H X B : Nat) (v : Value) (L : List UInt8) (p : Nat) (x : Lt) (W0 W : World) : Prop := RdAt B v L p W ∧ L3 H 0 0 ByteArray.empty W ∧ L3 X x.f x.t x.s W ∧ B < H ∧ H < X ∧ W0.heap.size ≤ H ∧ W0.grownBy W (some B)
theorem RdAt.alloc {B : Nat} {v : Value} {L : List UInt8} {p : Nat} {W : World} (h : RdAt B v L p W) (o : Obj) : RdAt B v L p (W.alloc o) := h.grown (World.grownBy_alloc W o none)
theorem RdAt.new {B : Nat} {v : Value} {L : List UInt8} {p : Nat} {W W' : World} {X : Nat} (h : RdAt B v L p W) (g : W.grownBy W' (some X)) (hX : B < X) : RdAt B v L p W' := h.row g (fun k e => by injection e with e; omega)
theorem DL.pick {H X B : Nat} {v : Value} {L : List UInt8} {p p' : Nat} {x : Lt} {W0 W W' : World} (h : DL H X B v L p x W0 W) (hr : RdAt B v L p' W') (g : W.grownBy W' (some B)) : DL H X B v L p' x W0 W' := by
  obtain ⟨h1, h2, h3, h4, h5, h6, h7⟩ := h
  exact ⟨hr, h2.grown g (fun e => by injection e with e; omega), h3.grown g (fun e => by injection e with e; omega), h4, h5, h6, h7.trans2 g⟩
theorem DL.alloc {H X B : Nat} {v : Value} {L : List UInt8} {p : Nat} {x : Lt} {W0 W : World} (h : DL H X B v L p x W0 W) (o : Obj) : DL H X B v L p x W0 (W.alloc o) := by
  obtain ⟨h1, h2, h3, h4, h5, h6, h7⟩ := h
  have hb : Below W.heap.size W (W.alloc o) := (Below.refl _ _).alloc (Nat.le_refl _) o
  exact ⟨h1.alloc o, h2.call hb, h3.call hb, h4, h5, h6, h7.allocs o⟩
theorem DL.at {H X B : Nat} {v : Value} {L : List UInt8} {p : Nat} {x x' : Lt} {W0 W W' : World} (h : DL H X B v L p x W0 W) (g : W.grownBy W' (some X)) (l : L3 X x'.f x'.t x'.s W') : DL H X B v L p x' W0 W' := by
  obtain ⟨h1, h2, h3, h4, h5, h6, h7⟩ := h
  exact ⟨h1.new g (by omega), h2.grown g (fun e => by injection e with e; omega), l, h4, h5, h6, grown_new h7 g (by omega)⟩
theorem DL.start {H B : Nat} {v : Value} {L : List UInt8} {p : Nat} {x : Lt} {W0 W : World} (h1 : RdAt B v L p W) (h2 : L3 H 0 0 ByteArray.empty W) (hB : B < H) (hg : W0.grownBy W (some B)) (t : TypeId) (hH : W0.heap.size = H := by rfl) : DL H W.heap.size B v L p x W0 (W.alloc (.cells #[Value.int IntKind.i64 (x).f, Value.int IntKind.i64 (x).t, Value.string (x).s] t)) := by
  have hb : Below W.heap.size W (W.alloc (.cells #[Value.int IntKind.i64 (x).f, Value.int IntKind.i64 (x).t, Value.string (x).s] t)) := (Below.refl _ _).alloc (Nat.le_refl _) _
  exact ⟨h1.alloc _, h2.call hb, L3.new W x.f x.t x.s t, hB, h2.1.1, by omega, hg.allocs _⟩
theorem DL.done {H X B : Nat} {v : Value} {L : List UInt8} {p : Nat} {x : Lt} {W0 W : World} (h : DL H X B v L p x W0 W) :
    RdAt B v L p (((W.setCell ⟨H, 0, none⟩ (.int .i64 x.f)).setCell ⟨H, 1, none⟩ (.int .i64 x.t)).setCell ⟨H, 2, none⟩ (.string x.s)) ∧ L3 H x.f x.t x.s (((W.setCell ⟨H, 0, none⟩ (.int .i64 x.f)).setCell ⟨H, 1, none⟩ (.int .i64 x.t)).setCell ⟨H, 2, none⟩ (.string x.s)) ∧ W0.grownBy (((W.setCell ⟨H, 0, none⟩ (.int .i64 x.f)).setCell ⟨H, 1, none⟩ (.int .i64 x.t)).setCell ⟨H, 2, none⟩ (.string x.s)) (some B) := by
  obtain ⟨h1, h2, h3, h4, h5, h6, h7⟩ := h
  have gp := grown_put3 W H (.int .i64 x.f) (.int .i64 x.t) (.string x.s)
  exact ⟨h1.new gp h4, h2.put, grown_new h7 gp h6⟩
set_option maxRecDepth 20000 in
set_option maxHeartbeats 2000000 in
theorem let6_is (B : Nat) (v : Value) (L : List UInt8) (p : Nat) (W : World) (h : RdAt B v L p W) (hp : p ≤ 800000) :
    Calls Try.prog 32 #[.pointer (some ⟨B, 0, none⟩)] W fun e w' => ∃ (x : Lt) (p' : Nat), x.s.size ≤ 100000 ∧ p' ≤ p + 10 ∧ e = .returned (.agg #[.int .i64 (x).f, .int .i64 (x).t, .string (x).s]) ∧ RdAt B v L p' w' ∧ W.grownBy w' (some B) := by
  have c5 := fun (V : World) (q : Nat) (h : RdAt B v L q V) (hq : q ≤ 900000) => pick_is B v L q V h (by omega) 5 (by omega) (by omega)
  have c3 := fun (V : World) (q : Nat) (h : RdAt B v L q V) (hq : q ≤ 900000) => pick_is B v L q V h (by omega) 3 (by omega) (by omega)
  have c2 := fun (V : World) (q : Nat) (h : RdAt B v L q V) (hq : q ≤ 900000) => pick_is B v L q V h (by omega) 2 (by omega) (by omega)
  have c24 := fun (V : World) (q : Nat) (h : RdAt B v L q V) (hq : q ≤ 900000) => pick_is B v L q V h (by omega) 24 (by omega) (by omega)
  have ct := fun (V : World) (q : Nat) (h : RdAt B v L q V) (hq : q ≤ 900000) => text_is B v L q V h (by omega) 3 (by omega)
  have cm : ∀ (r : Nat), (r : Int) < 2 → ∀ V : World, Calls Try.prog 44 #[.string (ByteArray.mk #[116]), .int .i64 (600 + (r : Int))] V fun e w' => ∃ S : ByteArray, S.size ≤ 100000 ∧ e = .returned (.string S) ∧ w' = V := fun r hr V => by
    have := many_is (ByteArray.mk #[116]) rfl (600 + r) (by omega) V
    rwa [show ((600 + r : Nat) : Int) = 600 + (r : Int) by omega] at this
  have hBW := h.1
  have h0 := h.alloc (.cells #[.int .i64 0, .int .i64 0, .string ByteArray.empty] 32)
  have l0 := L3.new W 0 0 ByteArray.empty 32
  have g0 := World.grownBy_alloc W (.cells #[.int .i64 0, .int .i64 0, .string ByteArray.empty] 32) (some B)
  clear h
  go_enter Try.func32, Try.ntmps32
  go_upto_region 3 with (first
    | (go_at_call_of 31 (Value.int IntKind.i64 24); refine (c24 _ p3 hD3.1 (by omega)).mono ?_; rintro e w4 ⟨r4, hr4, rfl, R4, g4⟩; have hD4 := hD3.pick R4 g4; obtain ⟨-, ⟨⟨-, a0, a1, a2⟩, a3, a4, a5⟩, ⟨⟨lX, b0, b1, b2⟩, b3, b4, b5⟩, -⟩ := id hD4; clear hD3 R4 g4 c24)
    | (go_at_call 43; refine (ct _ _ R2 (by omega)).mono ?_; rintro e w3 ⟨s3, p3, hs3, hp3, rfl, R3, g3⟩; have hD3 : DL W.heap.size w3.heap.size B v L p3 ⟨r1, r2, str s3⟩ W (w3.alloc (.cells #[.int .i64 (r1 : Int), .int .i64 (r2 : Int), .string (str s3)] 32)) := DL.start R3 (((l0.grown g1 (fun e => by injection e with e; omega)).grown g2 (fun e => by injection e with e; omega)).grown g3 (fun e => by injection e with e; omega)) hBW (((g0.trans2 g1).trans2 g2).trans2 g3) _; have hs3' : (str s3).size ≤ 100000 := (by show s3.toArray.size ≤ _; simp; omega); clear ct R3 R2 R1 h0 l0 g0 g1 g2 g3 c5)
    | (have hh := R1; go_at_call 31; refine (c5 _ _ R1 (by omega)).mono ?_; rintro e w2 ⟨r2, hr2, rfl, R2, g2⟩)
    | (go_at_call 31; refine (c5 _ _ h0 (by omega)).mono ?_; rintro e w1 ⟨r1, hr1, rfl, R1, g1⟩))
  have hHX : W.heap.size < w3.heap.size := hD4.2.2.2.2.1
  have hXH : w3.heap.size ≠ W.heap.size := by omega
  have hXH' : W.heap.size ≠ w3.heap.size := by omega
  have hr4' : r4 = 0 ∨ r4 = 1 ∨ r4 = 2 ∨ 2 < r4 := by omega
  rcases hr4' with rfl | rfl | rfl | hr4'
  · go_wp2_with (first
      | (go_at_call 44; refine (cm r5 hr5 _).mono ?_; rintro e w6 ⟨S, hS, rfl, hw6⟩; replace hw6 := hw6.symm; subst hw6)
      | (go_at_call 31; refine (c2 _ _ hD4.1 (by omega)).mono ?_; rintro e w5 ⟨r5, hr5, rfl, R5, g5⟩; have hD5 := hD4.pick R5 g5; have hw : IntKind.i64.wrap (600 + (r5 : Int)) = 600 + (r5 : Int) := IntWalk.i64_in _ (by omega); obtain ⟨-, ⟨⟨-, m0, m1, m2⟩, m3, m4, m5⟩, ⟨⟨-, n0, n1, n2⟩, n3, n4, n5⟩, -⟩ := id hD5; clear c2 c3))
    have hD6 := hD5.at (x' := ⟨r1, r2, S⟩) (grown_set w5 w3.heap.size 2 (.string S)) (hD5.2.2.1.txt S)
    obtain ⟨d1, ⟨⟨-, d2, d3, d4⟩, -, -, -⟩, d5⟩ := hD6.done
    refine bodyPost_ret (v := .agg #[.int .i64 (r1 : Int), .int .i64 (r2 : Int), .string S]) ?_ rfl ⟨⟨r1, r2, S⟩, _, hS, ?_, rfl, d1, d5⟩
    · simp [results, Try.results32, go_sem, d2, d3, d4]
    · omega
  · have hb4 : B < w4.heap.size := hD4.1.1
    have hA4 := hD4.alloc (.cells #[.int .i64 (-1), .int .i64 20, .int .i64 21] 3)
    go_wp2_with (go_at_call 31; refine (c3 _ _ hA4.1 (by omega)).mono ?_; rintro e w5 ⟨r5, hr5, rfl, R5, g5⟩; have hD5 := hA4.pick R5 g5; obtain ⟨y, hy⟩ := three_in w4 B r5 (by omega) w5 g5 hb4; have hr5' : (0 : Int) ≤ (r5 : Int) := (by omega); obtain ⟨-, ⟨⟨-, m0, m1, m2⟩, m3, m4, m5⟩, ⟨⟨-, n0, n1, n2⟩, n3, n4, n5⟩, -⟩ := id hD5; clear c2 c3 cm)
    have hD6 := hD5.at (x' := ⟨y, r2, str s3⟩) (grown_set w5 w3.heap.size 0 (.int .i64 y)) (hD5.2.2.1.one y)
    obtain ⟨d1, ⟨⟨-, d2, d3, d4⟩, -, -, -⟩, d5⟩ := hD6.done
    refine bodyPost_ret (v := .agg #[.int .i64 y, .int .i64 (r2 : Int), .string (str s3)]) ?_ rfl ⟨⟨y, r2, str s3⟩, _, hs3', ?_, rfl, d1, d5⟩
    · simp [results, Try.results32, go_sem, d2, d3, d4]
    · omega
  · have hb4 : B < w4.heap.size := hD4.1.1
    have hA4 := hD4.alloc (.cells #[.int .i64 (-1), .int .i64 20, .int .i64 21] 3)
    go_wp2_with (go_at_call 31; refine (c3 _ _ hA4.1 (by omega)).mono ?_; rintro e w5 ⟨r5, hr5, rfl, R5, g5⟩; have hD5 := hA4.pick R5 g5; obtain ⟨y, hy⟩ := three_in w4 B r5 (by omega) w5 g5 hb4; have hr5' : (0 : Int) ≤ (r5 : Int) := (by omega); obtain ⟨-, ⟨⟨-, m0, m1, m2⟩, m3, m4, m5⟩, ⟨⟨-, n0, n1, n2⟩, n3, n4, n5⟩, -⟩ := id hD5; clear c2 c3 cm)
    have hD6 := hD5.at (x' := ⟨r1, y, str s3⟩) (grown_set w5 w3.heap.size 1 (.int .i64 y)) (hD5.2.2.1.two y)
    obtain ⟨d1, ⟨⟨-, d2, d3, d4⟩, -, -, -⟩, d5⟩ := hD6.done
    refine bodyPost_ret (v := .agg #[.int .i64 (r1 : Int), .int .i64 y, .string (str s3)]) ?_ rfl ⟨⟨r1, y, str s3⟩, _, hs3', ?_, rfl, d1, d5⟩
    · simp [results, Try.results32, go_sem, d2, d3, d4]
    · omega
  · have e0 : ((r4 : Int) == 0) = false := by rw [beq_eq_false_iff_ne]; omega
    have e1 : ((r4 : Int) == 1) = false := by rw [beq_eq_false_iff_ne]; omega
    have e2 : ((r4 : Int) == 2) = false := by rw [beq_eq_false_iff_ne]; omega
    go_wp2_with fail
    obtain ⟨d1, ⟨⟨-, d2, d3, d4⟩, -, -, -⟩, d5⟩ := hD4.done
    refine bodyPost_ret (v := .agg #[.int .i64 (r1 : Int), .int .i64 (r2 : Int), .string (str s3)]) ?_ rfl ⟨⟨r1, r2, str s3⟩, _, hs3', ?_, rfl, d1, d5⟩
    · simp [results, Try.results32, go_sem, d2, d3, d4]
    · omega
end Go.Proofs.Ytnfnhgloblfgnaa
