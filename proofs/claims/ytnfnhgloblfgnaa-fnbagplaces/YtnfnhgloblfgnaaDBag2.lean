/-
  A bag drawn.
-/
import Derived.Test.YtnfnhgloblfgnaaDBag
import Derived.Test.YtnfnhgloblfgnaaJoinB38
import Derived.Deep.Cut
namespace Go.Proofs.Ytnfnhgloblfgnaa
open Go.RowKit

/-- What stands while a bag is drawn: the reader, the answer's box, the bag's box X, its row. -/
def DB (W : World) (X B : Nat) (v : Value) (L : List UInt8) (q : Nat) (m : Int) (Y : List Lt) (ob : Option Addr) (cq : Nat) (wx : World) : Prop :=
  RdAt B v L q wx ∧ C2 W.heap.size (.int .i64 0) (.slice none 0 0) wx ∧ C2 X (.int .i64 m) (.slice ob Y.length cq) wx ∧ wx.ownsRow (X + 1) 32 3 (.slice ob Y.length cq) Y.length (lcs Y) ∧ B < W.heap.size ∧ W.heap.size < X ∧ W.grownBy wx (some B) ∧ ∀ l ∈ Y, l.s.size ≤ 100000
theorem DB.pick {W : World} {X B : Nat} {v : Value} {L : List UInt8} {q q' : Nat} {m : Int} {Y : List Lt} {ob : Option Addr} {cq : Nat} {w1 w2 : World} (h : DB W X B v L q m Y ob cq w1) (hr : RdAt B v L q' w2) (g : w1.grownBy w2 (some B)) : DB W X B v L q' m Y ob cq w2 := by
  obtain ⟨h1, h2, h3, h4, h5, h6, h7, h8⟩ := h
  exact ⟨hr, h2.grown g (fun e => by injection e with e; omega), h3.grown g (fun e => by injection e with e; omega), own_far h4 g (by omega), h5, h6, h7.trans2 g, h8⟩
theorem DB.alloc {W : World} {X B : Nat} {v : Value} {L : List UInt8} {q : Nat} {m : Int} {Y : List Lt} {ob : Option Addr} {cq : Nat} {w1 : World} (h : DB W X B v L q m Y ob cq w1) (o : Obj) : DB W X B v L q m Y ob cq (w1.alloc o) := by
  obtain ⟨h1, h2, h3, h4, h5, h6, h7, h8⟩ := h
  exact ⟨h1.alloc o, h2.alloc o, h3.alloc o, h4.alloc o, h5, h6, h7.allocs o, h8⟩
theorem DB.drew {W : World} {X B : Nat} {v : Value} {L : List UInt8} {q : Nat} {m : Int} {Y : List Lt} {ob : Option Addr} {cq : Nat} {w1 : World} (h : DB W X B v L q m Y ob cq w1) : DB W X B v L q m Y ob cq w1.drew := by
  obtain ⟨h1, h2, h3, h4, h5, h6, h7, h8⟩ := h
  exact ⟨h1.drew, h2.call (Below.refl _ _).drew, h3.call (Below.refl _ _).drew, own_callL h4 (Below.refl _ _).drew, h5, h6, h7.drews, h8⟩
theorem DB.call {W : World} {X B : Nat} {v : Value} {L : List UInt8} {q : Nat} {m : Int} {Y : List Lt} {ob : Option Addr} {cq : Nat} {w1 w2 : World} (h : DB W X B v L q m Y ob cq w1) (hb : Below w1.heap.size w1 w2) : DB W X B v L q m Y ob cq w2 := by
  obtain ⟨h1, h2, h3, h4, h5, h6, h7, h8⟩ := h
  exact ⟨h1.row (grown_any hb none) (fun k e => by cases e), h2.call hb, h3.call hb, own_callL h4 hb, h5, h6, h7.trans2 (grown_any hb _), h8⟩
theorem C2.fst {B : Nat} {x y : Value} {W : World} (h : C2 B x y W) (z : Value) : C2 B z y (W.setCell ⟨B, 0, none⟩ z) := by
  obtain ⟨x0, x1, x2, x3, x4⟩ := h
  refine ⟨by simpa using x0, ?_, ?_, ?_, ?_⟩ <;> simp [go_sem, x1, x2, x3, x4]
theorem DB.room {W : World} {X B : Nat} {v : Value} {L : List UInt8} {q : Nat} {m : Int} {Y : List Lt} {ob : Option Addr} {cq : Nat} {w1 : World} (h : DB W X B v L q m Y ob cq w1) (m' : Int) : DB W X B v L q m' Y ob cq (w1.setCell ⟨X, 0, none⟩ (.int .i64 m')) := by
  obtain ⟨h1, h2, h3, h4, h5, h6, h7, h8⟩ := h
  have gs := grown_set w1 X 0 (.int .i64 m')
  exact ⟨h1.new gs (by omega), h2.grown gs (fun e => by injection e with e; omega), h3.fst _, h4.kept gs (.inr (fun e => by have := (h4.lt _ e).1; omega)), h5, h6, grown_new h7 gs (by omega), h8⟩
theorem DB.more {W : World} {X B : Nat} {v : Value} {L : List UInt8} {q : Nat} {m : Int} {Y : List Lt} {x : Lt} {ob : Option Addr} {cq : Nat} {w1 w2 : World} {v' : Value} (h : DB W X B v L q m Y ob cq w1) (hx : x.s.size ≤ 100000)
    (ho : w2.ownsRow (X + 1) 32 3 v' (Y.length + 1) (lcs Y ++ lc x)) (hg : w1.grownBy w2 (Value.slice ob Y.length cq).ownBlock) :
    ∃ oc cp, v' = .slice oc (Y.length + 1) cp ∧ C2 X (.int .i64 m) (.slice ob Y.length cq) w2 ∧ DB W X B v L q m (Y ++ [x]) oc cp (w2.setCell ⟨X, 1, none⟩ (.slice oc (Y.length + 1) cp)) := by
  obtain ⟨h1, h2, h3, h4, h5, h6, h7, h8⟩ := h
  obtain ⟨oc, cp, rfl⟩ := owl_len ho
  have n1 : ∀ j, (Value.slice ob Y.length cq).ownBlock = some j → X + 1 ≤ j := fun j e => (h4.lt _ e).1
  have n2 : ∀ j, (Value.slice oc (Y.length + 1) cp).ownBlock = some j → X + 1 ≤ j := fun j e => (ho.lt _ e).1
  have gs := grown_set w2 X 1 (.slice oc (Y.length + 1) cp)
  have g3 := h3.grown hg (fun e => by have := n1 _ e; omega)
  refine ⟨oc, cp, rfl, g3, (h1.row hg (fun k e => by have := n1 _ e; omega)).new gs (by omega), (h2.grown hg (fun e => by have := n1 _ e; omega)).grown gs (fun e => by injection e with e; omega), ?_, ?_, h5, h6, grown_new (grown_row h7 hg (fun k e => by have := n1 _ e; omega)) gs (by omega), fun l hl => ?_⟩
  · rw [List.length_append]; exact g3.snd _
  · have := ho.kept gs (.inr (fun e => by have := n2 _ e; omega))
    rw [List.length_append, lcs_append]
    simpa [lcs] using this
  · rcases List.mem_append.1 hl with hl | hl
    · exact h8 l hl
    · rw [List.mem_singleton] at hl; subst hl; exact hx
theorem DB.done {W : World} {X B : Nat} {v : Value} {L : List UInt8} {q : Nat} {m : Int} {Y : List Lt} {ob : Option Addr} {cq : Nat} {w1 : World} (h : DB W X B v L q m Y ob cq w1) :
    RdAt B v L q ((w1.setCell ⟨W.heap.size, 0, none⟩ (.int .i64 m)).setCell ⟨W.heap.size, 1, none⟩ (.slice ob Y.length cq)) ∧ C2 W.heap.size (.int .i64 m) (.slice ob Y.length cq) ((w1.setCell ⟨W.heap.size, 0, none⟩ (.int .i64 m)).setCell ⟨W.heap.size, 1, none⟩ (.slice ob Y.length cq)) ∧ ((w1.setCell ⟨W.heap.size, 0, none⟩ (.int .i64 m)).setCell ⟨W.heap.size, 1, none⟩ (.slice ob Y.length cq)).ownsRow W.heap.size 32 3 (.slice ob Y.length cq) Y.length (lcs Y) ∧ W.grownBy ((w1.setCell ⟨W.heap.size, 0, none⟩ (.int .i64 m)).setCell ⟨W.heap.size, 1, none⟩ (.slice ob Y.length cq)) (some B) := by
  obtain ⟨h1, h2, h3, h4, h5, h6, h7, h8⟩ := h
  have gp := grown_put w1 W.heap.size (.int .i64 m) (.slice ob Y.length cq)
  exact ⟨h1.new gp h5, h2.put, own_down (h4.kept gp (.inr (fun e => by have := (h4.lt _ e).1; omega))) (by omega), grown_new h7 gp (Nat.le_refl _)⟩
set_option maxRecDepth 20000 in
set_option maxHeartbeats 4000000 in
theorem bag6_is (B : Nat) (v : Value) (L : List UInt8) (p : Nat) (W : World) (h : RdAt B v L p W) (hp : p ≤ 100000) :
    Calls Try.prog 19 #[.pointer (some ⟨B, 0, none⟩)] W fun e w' => ∃ (m : Int) (ob : Option Addr) (cq : Nat) (Y : List Lt) (p' : Nat), e = .returned (.agg #[.int .i64 m, .slice ob Y.length cq]) ∧ Y.length ≤ 66 ∧ (∀ l ∈ Y, l.s.size ≤ 100000) ∧ p' ≤ p + 1000 ∧ RdAt B v L p' w' ∧ w'.ownsRow W.heap.size 32 3 (.slice ob Y.length cq) Y.length (lcs Y) ∧ W.grownBy w' (some B) := by
  obtain ⟨i0, hi, hz0, hz1, hz2⟩ := info_parts infoL
  have c8 := fun (V : World) (q : Nat) (h : RdAt B v L q V) (hq : q ≤ 900000) => pick_is B v L q V h (by omega) 8 (by omega) (by omega)
  have cn := fun (V : World) (q : Nat) (h : RdAt B v L q V) (hq : q ≤ 900000) (n : Int) (h1 : 1 ≤ n) (h2 : n ≤ 1000) => pick_is B v L q V h (by omega) n h1 (by omega)
  have cl := fun (V : World) (q : Nat) (h : RdAt B v L q V) (hq : q ≤ 800000) => let6_is B v L q V h hq
  have hBW := h.1
  have h0 := h.alloc (.cells #[.int .i64 0, .slice none 0 0] 25)
  have l0 := C2.new W (.int .i64 0) (.slice none 0 0) 25
  have g0 := World.grownBy_alloc W (.cells #[.int .i64 0, .slice none 0 0] 25) (some B)
  clear h
  go_enter Try.func19, Try.ntmps19
  go_upto_region 2 with (go_at_call 31; refine (c8 _ _ h0 (by omega)).mono ?_; rintro e w1 ⟨r1, hr1, rfl, R1, g1⟩; have hw : IntKind.i64.wrap (1 + (r1 : Int)) = 1 + (r1 : Int) := IntWalk.i64_in _ (by omega))
  have hD1 : DB W w1.heap.size B v L (p + 1) (1 + (r1 : Int)) [] none 0 (w1.alloc (.cells #[.int .i64 (1 + (r1 : Int)), .slice none 0 0] 25)) :=
    ⟨R1.alloc _, (l0.grown g1 (fun e => by injection e with e; omega)).alloc _, C2.new w1 _ _ _, World.ownsRow_nil _ _ _ _, hBW, (l0.grown g1 (fun e => by injection e with e; omega)).1, (g0.trans2 g1).allocs _, fun l hl => by simp at hl⟩
  obtain ⟨X, hX⟩ : ∃ X, X = w1.heap.size := ⟨_, rfl⟩
  rw [← hX] at hD1 ⊢
  obtain ⟨M, hM⟩ : ∃ M : Int, M = 1 + (r1 : Int) := ⟨_, rfl⟩
  have hM1 : 1 ≤ M ∧ M ≤ 8 := by omega
  rw [← hM] at hD1 ⊢
  generalize w1.alloc (.cells #[.int .i64 M, .slice none 0 0] 25) = V at hD1 ⊢
  clear R1 g1 l0 g0 h0 hw hX hM c8
  obtain ⟨-, -, ⟨lX, x0, x1, x2, x3⟩, -⟩ := id hD1
  have hw2 : IntKind.i64.wrap (M + 1) = M + 1 := IntWalk.i64_in _ (by omega)
  go_upto_if 18 with (first
    | (go_at_call_of 31 (Value.int IntKind.i64 4); refine (cn _ _ hD2.1 (by omega) 4 (by omega) (by omega)).mono ?_; rintro e w3 ⟨r3, hr3, rfl, R3, g3⟩; have hD3 := hD2.pick R3 g3; obtain ⟨-, -, ⟨-, b0, b1, b2, b3⟩, -⟩ := id hD3; clear hD2)
    | (go_at_call 31; refine (cn _ _ hD1.1 (by omega) (M + 1) (by omega) (by omega)).mono ?_; rintro e w2 ⟨r2, hr2, rfl, R2, g2⟩; have hD2 := hD1.pick R2 g2; clear hD1 x0 x1 x2 x3))
  go_cut [4] from 19 to 20 (fun nv wx => ∃ k : Nat, nv = .int .i64 (k : Int) ∧ k ≤ 8 ∧ wx = w3)
  case first =>
    go_wp2_with fail
    · go_meet
      exact ⟨M.toNat, (by rw [Int.toNat_of_nonneg (by omega)]), by omega, rfl⟩
    · go_meet
      exact ⟨r2, rfl, by omega, rfl⟩
  case rest =>
    obtain ⟨k1, rfl, hk1, rfl⟩ := hcut
    go_upto_if 23 with (go_at_call 31; refine (cn _ _ hD3.1 (by omega) 24 (by omega) (by omega)).mono ?_; rintro e w4 ⟨r4, hr4, rfl, R4, g4⟩; have hD4 := hD3.pick R4 g4; obtain ⟨-, -, ⟨-, d0, d1, d2, d3⟩, -⟩ := id hD4; clear hD3 b0 b1 b2 b3)
    go_cut [4] from 21 to 29 (fun nv wx => ∃ (k : Nat) (m : Int) (q : Nat), nv = .int .i64 (k : Int) ∧ k ≤ 65 ∧ q ≤ p + 10 ∧ Hid (DB W X B v L q m [] none 0 wx))
    case first =>
      go_wp2_with (go_at_call 31; refine (cn _ _ hD4.1 (by omega) 2 (by omega) (by omega)).mono ?_; rintro e w5 ⟨r5, hr5, rfl, R5, g5⟩; have hD5 := hD4.pick R5 g5; have hw5 : IntKind.i64.wrap (64 + (r5 : Int)) = 64 + (r5 : Int) := IntWalk.i64_in _ (by omega); obtain ⟨-, -, ⟨-, e0, e1, e2, e3⟩, -⟩ := id hD5)
      · go_meet
        exact ⟨64 + r5, _, _, (by congr 1), by omega, by omega, hD5.room (64 + (r5 : Int))⟩
      · go_meet
        exact ⟨k1, _, _, rfl, by omega, by omega, hD4⟩
    case rest =>
      obtain ⟨k, m, q, rfl, hk, hq, HD⟩ := hcut
      obtain ⟨-, -, ⟨-, x0, x1, x2, x3⟩, -⟩ := id HD.out
      clear hD4 d0 d1 d2 d3
      go_wp2_with fail
      go_loopw [5] (fun i wr => ∃ (j : Nat) (Y : List Lt) (ob : Option Addr) (cq : Nat) (q2 : Nat), j ≤ k ∧ Hid (Y.length = j) ∧ i = .int .i64 (j : Int) ∧ q2 ≤ p + 10 + 10 * j ∧ Hid (DB W X B v L q2 m Y ob cq wr)) (fun i _ => k - (intOf i).toNat)
      case atStart => exact ⟨0, [], none, 0, q, by omega, rfl, rfl, by omega, HD⟩
      case round =>
        obtain ⟨j, Y, ob, cq, q2, hj, HYl, rfl, hq2, HW⟩ := hrel
        obtain ⟨hR, ⟨lH, z0, z1, z2, z3⟩, ⟨-, y0, y1, y2, y3⟩, ho, -⟩ := id HW.out
        by_cases hlj : j < k
        · have hjI : (j : Int) < (k : Int) := by omega
          have hYl := HYl.out
          have hXs : X < wr.heap.size := HW.out.2.2.1.1
          have HC : Hid (∀ V, DB W X B v L q2 m Y ob cq V → Calls Try.prog 32 #[.pointer (some ⟨B, 0, none⟩)] V fun e w' => ∃ (x : Lt) (p' : Nat), x.s.size ≤ 100000 ∧ p' ≤ q2 + 10 ∧ e = .returned (.agg #[.int .i64 (x).f, .int .i64 (x).t, .string (x).s]) ∧ DB W X B v L p' m Y ob cq w') := fun V hV => (cl V q2 hV.1 (by omega)).mono (fun e w' ⟨x, p', h1, h2, h3, h4, h5⟩ => ⟨x, p', h1, h2, h3, hV.pick h4 h5⟩)
          have HM : Hid (∀ (x : Lt) (p' : Nat) (A C : World) (v' : Value), x.s.size ≤ 100000 → DB W X B v L p' m Y ob cq A → C.ownsRow (X + 1) 32 3 v' (Y.length + 1) (lcs Y ++ lc x) → A.grownBy C (Value.slice ob Y.length cq).ownBlock → ∃ oc cp, v' = .slice oc (Y.length + 1) cp ∧ C2 X (.int .i64 m) (.slice ob Y.length cq) C ∧ DB W X B v L p' m (Y ++ [x]) oc cp (C.setCell ⟨X, 1, none⟩ (.slice oc (Y.length + 1) cp))) := fun x p' A C v' hx hA ho hg => hA.more hx ho hg
          have hlk : (lcs Y).length = Y.length * 3 := lcs_len Y
          obtain ⟨n, hn⟩ : ∃ n, n = Y.length := ⟨_, rfl⟩
          have hn66 : n ≤ 66 := by omega
          have HNn : Hid (n = Y.length) := hn
          have HO : Hid (∀ A, (∃ p', DB W X B v L p' m Y ob cq A) → A.ownsRow (X + 1) 32 3 (.slice ob Y.length cq) Y.length (lcs Y)) := fun A ⟨p', h⟩ => h.2.2.2.1
          rw [← hn] at y1 hlk HM HO
          clear hYl hn ho hR lH HD
          go_wp2_with fail
          go_region_law (first
            | (go_simp; go_at_call 32; refine (HC.out _ (HW.out.call (by repeat' (first | (with_reducible exact Below.refl _ _) | (with_reducible assumption) | (with_reducible refine below_drewN ?_ _) | (with_reducible refine Below.setCell ?_ ?_ _) | (with_reducible refine Below.alloc ?_ ?_ _) | (with_reducible refine Below.drew ?_) | go_size)))).mono ?_; rintro e w6 ⟨x, p', hx, hp', rfl, hD6⟩; have hX6 : X < w6.heap.size := hD6.2.2.1.1; obtain ⟨-, -, ⟨-, f0, f1, f2, f3⟩, -⟩ := id hD6; rw [← HNn.out] at f1; go_simp)
            | (refine step_append_lies _ rfl (.tmp 36) (.tmp 39) 23 rfl (X + 1) 32 i0 _ 3 32 Try.underlying23 hi hz0 hz1 hz2 rfl (by decide) (.slice ob n cq) n (lcs Y) (by simp [Act.eval]) (HO.out _ ⟨p', hD6.call (by repeat' (first | (with_reducible exact Below.refl _ _) | (with_reducible assumption) | (with_reducible refine below_drewN ?_ _) | (with_reducible refine Below.setCell ?_ ?_ _) | (with_reducible refine Below.alloc ?_ ?_ _) | (with_reducible refine Below.drew ?_) | go_size))⟩) ⟨w6.heap.size, 0, none⟩ 1 1 (lc x) (by simp [Act.eval]) rfl (lc_cells (by simp [go_sem]) (by simp [go_sem]) (by simp [go_sem])) lc_one (by decide) (by unfold maxLen; omega) (by omega) (by simp; omega) _ rfl ?_; intro g cp w7 ho7 hg7 hat7 hlt7; obtain ⟨oc, cp', hv, ⟨-, h0, h1, h2, h3⟩, HN⟩ := HM.out x p' _ w7 _ hx (hD6.call (by repeat' (first | (with_reducible exact Below.refl _ _) | (with_reducible assumption) | (with_reducible refine below_drewN ?_ _) | (with_reducible refine Below.setCell ?_ ?_ _) | (with_reducible refine Below.alloc ?_ ?_ _) | (with_reducible refine Below.drew ?_) | go_size))) ho7 hg7; injection hv with hv1 hv2 hv3; subst hv1 hv3; clear hat7))
          all_goals (go_wp2_with fail)
          all_goals go_roundw
          all_goals try (case measure => simp [intOf]; omega)
          all_goals (case rel => exact ⟨j + 1, Y ++ [x], _, _, p', by omega, (by show (Y ++ [x]).length = j + 1; have := HYl.out; simp; omega), by go_num, by omega, HN⟩)
        · have hjk : j = k := by omega
          subst hjk
          have hYl := HYl.out
          clear ho hR lH HD y0 y1 y2 y3 z0 z1 z2 z3
          go_upto_region 13 with (go_at_call 31; refine (cn _ _ HW.out.1 (by omega) 20 (by omega) (by omega)).mono ?_; rintro e w6 ⟨r6, hr6, rfl, R6, g6⟩; have hD6 := HW.out.pick R6 g6; obtain ⟨-, ⟨-, z0, z1, z2, z3⟩, ⟨lX6, y0, y1, y2, y3⟩, -⟩ := id hD6)
          have hHX : W.heap.size < X := hD6.2.2.2.2.2.1
          have hXH : X ≠ W.heap.size := by omega
          have hXH' : W.heap.size ≠ X := by omega
          have hr6' : r6 = 0 ∨ r6 = 1 ∨ 1 < r6 := by omega
          rcases hr6' with rfl | rfl | hr6'
          · have HC : Hid (∀ V, DB W X B v L (q2 + 1) m Y ob cq V → Calls Try.prog 32 #[.pointer (some ⟨B, 0, none⟩)] V fun e w' => ∃ (x : Lt) (p' : Nat), x.s.size ≤ 100000 ∧ p' ≤ (q2 + 1) + 10 ∧ e = .returned (.agg #[.int .i64 (x).f, .int .i64 (x).t, .string (x).s]) ∧ DB W X B v L p' m Y ob cq w') := fun V hV => (cl V (q2 + 1) hV.1 (by omega)).mono (fun e w' ⟨x, p', h1, h2, h3, h4, h5⟩ => ⟨x, p', h1, h2, h3, hV.pick h4 h5⟩)
            have HM : Hid (∀ (x : Lt) (p' : Nat) (A C : World) (v' : Value), x.s.size ≤ 100000 → DB W X B v L p' m Y ob cq A → C.ownsRow (X + 1) 32 3 v' (Y.length + 1) (lcs Y ++ lc x) → A.grownBy C (Value.slice ob Y.length cq).ownBlock → ∃ oc cp, v' = .slice oc (Y.length + 1) cp ∧ C2 X (.int .i64 m) (.slice ob Y.length cq) C ∧ C2 W.heap.size (.int .i64 0) (.slice none 0 0) (C.setCell ⟨X, 1, none⟩ (.slice oc (Y.length + 1) cp)) ∧ C2 X (.int .i64 m) (.slice oc (Y.length + 1) cp) (C.setCell ⟨X, 1, none⟩ (.slice oc (Y.length + 1) cp)) ∧ DB W X B v L p' m (Y ++ [x]) oc cp (C.setCell ⟨X, 1, none⟩ (.slice oc (Y.length + 1) cp))) := fun x p' A C v' hx hA ho hg => by
              obtain ⟨oc, cp, h1, h2, h3⟩ := hA.more hx ho hg
              refine ⟨oc, cp, h1, h2, h3.2.1, ?_, h3⟩
              have := h3.2.2.1
              rwa [List.length_append] at this
            have HO : Hid (∀ A, (∃ p', DB W X B v L p' m Y ob cq A) → A.ownsRow (X + 1) 32 3 (.slice ob Y.length cq) Y.length (lcs Y)) := fun A ⟨p', h⟩ => h.2.2.2.1
            have hlk : (lcs Y).length = Y.length * 3 := lcs_len Y
            obtain ⟨n, hn⟩ : ∃ n, n = Y.length := ⟨_, rfl⟩
            have hn66 : n ≤ 66 := by omega
            have HNn : Hid (n = Y.length) := hn
            have HYl2 : Hid (Y.length ≤ 65) := by show _ ≤ _; omega
            rw [← hn] at y1 hlk HM HO
            clear hYl hn HYl
            go_wp2_with fail
            go_region_law (first
              | (go_simp; go_at_call 32; refine (HC.out _ (hD6.call (by repeat' (first | (with_reducible exact Below.refl _ _) | (with_reducible assumption) | (with_reducible refine below_drewN ?_ _) | (with_reducible refine Below.setCell ?_ ?_ _) | (with_reducible refine Below.alloc ?_ ?_ _) | (with_reducible refine Below.drew ?_) | go_size)))).mono ?_; rintro e w7 ⟨x, p', hx, hp', rfl, hD7⟩; have hX7 : X < w7.heap.size := hD7.2.2.1.1; obtain ⟨-, -, ⟨-, f0, f1, f2, f3⟩, -⟩ := id hD7; rw [← HNn.out] at f1; go_simp)
              | (refine step_append_lies _ rfl (.tmp 47) (.tmp 50) 23 rfl (X + 1) 32 i0 _ 3 32 Try.underlying23 hi hz0 hz1 hz2 rfl (by decide) (.slice ob n cq) n (lcs Y) (by simp [Act.eval]) (HO.out _ ⟨p', hD7.call (by repeat' (first | (with_reducible exact Below.refl _ _) | (with_reducible assumption) | (with_reducible refine below_drewN ?_ _) | (with_reducible refine Below.setCell ?_ ?_ _) | (with_reducible refine Below.alloc ?_ ?_ _) | (with_reducible refine Below.drew ?_) | go_size))⟩) ⟨w7.heap.size, 0, none⟩ 1 1 (lc x) (by simp [Act.eval]) rfl (lc_cells (by simp [go_sem]) (by simp [go_sem]) (by simp [go_sem])) lc_one (by decide) (by unfold maxLen; omega) (by omega) (by simp; omega) _ rfl ?_; intro g cp w8 ho8 hg8 hat8 hlt8; obtain ⟨oc, cp', hv, ⟨-, h0, h1, h2, h3⟩, ⟨-, k0, k1, k2, k3⟩, ⟨-, l0, l1, l2, l3⟩, HN⟩ := HM.out x p' _ w8 _ hx (hD7.call (by repeat' (first | (with_reducible exact Below.refl _ _) | (with_reducible assumption) | (with_reducible refine below_drewN ?_ _) | (with_reducible refine Below.setCell ?_ ?_ _) | (with_reducible refine Below.alloc ?_ ?_ _) | (with_reducible refine Below.drew ?_) | go_size))) ho8 hg8; injection hv with hv1 hv2 hv3; subst hv1 hv3; clear hat8))
            all_goals (go_wp2_with fail)
            all_goals
              have hnY : (Y ++ [x]).length = n + 1 := by rw [List.length_append, HNn.out]; rfl
              have hF := HN.done
              rw [hnY] at hF
              obtain ⟨d1, ⟨-, d2, d3, -, -⟩, d4, d5⟩ := hF
              have hY8 := HN.2.2.2.2.2.2.2
              refine bodyPost_ret (v := .agg #[.int .i64 m, .slice (some ⟨g, 0, none⟩) (n + 1) cp]) ?_ rfl ⟨m, _, _, Y ++ [x], (by rw [hnY]), (by have := HYl2.out; rw [List.length_append]; simp; omega), hY8, p', (by omega), d1, (by rw [hnY]; exact d4), d5⟩
              simp [results, Try.results19, go_sem, d2, d3]
          · clear hYl
            have hw7 : ∀ r7 : Nat, (r7 : Int) < 2 → IntKind.i64.wrap (-(r7 : Int)) = -(r7 : Int) := fun r7 h => IntWalk.i64_in _ (by omega)
            go_wp2_with (go_at_call 31; refine (cn _ _ hD6.1 (by omega) 2 (by omega) (by omega)).mono ?_; rintro e w7 ⟨r7, hr7, rfl, R7, g7⟩; have hD7 := hD6.pick R7 g7; have hw8 := hw7 r7 hr7; obtain ⟨-, ⟨-, k0, k1, k2, k3⟩, ⟨-, l0, l1, l2, l3⟩, -⟩ := id hD7)
            have hD8 := hD7.room (-(r7 : Int))
            obtain ⟨d1, ⟨-, d2, d3, -, -⟩, d4, d5⟩ := hD8.done
            refine bodyPost_ret (v := .agg #[.int .i64 (-(r7 : Int)), .slice ob Y.length cq]) ?_ rfl ⟨_, _, _, Y, _, rfl, (by have := HYl.out; omega), hD8.2.2.2.2.2.2.2, ?_, d1, d4, d5⟩
            · simp [results, Try.results19, go_sem, d2, d3]
            · omega
          · clear hYl
            have e0 : ((r6 : Int) == 0) = false := by rw [beq_eq_false_iff_ne]; omega
            have e1 : ((r6 : Int) == 1) = false := by rw [beq_eq_false_iff_ne]; omega
            go_wp2_with fail
            obtain ⟨d1, ⟨-, d2, d3, -, -⟩, d4, d5⟩ := hD6.done
            refine bodyPost_ret (v := .agg #[.int .i64 m, .slice ob Y.length cq]) ?_ rfl ⟨_, _, _, Y, _, rfl, (by have := HYl.out; omega), hD6.2.2.2.2.2.2.2, ?_, d1, d4, d5⟩
            · simp [results, Try.results19, go_sem, d2, d3]
            · omega
end Go.Proofs.Ytnfnhgloblfgnaa
