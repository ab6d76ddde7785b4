/-
  Whether a slot is right, on both sides.
-/
import Derived.Test.YteaaaojafipllaaDoorLawSS
namespace Go.Proofs.YteaaaojafipllaaDoor
open Go.RowKit Go.MuLone

/-- A number of a slot within its bounds. -/
def bnd (x : UInt64) (y : Int) : Bool := decide (1 ≤ (x.toNat : Int) ∧ (x.toNat : Int) ≤ y)
/-- Whether a slot is right. -/
def slok (s : Sl) : Bool := decide (s.m = sumOf s) && (bnd s.q 1000000000 && bnd s.z 256)
theorem from_is (x : UInt64) (y : Int) (w : World) :
    Calls Tryd.prog 51 #[.int .u64 ((x).toNat : Int), .int .u64 y] w fun e w' => e = .returned (.bool (bnd x y)) ∧ w' = w := by
  unfold bnd
  generalize (x.toNat : Int) = n
  by_cases h1 : 1 ≤ n
  · by_cases h2 : n ≤ y
    · go_enter Tryd.func51, Tryd.ntmps51
      go_wp2
      go_ret
      exact ⟨by simp [h1, h2], rfl⟩
    · go_enter Tryd.func51, Tryd.ntmps51
      go_wp2
      go_ret
      exact ⟨by simp [h2], rfl⟩
  · go_enter Tryd.func51, Tryd.ntmps51
    go_wp2
    go_ret
    exact ⟨by rw [decide_eq_false (show ¬ 1 ≤ n by omega)]; rfl, rfl⟩
/-- What stands when a reader's words were asked for: their box X. -/
def RW (w : World) (X B : Nat) (s : Sl) (W : World) : Prop := SB X s W ∧ Rr B s 1 0 s W ∧ w.grownBy W (some B) ∧ X ≠ B
theorem RW.step {w W W' : World} {X B : Nat} {s : Sl} (h : RW w X B s W) (hr : Rr B s 1 0 s W') (hg : W.grownBy W' (some B)) : RW w X B s W' :=
  ⟨h.1.grown hg (fun e => by injection e with e; exact h.2.2.2 e.symm), hr, h.2.2.1.trans2B hg, h.2.2.2⟩
theorem RW.drew {w W : World} {X B : Nat} {s : Sl} (h : RW w X B s W) : RW w X B s W.drew := ⟨h.1.call ((Below.refl _ _).drew), h.2.1.drew, grownB_drew h.2.2.1, h.2.2.2⟩

set_option maxRecDepth 100000 in
set_option maxHeartbeats 1600000 in
theorem right_is (B : Nat) (s t : Sl) (k : Int) (w : World) (h : Rr B s k 0 t w) (hk : k = 0 ∨ k = 1 ∧ t = s) :
    Calls Tryd.prog 45 #[.pointer (some ⟨B, 0, none⟩)] w fun e w' => e = .returned (.bool (slok s)) ∧ Rr B s 1 0 s w' ∧ w.grownBy w' (some B) := by
  have hB := h.cell
  have cw := words_any B s t k w h hk
  have cs := fun (W : World) (h : Rr B s 1 0 s W) => sum_is B s s 1 W h (.inr ⟨rfl, rfl⟩)
  have cq := fun W : World => from_is s.q 1000000000 W
  have cz := fun W : World => from_is s.z 256 W
  unfold slok
  generalize bnd s.q 1000000000 = bq at cq
  generalize bnd s.z 256 = bz at cz
  clear h hk
  by_cases he : s.m = sumOf s
  · have hq : ((s.m.toNat : Int) == ((sumOf s).toNat : Int)) = true := by rw [← he]; simp
    have hd : decide (s.m = sumOf s) = true := decide_eq_true he
    rw [hd, Bool.true_and]
    generalize sumOf s = y at cs hq
    clear he hd
    cases bq with
    | true =>
      go_enter Tryd.func45, Tryd.ntmps45
      go_wp2_with (go_at_call 49; refine cw.mono ?_; rintro e w1 ⟨rfl, h1, g1⟩; clear cw)
      have hb1 : Below w1.heap.size w1 (w1.alloc (.cells #[Value.int IntKind.u64 ((s).m.toNat : Int), Value.int IntKind.u64 ((s).q.toNat : Int), Value.int IntKind.u64 ((s).z.toNat : Int), Value.int IntKind.u64 ((s).r.a.toNat : Int), Value.int IntKind.u64 ((s).r.b.toNat : Int), Value.int IntKind.u64 ((s).r.c.toNat : Int), Value.int IntKind.u64 ((s).r.d.toNat : Int)] 112)) := (Below.refl _ _).alloc (Nat.le_refl _) _
      have HT : RW w w1.heap.size B s (w1.alloc (.cells #[Value.int IntKind.u64 ((s).m.toNat : Int), Value.int IntKind.u64 ((s).q.toNat : Int), Value.int IntKind.u64 ((s).z.toNat : Int), Value.int IntKind.u64 ((s).r.a.toNat : Int), Value.int IntKind.u64 ((s).r.b.toNat : Int), Value.int IntKind.u64 ((s).r.c.toNat : Int), Value.int IntKind.u64 ((s).r.d.toNat : Int)] 112)) := ⟨SB.new w1 s _, h1.call hb1, grownBy_new g1 (World.grownBy_alloc w1 _ none) (fun k e => by cases e), by have := h1.cell; omega⟩
      have hX := HT.2.2.2
      clear h1 g1 hb1
      generalize w1.alloc (.cells #[Value.int IntKind.u64 ((s).m.toNat : Int), Value.int IntKind.u64 ((s).q.toNat : Int), Value.int IntKind.u64 ((s).z.toNat : Int), Value.int IntKind.u64 ((s).r.a.toNat : Int), Value.int IntKind.u64 ((s).r.b.toNat : Int), Value.int IntKind.u64 ((s).r.c.toNat : Int), Value.int IntKind.u64 ((s).r.d.toNat : Int)] 112) = V at HT ⊢
      generalize w1.heap.size = X at HT hX ⊢
      obtain ⟨⟨-, a0, a1, a2, -, -, -, -⟩, -⟩ := id HT
      go_region_held3 (fun w' => w'.cell? ⟨X, 0, none⟩ = some (.int .u64 ((s.m).toNat : Int)) ∧ w'.cell? ⟨X, 1, none⟩ = some (.int .u64 ((s.q).toNat : Int)) ∧ w'.cell? ⟨X, 2, none⟩ = some (.int .u64 ((s.z).toNat : Int))) ((refine ⟨?_, ?_, ?_⟩ <;> (repeat (first | (with_reducible assumption) | (with_reducible refine c_drew ?_))))) ((first
        | (have hh := H4; (try go_simp); go_at_call 51; refine (cz _).mono ?_; rintro e w5 ⟨rfl, hw⟩; subst hw)
        | ((try go_simp); go_at_call 51; refine (cq _).mono ?_; rintro e w4 ⟨rfl, hw⟩; subst hw; have H4 : True := trivial)
        | ((try go_simp); go_at_call 50; refine (cs _ HT.drew.2.1).mono ?_; rintro e w3 ⟨rfl, h3, g3⟩; have H3 := HT.drew.step h3 g3; obtain ⟨⟨-, b0, b1, b2, -, -, -, -⟩, -⟩ := id H3)))
      all_goals (go_wp2; go_ret; exact ⟨rfl, H3.2.1, H3.2.2.1⟩)
    | false =>
      go_enter Tryd.func45, Tryd.ntmps45
      go_wp2_with (go_at_call 49; refine cw.mono ?_; rintro e w1 ⟨rfl, h1, g1⟩; clear cw)
      have hb1 : Below w1.heap.size w1 (w1.alloc (.cells #[Value.int IntKind.u64 ((s).m.toNat : Int), Value.int IntKind.u64 ((s).q.toNat : Int), Value.int IntKind.u64 ((s).z.toNat : Int), Value.int IntKind.u64 ((s).r.a.toNat : Int), Value.int IntKind.u64 ((s).r.b.toNat : Int), Value.int IntKind.u64 ((s).r.c.toNat : Int), Value.int IntKind.u64 ((s).r.d.toNat : Int)] 112)) := (Below.refl _ _).alloc (Nat.le_refl _) _
      have HT : RW w w1.heap.size B s (w1.alloc (.cells #[Value.int IntKind.u64 ((s).m.toNat : Int), Value.int IntKind.u64 ((s).q.toNat : Int), Value.int IntKind.u64 ((s).z.toNat : Int), Value.int IntKind.u64 ((s).r.a.toNat : Int), Value.int IntKind.u64 ((s).r.b.toNat : Int), Value.int IntKind.u64 ((s).r.c.toNat : Int), Value.int IntKind.u64 ((s).r.d.toNat : Int)] 112)) := ⟨SB.new w1 s _, h1.call hb1, grownBy_new g1 (World.grownBy_alloc w1 _ none) (fun k e => by cases e), by have := h1.cell; omega⟩
      have hX := HT.2.2.2
      clear h1 g1 hb1
      generalize w1.alloc (.cells #[Value.int IntKind.u64 ((s).m.toNat : Int), Value.int IntKind.u64 ((s).q.toNat : Int), Value.int IntKind.u64 ((s).z.toNat : Int), Value.int IntKind.u64 ((s).r.a.toNat : Int), Value.int IntKind.u64 ((s).r.b.toNat : Int), Value.int IntKind.u64 ((s).r.c.toNat : Int), Value.int IntKind.u64 ((s).r.d.toNat : Int)] 112) = V at HT ⊢
      generalize w1.heap.size = X at HT hX ⊢
      obtain ⟨⟨-, a0, a1, a2, -, -, -, -⟩, -⟩ := id HT
      first | (go_region_with ((first
        | (have hh := H4; (try go_simp); go_at_call 51; refine (cz _).mono ?_; rintro e w5 ⟨rfl, hw⟩; subst hw)
        | ((try go_simp); go_at_call 51; refine (cq _).mono ?_; rintro e w4 ⟨rfl, hw⟩; subst hw; have H4 : True := trivial)
        | ((try go_simp); go_at_call 50; refine (cs _ HT.drew.2.1).mono ?_; rintro e w3 ⟨rfl, h3, g3⟩; have H3 := HT.drew.step h3 g3; obtain ⟨⟨-, b0, b1, b2, -, -, -, -⟩, -⟩ := id H3)))) | fail
      all_goals (go_wp2; go_ret; exact ⟨rfl, H3.2.1, H3.2.2.1⟩)
  · have hq : ((s.m.toNat : Int) == ((sumOf s).toNat : Int)) = false := by
      rw [beq_eq_false_iff_ne]
      intro e
      exact he (UInt64.toNat.inj (by omega))
    have hd : decide (s.m = sumOf s) = false := decide_eq_false he
    rw [hd, Bool.false_and]
    generalize sumOf s = y at cs hq
    clear he hd
    go_enter Tryd.func45, Tryd.ntmps45
    go_wp2_with (go_at_call 49; refine cw.mono ?_; rintro e w1 ⟨rfl, h1, g1⟩; clear cw)
    have hb1 : Below w1.heap.size w1 (w1.alloc (.cells #[Value.int IntKind.u64 ((s).m.toNat : Int), Value.int IntKind.u64 ((s).q.toNat : Int), Value.int IntKind.u64 ((s).z.toNat : Int), Value.int IntKind.u64 ((s).r.a.toNat : Int), Value.int IntKind.u64 ((s).r.b.toNat : Int), Value.int IntKind.u64 ((s).r.c.toNat : Int), Value.int IntKind.u64 ((s).r.d.toNat : Int)] 112)) := (Below.refl _ _).alloc (Nat.le_refl _) _
    have HT : RW w w1.heap.size B s (w1.alloc (.cells #[Value.int IntKind.u64 ((s).m.toNat : Int), Value.int IntKind.u64 ((s).q.toNat : Int), Value.int IntKind.u64 ((s).z.toNat : Int), Value.int IntKind.u64 ((s).r.a.toNat : Int), Value.int IntKind.u64 ((s).r.b.toNat : Int), Value.int IntKind.u64 ((s).r.c.toNat : Int), Value.int IntKind.u64 ((s).r.d.toNat : Int)] 112)) := ⟨SB.new w1 s _, h1.call hb1, grownBy_new g1 (World.grownBy_alloc w1 _ none) (fun k e => by cases e), by have := h1.cell; omega⟩
    have hX := HT.2.2.2
    clear h1 g1 hb1
    generalize w1.alloc (.cells #[Value.int IntKind.u64 ((s).m.toNat : Int), Value.int IntKind.u64 ((s).q.toNat : Int), Value.int IntKind.u64 ((s).z.toNat : Int), Value.int IntKind.u64 ((s).r.a.toNat : Int), Value.int IntKind.u64 ((s).r.b.toNat : Int), Value.int IntKind.u64 ((s).r.c.toNat : Int), Value.int IntKind.u64 ((s).r.d.toNat : Int)] 112) = V at HT ⊢
    generalize w1.heap.size = X at HT hX ⊢
    obtain ⟨⟨-, a0, a1, a2, -, -, -, -⟩, -⟩ := id HT
    first | (go_region_with ((first
      | (have hh := H4; (try go_simp); go_at_call 51; refine (cz _).mono ?_; rintro e w5 ⟨rfl, hw⟩; subst hw)
      | ((try go_simp); go_at_call 51; refine (cq _).mono ?_; rintro e w4 ⟨rfl, hw⟩; subst hw; have H4 : True := trivial)
      | ((try go_simp); go_at_call 50; refine (cs _ HT.drew.2.1).mono ?_; rintro e w3 ⟨rfl, h3, g3⟩; have H3 := HT.drew.step h3 g3; obtain ⟨⟨-, b0, b1, b2, -, -, -, -⟩, -⟩ := id H3)))) | fail
    all_goals (go_wp2; go_ret; exact ⟨rfl, H3.2.1, H3.2.2.1⟩)

set_option maxHeartbeats 1000000 in
/-- SlotOk of the program. -/
theorem sok_impl (s : Sl) (w : World) :
    Calls Tryd.prog 36 #[.agg #[.int .u64 ((s).m.toNat : Int), .int .u64 ((s).q.toNat : Int), .int .u64 ((s).z.toNat : Int), .int .u64 ((s).r.a.toNat : Int), .int .u64 ((s).r.b.toNat : Int), .int .u64 ((s).r.c.toNat : Int), .int .u64 ((s).r.d.toNat : Int)]] w fun e w' => e = .returned (.bool (slok s)) ∧ Below w.heap.size w w' := by
  have cr := fun W : World => reader_is s W
  have cs := fun (B : Nat) (t : Sl) (W : World) (h : Rr B s 0 0 t W) => right_is B s t 0 W h (.inl rfl)
  have hb0 : Below w.heap.size w (w.alloc (.cells #[Value.int IntKind.u64 ((s).m.toNat : Int), Value.int IntKind.u64 ((s).q.toNat : Int), Value.int IntKind.u64 ((s).z.toNat : Int), Value.int IntKind.u64 ((s).r.a.toNat : Int), Value.int IntKind.u64 ((s).r.b.toNat : Int), Value.int IntKind.u64 ((s).r.c.toNat : Int), Value.int IntKind.u64 ((s).r.d.toNat : Int)] 36)) := (Below.refl _ _).alloc (Nat.le_refl _) _
  go_enter Tryd.func36, Tryd.ntmps36
  go_wp2_with (first
    | (go_at_call 44; refine (cr _).mono ?_; rintro e w2 ⟨B, rfl, hB, hR, hb2⟩; have z2 := hb2; clear cr hb2)
    | (go_at_call 45; refine (cs B _ w2 hR).mono ?_; rintro e w3 ⟨rfl, hR3, hg3⟩; clear cs))
  go_ret
  exact ⟨rfl, below_in (below_after hb0 z2 hb0.size) hg3 (Nat.le_trans hb0.size hB) (Nat.le_trans hb0.size z2.size)⟩
set_option maxRecDepth 100000 in
set_option maxHeartbeats 1600000 in
/-- SlotOk of the document. -/
theorem sok_spec (s : Sl) (w : World) :
    Calls Tryd.prog 28 #[.agg #[.int .u64 ((s).m.toNat : Int), .int .u64 ((s).q.toNat : Int), .int .u64 ((s).z.toNat : Int), .int .u64 ((s).r.a.toNat : Int), .int .u64 ((s).r.b.toNat : Int), .int .u64 ((s).r.c.toNat : Int), .int .u64 ((s).r.d.toNat : Int)]] w fun e w' => e = .returned (.bool (slok s)) ∧ Below w.heap.size w w' := by
  have z0 : Below w.heap.size w (w.alloc (.cells #[Value.int IntKind.u64 ((s).m.toNat : Int), Value.int IntKind.u64 ((s).q.toNat : Int), Value.int IntKind.u64 ((s).z.toNat : Int), Value.int IntKind.u64 ((s).r.a.toNat : Int), Value.int IntKind.u64 ((s).r.b.toNat : Int), Value.int IntKind.u64 ((s).r.c.toNat : Int), Value.int IntKind.u64 ((s).r.d.toNat : Int)] 36)) := (Below.refl _ _).alloc (Nat.le_refl _) _
  have hS0 := SB.new w s 36
  have cs := fun (W : World) (hW : Below (w.alloc (.cells #[Value.int IntKind.u64 ((s).m.toNat : Int), Value.int IntKind.u64 ((s).q.toNat : Int), Value.int IntKind.u64 ((s).z.toNat : Int), Value.int IntKind.u64 ((s).r.a.toNat : Int), Value.int IntKind.u64 ((s).r.b.toNat : Int), Value.int IntKind.u64 ((s).r.c.toNat : Int), Value.int IntKind.u64 ((s).r.d.toNat : Int)] 36)).heap.size (w.alloc (.cells #[Value.int IntKind.u64 ((s).m.toNat : Int), Value.int IntKind.u64 ((s).q.toNat : Int), Value.int IntKind.u64 ((s).z.toNat : Int), Value.int IntKind.u64 ((s).r.a.toNat : Int), Value.int IntKind.u64 ((s).r.b.toNat : Int), Value.int IntKind.u64 ((s).r.c.toNat : Int), Value.int IntKind.u64 ((s).r.d.toNat : Int)] 36)) W) => (ssum_spec s W).mono (fun e w' (h' : _ ∧ _) => (⟨h'.1, below_after hW h'.2 hW.size⟩ : _ ∧ Below (w.alloc (.cells #[Value.int IntKind.u64 ((s).m.toNat : Int), Value.int IntKind.u64 ((s).q.toNat : Int), Value.int IntKind.u64 ((s).z.toNat : Int), Value.int IntKind.u64 ((s).r.a.toNat : Int), Value.int IntKind.u64 ((s).r.b.toNat : Int), Value.int IntKind.u64 ((s).r.c.toNat : Int), Value.int IntKind.u64 ((s).r.d.toNat : Int)] 36)).heap.size (w.alloc (.cells #[Value.int IntKind.u64 ((s).m.toNat : Int), Value.int IntKind.u64 ((s).q.toNat : Int), Value.int IntKind.u64 ((s).z.toNat : Int), Value.int IntKind.u64 ((s).r.a.toNat : Int), Value.int IntKind.u64 ((s).r.b.toNat : Int), Value.int IntKind.u64 ((s).r.c.toNat : Int), Value.int IntKind.u64 ((s).r.d.toNat : Int)] 36)) w'))
  unfold slok bnd
  obtain ⟨b1, h1⟩ : ∃ b, b = decide (s.m = sumOf s) := ⟨_, rfl⟩
  have hq : ((s.m.toNat : Int) == ((sumOf s).toNat : Int)) = b1 := by
    rw [h1]
    by_cases he : s.m = sumOf s
    · rw [← he]; simp
    · rw [decide_eq_false he, beq_eq_false_iff_ne]
      intro e
      exact he (UInt64.toNat.inj (by omega))
  rw [← h1]
  clear h1
  generalize sumOf s = y at cs hq
  have hk : ∀ W, Below (w.alloc (.cells #[Value.int IntKind.u64 ((s).m.toNat : Int), Value.int IntKind.u64 ((s).q.toNat : Int), Value.int IntKind.u64 ((s).z.toNat : Int), Value.int IntKind.u64 ((s).r.a.toNat : Int), Value.int IntKind.u64 ((s).r.b.toNat : Int), Value.int IntKind.u64 ((s).r.c.toNat : Int), Value.int IntKind.u64 ((s).r.d.toNat : Int)] 36)).heap.size (w.alloc (.cells #[Value.int IntKind.u64 ((s).m.toNat : Int), Value.int IntKind.u64 ((s).q.toNat : Int), Value.int IntKind.u64 ((s).z.toNat : Int), Value.int IntKind.u64 ((s).r.a.toNat : Int), Value.int IntKind.u64 ((s).r.b.toNat : Int), Value.int IntKind.u64 ((s).r.c.toNat : Int), Value.int IntKind.u64 ((s).r.d.toNat : Int)] 36)) W → W.cell? ⟨w.heap.size, 0, none⟩ = some (.int .u64 ((s.m).toNat : Int)) ∧ W.cell? ⟨w.heap.size, 1, none⟩ = some (.int .u64 ((s.q).toNat : Int)) ∧ W.cell? ⟨w.heap.size, 2, none⟩ = some (.int .u64 ((s.z).toNat : Int)) ∧ W.cell? ⟨w.heap.size, 3, none⟩ = some (.int .u64 ((s.r.a).toNat : Int)) ∧ W.cell? ⟨w.heap.size, 4, none⟩ = some (.int .u64 ((s.r.b).toNat : Int)) ∧ W.cell? ⟨w.heap.size, 5, none⟩ = some (.int .u64 ((s.r.c).toNat : Int)) ∧ W.cell? ⟨w.heap.size, 6, none⟩ = some (.int .u64 ((s.r.d).toNat : Int)) := fun W hW => (hS0.call hW).2
  clear hS0
  generalize (s.q.toNat : Int) = nq at *
  generalize (s.z.toNat : Int) = nz at *
  generalize (s.m.toNat : Int) = nm at *
  generalize (y.toNat : Int) = ny at *
  generalize (s.r.a.toNat : Int) = na at *
  generalize (s.r.b.toNat : Int) = nb at *
  generalize (s.r.c.toNat : Int) = nc at *
  generalize (s.r.d.toNat : Int) = nd at *
  obtain ⟨a0, a1, a2, a3, a4, a5, a6⟩ := hk _ (Below.refl _ _)
  rw [Bool.decide_and, Bool.decide_and]
  obtain ⟨q1, hq1⟩ : ∃ b, decide (1 ≤ nq) = b := ⟨_, rfl⟩
  obtain ⟨q2, hq2⟩ : ∃ b, decide (nq ≤ 1000000000) = b := ⟨_, rfl⟩
  obtain ⟨z1, hz1⟩ : ∃ b, decide (1 ≤ nz) = b := ⟨_, rfl⟩
  obtain ⟨z2, hz2⟩ : ∃ b, decide (nz ≤ 256) = b := ⟨_, rfl⟩
  rw [hq1, hq2, hz1, hz2]
  cases b1 with
  | false =>
    go_enter Tryd.func28, Tryd.ntmps28
    go_wp2_with fail
    first | (go_region_with (((try go_simp); go_at_call 42; refine (cs _ (by repeat' (first | (with_reducible exact Below.refl _ _) | (with_reducible assumption) | (with_reducible refine below_drewN ?_ _) | (with_reducible refine Below.setCell ?_ ?_ _) | (with_reducible refine Below.alloc ?_ ?_ _) | (with_reducible refine Below.drew ?_) | go_size))).mono ?_; rintro e w2 ⟨rfl, hb2⟩; obtain ⟨b0, b1, b2, b3, b4, b5, b6⟩ := hk w2 hb2; have zz := below_after z0 hb2 z0.size))) | fail
    all_goals (go_wp2; go_ret; exact ⟨(by first | rfl | (rw [← hz2]; rfl) | (simp; done)), zz⟩)
  | true =>
    cases q1 with
    | false =>
      go_enter Tryd.func28, Tryd.ntmps28
      go_wp2_with fail
      first | (go_region_with (((try go_simp); go_at_call 42; refine (cs _ (by repeat' (first | (with_reducible exact Below.refl _ _) | (with_reducible assumption) | (with_reducible refine below_drewN ?_ _) | (with_reducible refine Below.setCell ?_ ?_ _) | (with_reducible refine Below.alloc ?_ ?_ _) | (with_reducible refine Below.drew ?_) | go_size))).mono ?_; rintro e w2 ⟨rfl, hb2⟩; obtain ⟨b0, b1, b2, b3, b4, b5, b6⟩ := hk w2 hb2; have zz := below_after z0 hb2 z0.size))) | fail
      all_goals (go_wp2; go_ret; exact ⟨(by first | rfl | (rw [← hz2]; rfl) | (simp; done)), zz⟩)
    | true =>
      cases q2 with
      | false =>
        go_enter Tryd.func28, Tryd.ntmps28
        go_wp2_with fail
        first | (go_region_with (((try go_simp); go_at_call 42; refine (cs _ (by repeat' (first | (with_reducible exact Below.refl _ _) | (with_reducible assumption) | (with_reducible refine below_drewN ?_ _) | (with_reducible refine Below.setCell ?_ ?_ _) | (with_reducible refine Below.alloc ?_ ?_ _) | (with_reducible refine Below.drew ?_) | go_size))).mono ?_; rintro e w2 ⟨rfl, hb2⟩; obtain ⟨b0, b1, b2, b3, b4, b5, b6⟩ := hk w2 hb2; have zz := below_after z0 hb2 z0.size))) | fail
        all_goals (go_wp2; go_ret; exact ⟨(by first | rfl | (rw [← hz2]; rfl) | (simp; done)), zz⟩)
      | true =>
        cases z1 with
        | false =>
          go_enter Tryd.func28, Tryd.ntmps28
          go_wp2_with fail
          first | (go_region_with (((try go_simp); go_at_call 42; refine (cs _ (by repeat' (first | (with_reducible exact Below.refl _ _) | (with_reducible assumption) | (with_reducible refine below_drewN ?_ _) | (with_reducible refine Below.setCell ?_ ?_ _) | (with_reducible refine Below.alloc ?_ ?_ _) | (with_reducible refine Below.drew ?_) | go_size))).mono ?_; rintro e w2 ⟨rfl, hb2⟩; obtain ⟨b0, b1, b2, b3, b4, b5, b6⟩ := hk w2 hb2; have zz := below_after z0 hb2 z0.size))) | fail
          all_goals (go_wp2; go_ret; exact ⟨(by first | rfl | (rw [← hz2]; rfl) | (simp; done)), zz⟩)
        | true =>
          go_enter Tryd.func28, Tryd.ntmps28
          go_wp2_with fail
          go_region_held3 (fun w' => w'.cell? ⟨w.heap.size, 0, none⟩ = some (.int .u64 nm) ∧ w'.cell? ⟨w.heap.size, 1, none⟩ = some (.int .u64 nq) ∧ w'.cell? ⟨w.heap.size, 2, none⟩ = some (.int .u64 nz) ∧ w'.cell? ⟨w.heap.size, 3, none⟩ = some (.int .u64 na) ∧ w'.cell? ⟨w.heap.size, 4, none⟩ = some (.int .u64 nb) ∧ w'.cell? ⟨w.heap.size, 5, none⟩ = some (.int .u64 nc) ∧ w'.cell? ⟨w.heap.size, 6, none⟩ = some (.int .u64 nd)) ((refine ⟨?_, ?_, ?_, ?_, ?_, ?_, ?_⟩ <;> (repeat (first | (with_reducible assumption) | (with_reducible refine c_drew ?_))))) (((try go_simp); go_at_call 42; refine (cs _ (by repeat' (first | (with_reducible exact Below.refl _ _) | (with_reducible assumption) | (with_reducible refine below_drewN ?_ _) | (with_reducible refine Below.setCell ?_ ?_ _) | (with_reducible refine Below.alloc ?_ ?_ _) | (with_reducible refine Below.drew ?_) | go_size))).mono ?_; rintro e w2 ⟨rfl, hb2⟩; obtain ⟨b0, b1, b2, b3, b4, b5, b6⟩ := hk w2 hb2; have zz := below_after z0 hb2 z0.size))
          all_goals (go_wp2; go_ret; exact ⟨(by first | rfl | (rw [← hz2]; rfl) | (simp; done)), zz⟩)
end Go.Proofs.YteaaaojafipllaaDoor
