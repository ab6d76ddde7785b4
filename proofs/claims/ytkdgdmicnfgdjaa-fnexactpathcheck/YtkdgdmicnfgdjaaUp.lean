/-
  The root that a leaf's digest and a path make: the specification's way, walked.
-/
import Derived.Test.YtkdgdmicnfgdjaaNext
import Derived.Test.YtkdgdmicnfgdjaaPathLen
namespace Go.Proofs.Ytkdgdmicnfgdjaa
open Go.RowKit

/-- The root over the digest d at place i of n, by a path. -/
def up : Nat → Nat → Nat → Qd → List Qd → Qd
  | 0, _, _, d, _ => d
  | f + 1, n, i, d, P => if n < 2 then d else if i < sp n then pairD (up f (sp n) i d P.dropLast) (lastD P) else pairD (lastD P) (up f (n - sp n) (i - sp n) d P.dropLast)
theorem Dgs.init {W : World} {a : Addr} {cap n : Nat} {L : List Qd} {q : Qd} (h : Dgs W (.slice (some a) (n + 1) cap) (L ++ [q])) (hn : L.length = n) : Dgs W (.slice (some a) n cap) L ∧ DAt W (a.add (n * 4)) q ∧ a.block < W.heap.size ∧ n < cap ∧ cap ≤ maxLen := by
  rcases h with ⟨h0, _⟩ | ⟨a', cap', hv, hl, hm, hb, hc⟩
  · cases h0
  · obtain ⟨rfl, hlen, rfl⟩ : a = a' ∧ n + 1 = (L ++ [q]).length ∧ cap = cap' := by simpa using hv
    simp at hl
    refine ⟨.inr ⟨a, cap, by rw [hn], by omega, hm, fun _ => hb (by simp), fun i hi => ?_⟩, ?_, hb (by simp), by omega, hm⟩
    · have := hc i (by simp; omega)
      rwa [List.getElem_append_left hi] at this
    · have := hc n (by simp; omega)
      rw [List.getElem_append_right (by omega)] at this
      simpa [hn] using this

set_option maxRecDepth 20000 in
set_option maxHeartbeats 4000000 in
theorem up_is : ∀ (f n i : Nat) (d : Qd) (P : List Qd) (v : Value) (w : World), n ≤ f + 1 → n ≤ 256 → i < n → P.length = dp f n i → Dgs w v P →
    Calls Try.prog 42 #[.int .i64 (n : Int), .int .i64 (i : Int), .agg #[.int .u64 ((d).a.toNat : Int), .int .u64 ((d).b.toNat : Int), .int .u64 ((d).c.toNat : Int), .int .u64 ((d).d.toNat : Int)], v] w fun e w' => e = .returned (.agg #[.int .u64 ((up f n i d P).a.toNat : Int), .int .u64 ((up f n i d P).b.toNat : Int), .int .u64 ((up f n i d P).c.toNat : Int), .int .u64 ((up f n i d P).d.toNat : Int)]) ∧ Below w.heap.size w w' := by
  have base : ∀ (n i : Nat) (d : Qd) (v : Value) (w : World), n < 2 → Calls Try.prog 42 #[.int .i64 (n : Int), .int .i64 (i : Int), .agg #[.int .u64 ((d).a.toNat : Int), .int .u64 ((d).b.toNat : Int), .int .u64 ((d).c.toNat : Int), .int .u64 ((d).d.toNat : Int)], v] w fun e w' => e = .returned (.agg #[.int .u64 ((d).a.toNat : Int), .int .u64 ((d).b.toNat : Int), .int .u64 ((d).c.toNat : Int), .int .u64 ((d).d.toNat : Int)]) ∧ Below w.heap.size w w' := by
    intro n i d v w hn
    have hI : (n : Int) < 2 := by omega
    go_enter Try.func42, Try.ntmps42
    go_wp2
    exact bodyPost_ret (v := .agg #[.int .u64 ((d).a.toNat : Int), .int .u64 ((d).b.toNat : Int), .int .u64 ((d).c.toNat : Int), .int .u64 ((d).d.toNat : Int)]) (by simp [results, Try.results42, go_sem]) rfl ⟨rfl, (by repeat' (first | (with_reducible exact Below.refl _ _) | (with_reducible assumption) | (with_reducible refine below_drewN ?_ _) | (with_reducible refine Below.setCell ?_ ?_ _) | (with_reducible refine Below.alloc ?_ ?_ _) | (with_reducible refine Below.drew ?_) | go_size))⟩
  intro f
  induction f with
  | zero =>
    intro n i d P v w hf h256 hi hP hT
    exact base n i d v w (by omega)
  | succ f ih =>
    intro n i d P v w hf h256 hi hP hT
    by_cases hn : n < 2
    · have e : up (f + 1) n i d P = d := by rw [up, if_pos hn]
      rw [e]
      exact base n i d v w hn
    have hs := sp_lt0 (n := n) (by omega)
    rw [dp, if_neg hn] at hP
    obtain ⟨L, l, rfl⟩ : ∃ L l, P = L ++ [l] := by
      have hne : P ≠ [] := fun e => by rw [e] at hP; simp at hP; split at hP <;> omega
      exact ⟨P.dropLast, P.getLast hne, (List.dropLast_concat_getLast hne).symm⟩
    have eu : up (f + 1) n i d (L ++ [l]) = if i < sp n then pairD (up f (sp n) i d L) l else pairD l (up f (n - sp n) (i - sp n) d L) := by rw [up, if_neg hn]; simp [lastD_snoc]
    rw [eu]
    obtain ⟨a, cap, rfl⟩ : ∃ a cap, v = .slice (some a) (L.length + 1) cap := by
      rcases hT with ⟨_, h0⟩ | ⟨a, cap, rfl, _⟩
      · simp at h0
      · exact ⟨a, cap, by simp⟩
    obtain ⟨hL, hd, hab, hcap, hcm⟩ := hT.init rfl
    have cs := fun V : World => sp_spec n (by omega) h256 V
    have hnI : ¬ (n : Int) < 2 := by omega
    simp only [List.length_append, List.length_cons, List.length_nil] at hP
    generalize sp n = k at hs cs hP ⊢
    clear eu hT base
    have ml : L.length < 9223372036854775807 := by unfold maxLen at hcm; omega
    have hdl : DAt ((w.alloc (.cells #[Value.int IntKind.u64 ((d).a.toNat : Int), Value.int IntKind.u64 ((d).b.toNat : Int), Value.int IntKind.u64 ((d).c.toNat : Int), Value.int IntKind.u64 ((d).d.toNat : Int)] 36)).alloc (.cells #[Value.int IntKind.u64 0, Value.int IntKind.u64 0, Value.int IntKind.u64 0, Value.int IntKind.u64 0] 36)) (a.add (L.length * 4)) l := hd.below (((Below.refl w.heap.size w).alloc (Nat.le_refl _) _).alloc (by simp) _) (by rw [add_block]; exact hab)
    have q0 := ((Rt.new w d 36).alloc (.cells #[Value.int IntKind.u64 0, Value.int IntKind.u64 0, Value.int IntKind.u64 0, Value.int IntKind.u64 0] 36)).alloc (.cells #[Value.int IntKind.u64 ((l).a.toNat : Int), Value.int IntKind.u64 ((l).b.toNat : Int), Value.int IntKind.u64 ((l).c.toNat : Int), Value.int IntKind.u64 ((l).d.toNat : Int)] 36)
    have q1 : Rt (w.alloc (.cells #[Value.int IntKind.u64 ((d).a.toNat : Int), Value.int IntKind.u64 ((d).b.toNat : Int), Value.int IntKind.u64 ((d).c.toNat : Int), Value.int IntKind.u64 ((d).d.toNat : Int)] 36)).heap.size ⟨0, 0, 0, 0⟩ (((w.alloc (.cells #[Value.int IntKind.u64 ((d).a.toNat : Int), Value.int IntKind.u64 ((d).b.toNat : Int), Value.int IntKind.u64 ((d).c.toNat : Int), Value.int IntKind.u64 ((d).d.toNat : Int)] 36)).alloc (.cells #[Value.int IntKind.u64 0, Value.int IntKind.u64 0, Value.int IntKind.u64 0, Value.int IntKind.u64 0] 36)).alloc (.cells #[Value.int IntKind.u64 ((l).a.toNat : Int), Value.int IntKind.u64 ((l).b.toNat : Int), Value.int IntKind.u64 ((l).c.toNat : Int), Value.int IntKind.u64 ((l).d.toNat : Int)] 36)) := (Rt.new (w.alloc (.cells #[Value.int IntKind.u64 ((d).a.toNat : Int), Value.int IntKind.u64 ((d).b.toNat : Int), Value.int IntKind.u64 ((d).c.toNat : Int), Value.int IntKind.u64 ((d).d.toNat : Int)] 36)) ⟨0, 0, 0, 0⟩ 36).alloc (.cells #[Value.int IntKind.u64 ((l).a.toNat : Int), Value.int IntKind.u64 ((l).b.toNat : Int), Value.int IntKind.u64 ((l).c.toNat : Int), Value.int IntKind.u64 ((l).d.toNat : Int)] 36)
    have q2 := Rt.new ((w.alloc (.cells #[Value.int IntKind.u64 ((d).a.toNat : Int), Value.int IntKind.u64 ((d).b.toNat : Int), Value.int IntKind.u64 ((d).c.toNat : Int), Value.int IntKind.u64 ((d).d.toNat : Int)] 36)).alloc (.cells #[Value.int IntKind.u64 0, Value.int IntKind.u64 0, Value.int IntKind.u64 0, Value.int IntKind.u64 0] 36)) l 36
    rw [World.size_alloc] at q1
    rw [World.size_alloc, World.size_alloc] at q2
    have hB2 : Below w.heap.size w (((w.alloc (.cells #[Value.int IntKind.u64 ((d).a.toNat : Int), Value.int IntKind.u64 ((d).b.toNat : Int), Value.int IntKind.u64 ((d).c.toNat : Int), Value.int IntKind.u64 ((d).d.toNat : Int)] 36)).alloc (.cells #[Value.int IntKind.u64 0, Value.int IntKind.u64 0, Value.int IntKind.u64 0, Value.int IntKind.u64 0] 36)).alloc (.cells #[Value.int IntKind.u64 ((l).a.toNat : Int), Value.int IntKind.u64 ((l).b.toNat : Int), Value.int IntKind.u64 ((l).c.toNat : Int), Value.int IntKind.u64 ((l).d.toNat : Int)] 36)) := (((Below.refl w.heap.size w).alloc (Nat.le_refl _) _).alloc (by simp) _).alloc (by simp only [World.size_alloc]; omega) _
    obtain ⟨m, hm⟩ : ∃ m, m = L.length := ⟨_, rfl⟩
    rw [← hm] at hP hL hdl hcap ml ⊢
    have HM : Hid (m = L.length) := hm
    obtain ⟨e0, e1, e2, e3⟩ := hdl
    by_cases hik : i < k
    · rw [if_pos hik] at hP ⊢
      have hikI : (i : Int) < (k : Int) := by omega
      have ci : ∀ V : World, Below w.heap.size w V → Calls Try.prog 42 #[.int .i64 (k : Int), .int .i64 (i : Int), .agg #[.int .u64 ((d).a.toNat : Int), .int .u64 ((d).b.toNat : Int), .int .u64 ((d).c.toNat : Int), .int .u64 ((d).d.toNat : Int)], .slice (some a) m cap] V fun e w' => e = .returned (.agg #[.int .u64 ((up f k i d L).a.toNat : Int), .int .u64 ((up f k i d L).b.toNat : Int), .int .u64 ((up f k i d L).c.toNat : Int), .int .u64 ((up f k i d L).d.toNat : Int)]) ∧ Below V.heap.size V w' := fun V hV => ih k i d L _ V (by omega) (by omega) hik (by omega) (hL.call hV)
      have ch := fun V : World => hp_spec (up f k i d L) l V
      obtain ⟨y, hy⟩ : ∃ y, y = pairD (up f k i d L) l := ⟨_, rfl⟩
      generalize up f k i d L = z at ci ch hy ⊢
      have HY : Hid (y = pairD z l) := hy
      have ch' : ∀ V : World, Calls Try.prog 77 #[.agg #[.int .u64 ((z).a.toNat : Int), .int .u64 ((z).b.toNat : Int), .int .u64 ((z).c.toNat : Int), .int .u64 ((z).d.toNat : Int)], .agg #[.int .u64 ((l).a.toNat : Int), .int .u64 ((l).b.toNat : Int), .int .u64 ((l).c.toNat : Int), .int .u64 ((l).d.toNat : Int)]] V fun e w' => e = .returned (.agg #[.int .u64 ((y).a.toNat : Int), .int .u64 ((y).b.toNat : Int), .int .u64 ((y).c.toNat : Int), .int .u64 ((y).d.toNat : Int)]) ∧ Below V.heap.size V w' := by rw [hy]; exact ch
      clear ch hy hm hd hL ih hP
      go_enter Try.func42, Try.ntmps42
      go_wp2_with (go_at_call 71; refine (cs _).mono ?_; rintro e w1 ⟨rfl, hw⟩; replace hw := hw.symm; subst hw)
      generalize hW2 : (((w.alloc (.cells #[Value.int IntKind.u64 ((d).a.toNat : Int), Value.int IntKind.u64 ((d).b.toNat : Int), Value.int IntKind.u64 ((d).c.toNat : Int), Value.int IntKind.u64 ((d).d.toNat : Int)] 36)).alloc (.cells #[Value.int IntKind.u64 0, Value.int IntKind.u64 0, Value.int IntKind.u64 0, Value.int IntKind.u64 0] 36)).alloc (.cells #[Value.int IntKind.u64 ((l).a.toNat : Int), Value.int IntKind.u64 ((l).b.toNat : Int), Value.int IntKind.u64 ((l).c.toNat : Int), Value.int IntKind.u64 ((l).d.toNat : Int)] 36)) = W2 at q0 q1 q2 hB2 ⊢
      clear hW2 e0 e1 e2 e3 hs cs
      obtain ⟨-, ⟨x0, x1, x2, x3⟩, -⟩ := id q0
      obtain ⟨-, ⟨y0, y1, y2, y3⟩, -⟩ := id q2
      go_region_held (fun w' => w'.cell? ⟨w.heap.size, 0, none⟩ = some (Value.int IntKind.u64 ((d.a).toNat : Int)) ∧ w'.cell? ⟨w.heap.size, 1, none⟩ = some (Value.int IntKind.u64 ((d.b).toNat : Int)) ∧ w'.cell? ⟨w.heap.size, 2, none⟩ = some (Value.int IntKind.u64 ((d.c).toNat : Int)) ∧ w'.cell? ⟨w.heap.size, 3, none⟩ = some (Value.int IntKind.u64 ((d.d).toNat : Int)) ∧ w'.cell? ⟨w.heap.size + 1 + 1, 0, none⟩ = some (Value.int IntKind.u64 ((l.a).toNat : Int)) ∧ w'.cell? ⟨w.heap.size + 1 + 1, 1, none⟩ = some (Value.int IntKind.u64 ((l.b).toNat : Int)) ∧ w'.cell? ⟨w.heap.size + 1 + 1, 2, none⟩ = some (Value.int IntKind.u64 ((l.c).toNat : Int)) ∧ w'.cell? ⟨w.heap.size + 1 + 1, 3, none⟩ = some (Value.int IntKind.u64 ((l.d).toNat : Int))) ((refine ⟨?_, ?_, ?_, ?_, ?_, ?_, ?_, ?_⟩ <;> (repeat (first | (with_reducible assumption) | (with_reducible refine c_drew ?_) | (with_reducible refine c_set ?_ (by first | (simp; done) | (simp; omega) | omega))))))
        (first
          | (go_at_call 42; (refine (ci _ hB2.drew).mono ?_; rintro e w3 ⟨rfl, hb3⟩; have p0 := (Rt.drew q0).behind hb3; have p1 := (Rt.drew q1).behind hb3; have p2 := (Rt.drew q2).behind hb3; have B3 := hB2.drew.trans (hb3.mono hB2.size); clear x0 x1 x2 x3 y0 y1 y2 y3; obtain ⟨-, ⟨x0, x1, x2, x3⟩, -⟩ := id p0; obtain ⟨-, ⟨y0, y1, y2, y3⟩, -⟩ := id p2))
          | (go_at_call 77; refine (ch' _).mono ?_; rintro e w4 ⟨rfl, hb4⟩; have r0 := p0.behind hb4; have r1 := p1.behind hb4; have r2 := p2.behind hb4; have B4 := B3.trans (hb4.mono B3.size); clear x0 x1 x2 x3 y0 y1 y2 y3; obtain ⟨-, ⟨x0, x1, x2, x3⟩, -⟩ := id r0; obtain ⟨-, ⟨y0, y1, y2, y3⟩, -⟩ := id r2; obtain ⟨-, ⟨z0, z1, z2, z3⟩, f0, f1, f2, f3⟩ := id r1))
      all_goals (go_wp2_with fail)
      all_goals
        have hr := r1.put y
        exact bodyPost_ret (v := .agg #[.int .u64 ((y).a.toNat : Int), .int .u64 ((y).b.toNat : Int), .int .u64 ((y).c.toNat : Int), .int .u64 ((y).d.toNat : Int)]) (by obtain ⟨_, ⟨r0, r1, r2, r3⟩, _⟩ := hr; simp [results, Try.results42, go_sem, r0, r1, r2, r3]) rfl ⟨by rw [HY.out], (((B4.setCell (p := ⟨w.heap.size + 1, 0, none⟩) (Nat.le_succ _) _).setCell (p := ⟨w.heap.size + 1, 1, none⟩) (Nat.le_succ _) _).setCell (p := ⟨w.heap.size + 1, 2, none⟩) (Nat.le_succ _) _).setCell (p := ⟨w.heap.size + 1, 3, none⟩) (Nat.le_succ _) _⟩
    · rw [if_neg hik] at hP ⊢
      have hikI : ¬ (i : Int) < (k : Int) := by omega
      have ci : ∀ V : World, Below w.heap.size w V → Calls Try.prog 42 #[.int .i64 ((n : Int) - k), .int .i64 ((i : Int) - k), .agg #[.int .u64 ((d).a.toNat : Int), .int .u64 ((d).b.toNat : Int), .int .u64 ((d).c.toNat : Int), .int .u64 ((d).d.toNat : Int)], .slice (some a) m cap] V fun e w' => e = .returned (.agg #[.int .u64 ((up f (n - k) (i - k) d L).a.toNat : Int), .int .u64 ((up f (n - k) (i - k) d L).b.toNat : Int), .int .u64 ((up f (n - k) (i - k) d L).c.toNat : Int), .int .u64 ((up f (n - k) (i - k) d L).d.toNat : Int)]) ∧ Below V.heap.size V w' := fun V hV => by
        have := ih (n - k) (i - k) d L _ V (by omega) (by omega) (by omega) (by omega) (hL.call hV)
        rw [show ((n - k : Nat) : Int) = (n : Int) - k by omega, show ((i - k : Nat) : Int) = (i : Int) - k by omega] at this
        exact this
      have hw1 : IntKind.i64.wrap ((n : Int) - k) = (n : Int) - k := IntWalk.i64_in _ (by omega)
      have hw2 : IntKind.i64.wrap ((i : Int) - k) = (i : Int) - k := IntWalk.i64_in _ (by omega)
      have ch := fun V : World => hp_spec l (up f (n - k) (i - k) d L) V
      obtain ⟨y, hy⟩ : ∃ y, y = pairD l (up f (n - k) (i - k) d L) := ⟨_, rfl⟩
      generalize up f (n - k) (i - k) d L = z at ci ch hy ⊢
      have HY : Hid (y = pairD l z) := hy
      have ch' : ∀ V : World, Calls Try.prog 77 #[.agg #[.int .u64 ((l).a.toNat : Int), .int .u64 ((l).b.toNat : Int), .int .u64 ((l).c.toNat : Int), .int .u64 ((l).d.toNat : Int)], .agg #[.int .u64 ((z).a.toNat : Int), .int .u64 ((z).b.toNat : Int), .int .u64 ((z).c.toNat : Int), .int .u64 ((z).d.toNat : Int)]] V fun e w' => e = .returned (.agg #[.int .u64 ((y).a.toNat : Int), .int .u64 ((y).b.toNat : Int), .int .u64 ((y).c.toNat : Int), .int .u64 ((y).d.toNat : Int)]) ∧ Below V.heap.size V w' := by rw [hy]; exact ch
      clear ch hy hm hd hL ih hP
      go_enter Try.func42, Try.ntmps42
      go_wp2_with (go_at_call 71; refine (cs _).mono ?_; rintro e w1 ⟨rfl, hw⟩; replace hw := hw.symm; subst hw)
      generalize hW2 : (((w.alloc (.cells #[Value.int IntKind.u64 ((d).a.toNat : Int), Value.int IntKind.u64 ((d).b.toNat : Int), Value.int IntKind.u64 ((d).c.toNat : Int), Value.int IntKind.u64 ((d).d.toNat : Int)] 36)).alloc (.cells #[Value.int IntKind.u64 0, Value.int IntKind.u64 0, Value.int IntKind.u64 0, Value.int IntKind.u64 0] 36)).alloc (.cells #[Value.int IntKind.u64 ((l).a.toNat : Int), Value.int IntKind.u64 ((l).b.toNat : Int), Value.int IntKind.u64 ((l).c.toNat : Int), Value.int IntKind.u64 ((l).d.toNat : Int)] 36)) = W2 at q0 q1 q2 hB2 ⊢
      clear hW2 e0 e1 e2 e3 cs
      obtain ⟨-, ⟨x0, x1, x2, x3⟩, -⟩ := id q0
      obtain ⟨-, ⟨y0, y1, y2, y3⟩, -⟩ := id q2
      go_region_held (fun w' => w'.cell? ⟨w.heap.size, 0, none⟩ = some (Value.int IntKind.u64 ((d.a).toNat : Int)) ∧ w'.cell? ⟨w.heap.size, 1, none⟩ = some (Value.int IntKind.u64 ((d.b).toNat : Int)) ∧ w'.cell? ⟨w.heap.size, 2, none⟩ = some (Value.int IntKind.u64 ((d.c).toNat : Int)) ∧ w'.cell? ⟨w.heap.size, 3, none⟩ = some (Value.int IntKind.u64 ((d.d).toNat : Int)) ∧ w'.cell? ⟨w.heap.size + 1 + 1, 0, none⟩ = some (Value.int IntKind.u64 ((l.a).toNat : Int)) ∧ w'.cell? ⟨w.heap.size + 1 + 1, 1, none⟩ = some (Value.int IntKind.u64 ((l.b).toNat : Int)) ∧ w'.cell? ⟨w.heap.size + 1 + 1, 2, none⟩ = some (Value.int IntKind.u64 ((l.c).toNat : Int)) ∧ w'.cell? ⟨w.heap.size + 1 + 1, 3, none⟩ = some (Value.int IntKind.u64 ((l.d).toNat : Int))) ((refine ⟨?_, ?_, ?_, ?_, ?_, ?_, ?_, ?_⟩ <;> (repeat (first | (with_reducible assumption) | (with_reducible refine c_drew ?_) | (with_reducible refine c_set ?_ (by first | (simp; done) | (simp; omega) | omega))))))
        (first
          | (go_at_call 42; refine (ci _ hB2.drew).mono ?_; rintro e w3 ⟨rfl, hb3⟩; have p0 := (Rt.drew q0).behind hb3; have p1 := (Rt.drew q1).behind hb3; have p2 := (Rt.drew q2).behind hb3; have B3 := hB2.drew.trans (hb3.mono hB2.size); clear x0 x1 x2 x3 y0 y1 y2 y3; obtain ⟨-, ⟨x0, x1, x2, x3⟩, -⟩ := id p0; obtain ⟨-, ⟨y0, y1, y2, y3⟩, -⟩ := id p2)
          | (go_at_call 77; refine (ch' _).mono ?_; rintro e w4 ⟨rfl, hb4⟩; have r0 := p0.behind hb4; have r1 := p1.behind hb4; have r2 := p2.behind hb4; have B4 := B3.trans (hb4.mono B3.size); clear x0 x1 x2 x3 y0 y1 y2 y3; obtain ⟨-, ⟨x0, x1, x2, x3⟩, -⟩ := id r0; obtain ⟨-, ⟨y0, y1, y2, y3⟩, -⟩ := id r2; obtain ⟨-, ⟨z0, z1, z2, z3⟩, f0, f1, f2, f3⟩ := id r1))
      all_goals (go_wp2_with fail)
      all_goals
        have hr := r1.put y
        exact bodyPost_ret (v := .agg #[.int .u64 ((y).a.toNat : Int), .int .u64 ((y).b.toNat : Int), .int .u64 ((y).c.toNat : Int), .int .u64 ((y).d.toNat : Int)]) (by obtain ⟨_, ⟨r0, r1, r2, r3⟩, _⟩ := hr; simp [results, Try.results42, go_sem, r0, r1, r2, r3]) rfl ⟨by rw [HY.out], (((B4.setCell (p := ⟨w.heap.size + 1, 0, none⟩) (Nat.le_succ _) _).setCell (p := ⟨w.heap.size + 1, 1, none⟩) (Nat.le_succ _) _).setCell (p := ⟨w.heap.size + 1, 2, none⟩) (Nat.le_succ _) _).setCell (p := ⟨w.heap.size + 1, 3, none⟩) (Nat.le_succ _) _⟩
end Go.Proofs.Ytkdgdmicnfgdjaa
