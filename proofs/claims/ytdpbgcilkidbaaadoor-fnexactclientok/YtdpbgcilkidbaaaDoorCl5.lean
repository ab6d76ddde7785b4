/-
  A client that is ok: the specification's side.
-/
import Derived.Test.YtdpbgcilkidbaaaDoorCl4
namespace Go.Proofs.YtdpbgcilkidbaaaDoor
open Go.RowKit

/-- The first k numbers are of witnesses, ascending. -/
def Asc (m : Int) (X : List Int) (k : Nat) : Prop := ∀ i, ∀ h : i < X.length, i < k → 1 ≤ X[i] ∧ X[i] ≤ m ∧ (∀ _ : 0 < i, X[i - 1] < X[i])
theorem Asc.zero (m : Int) (X : List Int) : Asc m X 0 := fun i _ h => by omega
theorem Asc.step {m : Int} {X : List Int} {k : Nat} (h : Asc m X k) (hk : k < X.length) (h1 : 1 ≤ X[k]) (h2 : X[k] ≤ m) (h3 : ∀ _ : 0 < k, X[k - 1] < X[k]) : Asc m X (k + 1) := fun i hi hik => by
  by_cases e : i = k
  · subst e
    exact ⟨h1, h2, h3⟩
  · exact h i hi (by omega)
/-- When a client is ok. -/
def Cok (c : Cln) (X : List Int) : Prop :=
  nok c.n c.m = true ∧ (0 ≤ c.se ∧ c.se ≤ 1000000) ∧ pok c.ps c.pr = true ∧
    ((c.ph = 0 ∧ nop c.gs c.gr = true ∧ X.length = 0) ∨ (c.ph = 1 ∧ nop c.gs c.gr = true ∧ X.length = 0 ∧ 1 ≤ c.se) ∨
      (c.ph = 2 ∧ 1 ≤ c.se ∧ (c.ps + 1 ≤ c.gs ∧ c.gs ≤ 256) ∧ (X.length : Int) < c.n ∧ Asc c.m X X.length))
theorem no_of {p : Prop} (h : ¬ p) : (false = true ↔ p) := ⟨fun e => (by cases e), fun h' => absurd h' h⟩
theorem yes_of {p : Prop} (h : p) : (true = true ↔ p) := ⟨fun _ => h, fun _ => rfl⟩
/-- What stands while a client is looked at. -/
def CA (W : World) (c : Cln) (v : Value) (w : World) : Prop := Lies W.heap.size 0 [.int .i64 c.n, .int .i64 c.m, .int .i64 c.se, .int .i64 c.ph, .int .i64 c.gs, .int .u64 ((c.gr.a).toNat : Int), .int .u64 ((c.gr.b).toNat : Int), .int .u64 ((c.gr.c).toNat : Int), .int .u64 ((c.gr.d).toNat : Int), v, .int .i64 c.ps, .int .u64 ((c.pr.a).toNat : Int), .int .u64 ((c.pr.b).toNat : Int), .int .u64 ((c.pr.c).toNat : Int), .int .u64 ((c.pr.d).toNat : Int)] w ∧ W.heap.size < w.heap.size ∧ Below W.heap.size W w
theorem CA.call {W : World} {c : Cln} {v : Value} {w w' : World} (h : CA W c v w) (hb : Below w.heap.size w w') : CA W c v w' :=
  ⟨h.1.call hb h.2.1, Nat.lt_of_lt_of_le h.2.1 hb.size, below_after h.2.2 hb h.2.2.size⟩
theorem CA.new (W : World) (c : Cln) (v : Value) : CA W c v (W.alloc (.cells #[.int .i64 c.n, .int .i64 c.m, .int .i64 c.se, .int .i64 c.ph, .int .i64 c.gs, .int .u64 ((c.gr.a).toNat : Int), .int .u64 ((c.gr.b).toNat : Int), .int .u64 ((c.gr.c).toNat : Int), .int .u64 ((c.gr.d).toNat : Int), v, .int .i64 c.ps, .int .u64 ((c.pr.a).toNat : Int), .int .u64 ((c.pr.b).toNat : Int), .int .u64 ((c.pr.c).toNat : Int), .int .u64 ((c.pr.d).toNat : Int)] 36)) :=
  ⟨Lies.new W [.int .i64 c.n, .int .i64 c.m, .int .i64 c.se, .int .i64 c.ph, .int .i64 c.gs, .int .u64 ((c.gr.a).toNat : Int), .int .u64 ((c.gr.b).toNat : Int), .int .u64 ((c.gr.c).toNat : Int), .int .u64 ((c.gr.d).toNat : Int), v, .int .i64 c.ps, .int .u64 ((c.pr.a).toNat : Int), .int .u64 ((c.pr.b).toNat : Int), .int .u64 ((c.pr.c).toNat : Int), .int .u64 ((c.pr.d).toNat : Int)] 36, by simp, (Below.refl _ _).alloc (Nat.le_refl _) _⟩
theorem CA.cells {W : World} {c : Cln} {v : Value} {w : World} (h : CA W c v w) : w.cell? ⟨W.heap.size, 0, none⟩ = some (.int .i64 c.n) ∧ w.cell? ⟨W.heap.size, 1, none⟩ = some (.int .i64 c.m) ∧ w.cell? ⟨W.heap.size, 2, none⟩ = some (.int .i64 c.se) ∧ w.cell? ⟨W.heap.size, 3, none⟩ = some (.int .i64 c.ph) ∧ w.cell? ⟨W.heap.size, 4, none⟩ = some (.int .i64 c.gs) ∧ w.cell? ⟨W.heap.size, 5, none⟩ = some (.int .u64 ((c.gr.a).toNat : Int)) ∧ w.cell? ⟨W.heap.size, 6, none⟩ = some (.int .u64 ((c.gr.b).toNat : Int)) ∧ w.cell? ⟨W.heap.size, 7, none⟩ = some (.int .u64 ((c.gr.c).toNat : Int)) ∧ w.cell? ⟨W.heap.size, 8, none⟩ = some (.int .u64 ((c.gr.d).toNat : Int)) ∧ w.cell? ⟨W.heap.size, 9, none⟩ = some (v) ∧ w.cell? ⟨W.heap.size, 10, none⟩ = some (.int .i64 c.ps) ∧ w.cell? ⟨W.heap.size, 11, none⟩ = some (.int .u64 ((c.pr.a).toNat : Int)) ∧ w.cell? ⟨W.heap.size, 12, none⟩ = some (.int .u64 ((c.pr.b).toNat : Int)) ∧ w.cell? ⟨W.heap.size, 13, none⟩ = some (.int .u64 ((c.pr.c).toNat : Int)) ∧ w.cell? ⟨W.heap.size, 14, none⟩ = some (.int .u64 ((c.pr.d).toNat : Int)) := by
  have hc := fun j u (hj : ([.int .i64 c.n, .int .i64 c.m, .int .i64 c.se, .int .i64 c.ph, .int .i64 c.gs, .int .u64 ((c.gr.a).toNat : Int), .int .u64 ((c.gr.b).toNat : Int), .int .u64 ((c.gr.c).toNat : Int), .int .u64 ((c.gr.d).toNat : Int), v, .int .i64 c.ps, .int .u64 ((c.pr.a).toNat : Int), .int .u64 ((c.pr.b).toNat : Int), .int .u64 ((c.pr.c).toNat : Int), .int .u64 ((c.pr.d).toNat : Int)] : List Value)[j]? = some u) => by
    have := h.1 j u hj
    rwa [Nat.zero_add] at this
  exact ⟨hc 0 _ rfl, hc 1 _ rfl, hc 2 _ rfl, hc 3 _ rfl, hc 4 _ rfl, hc 5 _ rfl, hc 6 _ rfl, hc 7 _ rfl, hc 8 _ rfl, hc 9 _ rfl, hc 10 _ rfl, hc 11 _ rfl, hc 12 _ rfl, hc 13 _ rfl, hc 14 _ rfl⟩
theorem CA.goal {W : World} {c : Cln} {v : Value} {w : World} (h : CA W c v w) : Lies W.heap.size 4 [.int .i64 c.gs, .int .u64 ((c.gr.a).toNat : Int), .int .u64 ((c.gr.b).toNat : Int), .int .u64 ((c.gr.c).toNat : Int), .int .u64 ((c.gr.d).toNat : Int)] w := h.1.part 4 5
theorem CA.pin {W : World} {c : Cln} {v : Value} {w : World} (h : CA W c v w) : Lies W.heap.size 10 [.int .i64 c.ps, .int .u64 ((c.pr.a).toNat : Int), .int .u64 ((c.pr.b).toNat : Int), .int .u64 ((c.pr.c).toNat : Int), .int .u64 ((c.pr.d).toNat : Int)] w := h.1.part 10 5
theorem pok_bnd {s : Int} {q : Qd} (h : pok s q = true) : 0 ≤ s ∧ s ≤ 256 := by
  unfold pok nop at h
  rw [Bool.or_eq_true, decide_eq_true_iff, decide_eq_true_iff] at h
  omega
set_option maxRecDepth 20000 in
set_option maxHeartbeats 4000000 in
theorem cok_spec (W : World) (c : Cln) (v : Value) (X : List Int) (h : Its W v X) :
    Calls Tryd.prog 6 #[.agg #[.int .i64 c.n, .int .i64 c.m, .int .i64 c.se, .int .i64 c.ph, .int .i64 c.gs, .int .u64 ((c.gr.a).toNat : Int), .int .u64 ((c.gr.b).toNat : Int), .int .u64 ((c.gr.c).toNat : Int), .int .u64 ((c.gr.d).toNat : Int), v, .int .i64 c.ps, .int .u64 ((c.pr.a).toNat : Int), .int .u64 ((c.pr.b).toNat : Int), .int .u64 ((c.pr.c).toNat : Int), .int .u64 ((c.pr.d).toNat : Int)]] W fun e w' => ∃ b, e = .returned (.bool b) ∧ Below W.heap.size W w' ∧ (b = true ↔ Cok c X) := by
  obtain ⟨oa, cap, rfl, hl⟩ := h.len
  have H : Hid (Its W (.slice oa X.length cap) X) := h
  clear h
  have c1 := fun (V : World) => in_is c.m 1 7 V
  have c2 := fun (V : World) => in_is c.n 1 c.m V
  have c3 := fun (V : World) => in_is c.se 0 1000000 V
  have cp := fun V : World => pins_is c.ps c.pr V
  have A0 := CA.new W c (.slice oa X.length cap)
  go_enter Tryd.func6, Tryd.ntmps6
  go_upto_region 1 with fail
  generalize W.alloc (.cells #[.int .i64 c.n, .int .i64 c.m, .int .i64 c.se, .int .i64 c.ph, .int .i64 c.gs, .int .u64 ((c.gr.a).toNat : Int), .int .u64 ((c.gr.b).toNat : Int), .int .u64 ((c.gr.c).toNat : Int), .int .u64 ((c.gr.d).toNat : Int), (.slice oa X.length cap), .int .i64 c.ps, .int .u64 ((c.pr.a).toNat : Int), .int .u64 ((c.pr.b).toNat : Int), .int .u64 ((c.pr.c).toNat : Int), .int .u64 ((c.pr.d).toNat : Int)] 36) = w0 at A0 ⊢
  obtain ⟨a0, a1, a2, a3, a4, a5, a6, a7, a8, a9, a10, a11, a12, a13, a14⟩ := A0.cells
  have zz := A0.2.2
  cases hk : nok c.n c.m with
  | false =>
    have hkn : ¬ (1 ≤ c.m ∧ c.m ≤ 7 ∧ 1 ≤ c.n ∧ c.n ≤ c.m ∧ c.m < 2 * c.n) := of_decide_eq_false hk
    have hno : ¬ Cok c X := fun h => by rw [h.1] at hk; cases hk
    by_cases hm : 1 ≤ c.m ∧ c.m ≤ 7
    · have e1 : (decide (1 ≤ c.m) && decide (c.m ≤ 7)) = true := by rw [decide_eq_true hm.1, decide_eq_true hm.2]; rfl
      rw [e1] at c1
      by_cases hn : 1 ≤ c.n ∧ c.n ≤ c.m
      · have e2 : (decide (1 ≤ c.n) && decide (c.n ≤ c.m)) = true := by rw [decide_eq_true hn.1, decide_eq_true hn.2]; rfl
        rw [e2] at c2
        have hw : IntKind.i64.wrap (2 * c.n) = 2 * c.n := IntWalk.i64_in _ (by omega)
        have h6 : 2 * c.n ≤ c.m := by omega
        clear hm hn e1 e2 hkn hk
        go_wp2_with (first
          | (go_at_call_of 15 (Value.int IntKind.i64 7); refine (c1 _).mono ?_; rintro e w1 ⟨rfl, hw1⟩; subst hw1)
          | (go_at_call 15; refine (c2 _).mono ?_; rintro e w1 ⟨rfl, hw1⟩; subst hw1))
        go_ret
        first | exact ⟨false, rfl, zz, no_of hno⟩ | exact ⟨rfl, zz⟩ | exact ⟨rfl, zz, hno⟩
      · have e2 : (decide (1 ≤ c.n) && decide (c.n ≤ c.m)) = false := by rw [Bool.and_eq_false_iff, decide_eq_false_iff_not, decide_eq_false_iff_not]; omega
        rw [e2] at c2
        clear hm hn e1 e2 hkn hk
        go_wp2_with (first
          | (go_at_call_of 15 (Value.int IntKind.i64 7); refine (c1 _).mono ?_; rintro e w1 ⟨rfl, hw1⟩; subst hw1)
          | (go_at_call 15; refine (c2 _).mono ?_; rintro e w1 ⟨rfl, hw1⟩; subst hw1))
        go_ret
        first | exact ⟨false, rfl, zz, no_of hno⟩ | exact ⟨rfl, zz⟩ | exact ⟨rfl, zz, hno⟩
    · have e1 : (decide (1 ≤ c.m) && decide (c.m ≤ 7)) = false := by rw [Bool.and_eq_false_iff, decide_eq_false_iff_not, decide_eq_false_iff_not]; omega
      rw [e1] at c1
      clear hm e1 hkn hk
      go_wp2_with (first
        | (go_at_call_of 15 (Value.int IntKind.i64 7); refine (c1 _).mono ?_; rintro e w1 ⟨rfl, hw1⟩; subst hw1)
        | (go_at_call 15; refine (c2 _).mono ?_; rintro e w1 ⟨rfl, hw1⟩; subst hw1))
      go_ret
      first | exact ⟨false, rfl, zz, no_of hno⟩ | exact ⟨rfl, zz⟩ | exact ⟨rfl, zz, hno⟩
  | true =>
    have hkn : (1 ≤ c.m ∧ c.m ≤ 7 ∧ 1 ≤ c.n ∧ c.n ≤ c.m ∧ c.m < 2 * c.n) := of_decide_eq_true hk
    have hm7 := hkn.2.1
    have hn7 : c.n ≤ 7 := by omega
    have e1 : (decide (1 ≤ c.m) && decide (c.m ≤ 7)) = true := by rw [decide_eq_true hkn.1, decide_eq_true hkn.2.1]; rfl
    have e2 : (decide (1 ≤ c.n) && decide (c.n ≤ c.m)) = true := by rw [decide_eq_true hkn.2.2.1, decide_eq_true hkn.2.2.2.1]; rfl
    rw [e1] at c1
    rw [e2] at c2
    have hw : IntKind.i64.wrap (2 * c.n) = 2 * c.n := IntWalk.i64_in _ (by omega)
    have h6 : ¬ 2 * c.n ≤ c.m := by omega
    clear e1 e2 hkn
    go_upto_region 3 with (first
      | (go_at_call_of 15 (Value.int IntKind.i64 7); refine (c1 _).mono ?_; rintro e w1 ⟨rfl, hw1⟩; subst hw1)
      | (go_at_call 15; refine (c2 _).mono ?_; rintro e w1 ⟨rfl, hw1⟩; subst hw1))
    clear c1 c2 hw h6
    by_cases hs : 0 ≤ c.se ∧ c.se ≤ 1000000
    · have e3 : (decide (0 ≤ c.se) && decide (c.se ≤ 1000000)) = true := by rw [decide_eq_true hs.1, decide_eq_true hs.2]; rfl
      rw [e3] at c3
      cases hp : pok c.ps c.pr with
      | false =>
        have hno : ¬ Cok c X := fun h => by rw [h.2.2.1] at hp; cases hp
        rw [hp] at cp
        go_wp2_with (first
          | (go_at_call 15; refine (c3 _).mono ?_; rintro e w1 ⟨rfl, hw1⟩; subst hw1)
          | (go_at_call 16; refine (cp _).mono ?_; rintro e w1 ⟨rfl, b1⟩; have A1 := A0.call b1; have z1 := A1.2.2))
        go_ret
        exact ⟨false, rfl, z1, no_of hno⟩
      | true =>
        rw [hp] at cp
        go_upto_region 5 with (first
          | (go_at_call 15; refine (c3 _).mono ?_; rintro e w1 ⟨rfl, hw1⟩; subst hw1)
          | (go_at_call 16; refine (cp _).mono ?_; rintro e w1 ⟨rfl, b1⟩; have A1 := A0.call b1; clear a0 a1 a2 a3 a4 a5 a6 a7 a8 a9 a10 a11 a12 a13 a14 zz A0 b1))
        clear c3 cp e3
        obtain ⟨a0, a1, a2, a3, a4, a5, a6, a7, a8, a9, a10, a11, a12, a13, a14⟩ := A1.cells
        have zz := A1.2.2
        by_cases h0 : c.ph = 0
        · rw [h0] at a3
          have hC : Cok c X ↔ nop c.gs c.gr = true ∧ X.length = 0 := ⟨fun h => by rcases h.2.2.2 with h | h | h <;> first | exact h.2 | (exfalso; have := h.1; omega), fun h => ⟨hk, hs, hp, .inl ⟨h0, h⟩⟩⟩
          by_cases hx : X.length = 0
          · have hxI : ((X.length : Int) == 0) = true := by rw [beq_iff_eq]; omega
            have hse := hs.1
            go_wp2_with fail
            all_goals
              go_ret
              refine ⟨_, rfl, zz, ?_⟩
              rw [hC]
              simp_all [nop]
          · have hxI : ((X.length : Int) == 0) = false := by rw [beq_eq_false_iff_ne]; omega
            have hse := hs.1
            go_wp2_with fail
            all_goals
              go_ret
              refine ⟨_, rfl, zz, ?_⟩
              rw [hC]
              simp_all [nop]
        · by_cases h1 : c.ph = 1
          · rw [h1] at a3
            have hC : Cok c X ↔ nop c.gs c.gr = true ∧ X.length = 0 ∧ 1 ≤ c.se := ⟨fun h => by rcases h.2.2.2 with h | h | h <;> first | exact h.2 | (exfalso; have := h.1; omega), fun h => ⟨hk, hs, hp, .inr (.inl ⟨h1, h⟩)⟩⟩
            by_cases hx : X.length = 0
            · have hxI : ((X.length : Int) == 0) = true := by rw [beq_iff_eq]; omega
              have hse := hs.1
              go_wp2_with fail
              all_goals
                go_ret
                refine ⟨_, rfl, zz, ?_⟩
                rw [hC]
                simp_all [nop]
            · have hxI : ((X.length : Int) == 0) = false := by rw [beq_eq_false_iff_ne]; omega
              have hse := hs.1
              go_wp2_with fail
              all_goals
                go_ret
                refine ⟨_, rfl, zz, ?_⟩
                rw [hC]
                simp_all [nop]
          · by_cases h2 : c.ph = 2
            · rw [h2] at a3
              have hC : Cok c X ↔ 1 ≤ c.se ∧ (c.ps + 1 ≤ c.gs ∧ c.gs ≤ 256) ∧ (X.length : Int) < c.n ∧ Asc c.m X X.length := ⟨fun h => by rcases h.2.2.2 with h | h | h <;> first | exact h.2 | (exfalso; have := h.1; omega), fun h => ⟨hk, hs, hp, .inr (.inr ⟨h2, h⟩)⟩⟩
              by_cases hse : 1 ≤ c.se
              · have hseI : ¬ c.se < 1 := by omega
                obtain ⟨hps, hps'⟩ := pok_bnd hp
                have hwp : IntKind.i64.wrap (c.ps + 1) = c.ps + 1 := IntWalk.i64_in _ (by omega)
                have cg := fun V : World => in_is c.gs (c.ps + 1) 256 V
                by_cases hg : c.ps + 1 ≤ c.gs ∧ c.gs ≤ 256
                · have eg : (decide (c.ps + 1 ≤ c.gs) && decide (c.gs ≤ 256)) = true := by rw [decide_eq_true hg.1, decide_eq_true hg.2]; rfl
                  rw [eg] at cg
                  by_cases hn : (X.length : Int) < c.n
                  · have hnI : ¬ c.n ≤ (X.length : Int) := by omega
                    have hlI : (X.length : Int) ≤ 7 := by omega
                    have hC' : Cok c X ↔ Asc c.m X X.length := ⟨fun h => (hC.1 h).2.2.2, fun h => hC.2 ⟨hse, hg, hn, h⟩⟩
                    clear eg hC h0 h1 h2 hk hs hp
                    go_upto_region 10 with (go_at_call 15; refine (cg _).mono ?_; rintro e w2 ⟨rfl, hw2⟩; subst hw2)
                    clear cg hwp hps hps' hseI hse hg hn hnI a0 a1 a2 a3 a4 a5 a6 a7 a8 a9 a10 a11 a12 a13 a14 zz
                    go_loopw [3] (fun i wr => ∃ k : Nat, k ≤ X.length ∧ i = .int .i64 (k : Int) ∧ Hid (Asc c.m X k ∧ CA W c (.slice oa X.length cap) wr)) (fun i _ => X.length - (intOf i).toNat)
                    case atStart => exact ⟨0, by omega, rfl, Asc.zero _ _, A1⟩
                    case round =>
                      obtain ⟨k, hkx, rfl, HK⟩ := hrel
                      obtain ⟨hA, A2⟩ := HK.out
                      clear HK A1
                      have zz := A2.2.2
                      have d1 := A2.cells.2.1
                      have d9 := A2.cells.2.2.2.2.2.2.2.2.2.1
                      by_cases hlt : k < X.length
                      · obtain ⟨a, rfl⟩ : ∃ a, oa = some a := by
                          rcases H.out.call zz with ⟨_, h0⟩ | ⟨a, cap', hv, _, _, _, hc⟩
                          · rw [h0] at hlt; exact absurd hlt (Nat.not_lt_zero _)
                          · injection hv with e1
                            exact ⟨a, e1⟩
                        have hkI : (k : Int) < (X.length : Int) := by omega
                        go_upto_region 12 with fail
                        have A3 := A2.call (Below.refl wr.heap.size wr).drew
                        obtain ⟨a', e', hcell⟩ : ∃ a', a = a' ∧ ∀ i, ∀ h : i < X.length, wr.drew.cell? (a'.add i) = some (.int .i64 X[i]) := by
                          rcases H.out.call A3.2.2 with ⟨h0, _⟩ | ⟨a', cap', hv, _, _, _, hc⟩
                          · cases h0
                          · injection hv with e1
                            injection e1 with e1
                            exact ⟨a', e1, hc⟩
                        subst e'
                        clear d1 d9
                        have d1 := A3.cells.2.1
                        have d9 := A3.cells.2.2.2.2.2.2.2.2.2.1
                        have hd := hcell k hlt
                        obtain ⟨y, hy⟩ : ∃ y, y = X[k] := ⟨_, rfl⟩
                        rw [← hy] at hd
                        have cy := fun V : World => in_is y 1 c.m V
                        by_cases hr : 1 ≤ y ∧ y ≤ c.m
                        · have er : (decide (1 ≤ y) && decide (y ≤ c.m)) = true := by rw [decide_eq_true hr.1, decide_eq_true hr.2]; rfl
                          rw [er] at cy
                          by_cases hk0 : k = 0
                          · subst hk0
                            have ha0 : a.add 0 = a := rfl
                            rw [ha0] at hd
                            have HN : Hid (Asc c.m X 1 ∧ CA W c (.slice (some a) X.length cap) wr.drew) := ⟨hA.step hlt (hy ▸ hr.1) (hy ▸ hr.2) (fun h => absurd h (by omega)), A3⟩
                            clear hcell hA hr er A2 A3 zz hy
                            refine wp_region_held_drew (S := fun w' => w'.cell? ⟨W.heap.size, 9, none⟩ = some (.slice (some a) X.length cap) ∧ w'.cell? ⟨W.heap.size, 1, none⟩ = some (.int .i64 c.m) ∧ w'.cell? (a) = some (.int .i64 y)) (by kernel_rfl) ⟨d9, d1, hd⟩ (fun hHeld => ?_)
                            refine wpAnyH_take (i := 0) (oi := { dst := some 93, op := Op.fieldAddr 36 (Operand.tmp 1) 5, type := 0, pos := "l10_client.go:24", after := #[], guard := none }) (v := .pointer (some ⟨W.heap.size, 9, none⟩)) rfl (by kernel_rfl) (by kernel_rfl) (by kernel_rfl) (fun _ _ _ h => h) (Or.inl ⟨by rfl, ?_⟩) (by assumption) ?_
                            · (intro wq hq; first | (go_simp; done) | (go_simp; rfl) | (go_simp; omega))
                            try simp only [Act.put, List.setIfInBounds_toArray, List.set_cons_zero, List.set_cons_succ]
                            refine wpAnyH_take (i := 1) (oi := { dst := some 94, op := Op.load 27 (Operand.tmp 93), type := 27, pos := "l10_client.go:24", after := #[{ on := 0, ground := Ground.data }], guard := none }) (v := .slice (some a) X.length cap) rfl (by kernel_rfl) (by kernel_rfl) (by kernel_rfl) (fun _ _ _ h => h) (Or.inl ⟨by rfl, ?_⟩) (by assumption) ?_
                            · (intro wq hq; have hx := hq.1; clear hq; first | (go_simp; done) | (go_simp; rfl))
                            try simp only [Act.put, List.setIfInBounds_toArray, List.set_cons_zero, List.set_cons_succ]
                            refine wpAnyH_take (i := 2) (oi := { dst := some 95, op := Op.move (Operand.tmp 3), type := 3, pos := "l10_client.go:24", after := #[], guard := none }) (v := .int .i64 0) rfl (by kernel_rfl) (by kernel_rfl) (by kernel_rfl) (fun _ _ _ h => h) (Or.inl ⟨by rfl, ?_⟩) (by assumption) ?_
                            · (intro wq hq; first | (go_simp; done) | (go_simp; rfl) | (go_simp; omega))
                            try simp only [Act.put, List.setIfInBounds_toArray, List.set_cons_zero, List.set_cons_succ]
                            refine wpAnyH_take (i := 3) (oi := { dst := some 96, op := Op.indexAddr 27 (Operand.tmp 94) (Operand.tmp 95), type := 0, pos := "l10_client.go:24", after := #[{ on := 1, ground := Ground.data }, { on := 2, ground := Ground.data }], guard := none }) (v := .pointer (some (a))) rfl (by kernel_rfl) (by kernel_rfl) (by kernel_rfl) (fun _ _ _ h => h) (Or.inl ⟨by rfl, ?_⟩) (by assumption) ?_
                            · (intro wq hq; first | (go_simp; done) | (go_simp; rfl) | (go_simp; omega))
                            try simp only [Act.put, List.setIfInBounds_toArray, List.set_cons_zero, List.set_cons_succ]
                            refine wpAnyH_take (i := 4) (oi := { dst := some 97, op := Op.load 3 (Operand.tmp 96), type := 3, pos := "l10_client.go:24", after := #[{ on := 3, ground := Ground.data }], guard := none }) (v := .int .i64 y) rfl (by kernel_rfl) (by kernel_rfl) (by kernel_rfl) (fun _ _ _ h => h) (Or.inl ⟨by rfl, ?_⟩) (by assumption) ?_
                            · (intro wq hq; have hx := hq.2.2; clear hq; first | (go_simp; done) | (go_simp; rfl))
                            try simp only [Act.put, List.setIfInBounds_toArray, List.set_cons_zero, List.set_cons_succ]
                            refine wpAnyH_take (i := 5) (oi := { dst := some 98, op := Op.fieldAddr 36 (Operand.tmp 1) 1, type := 0, pos := "l10_client.go:24", after := #[], guard := none }) (v := .pointer (some ⟨W.heap.size, 1, none⟩)) rfl (by kernel_rfl) (by kernel_rfl) (by kernel_rfl) (fun _ _ _ h => h) (Or.inl ⟨by rfl, ?_⟩) (by assumption) ?_
                            · (intro wq hq; first | (go_simp; done) | (go_simp; rfl) | (go_simp; omega))
                            try simp only [Act.put, List.setIfInBounds_toArray, List.set_cons_zero, List.set_cons_succ]
                            refine wpAnyH_take (i := 6) (oi := { dst := some 99, op := Op.load 3 (Operand.tmp 98), type := 3, pos := "l10_client.go:24", after := #[{ on := 5, ground := Ground.data }], guard := none }) (v := .int .i64 c.m) rfl (by kernel_rfl) (by kernel_rfl) (by kernel_rfl) (fun _ _ _ h => h) (Or.inl ⟨by rfl, ?_⟩) (by assumption) ?_
                            · (intro wq hq; have hx := hq.2.1; clear hq; first | (go_simp; done) | (go_simp; rfl))
                            try simp only [Act.put, List.setIfInBounds_toArray, List.set_cons_zero, List.set_cons_succ]
                            refine wpAnyH_ready (rs := [7]) (by kernel_rfl) (by simp) ?_
                            refine AllReadyH.cons (o := { dst := some 100, op := Op.call { callee := Callee.value (Operand.func 15), args := #[Operand.tmp 97, Operand.const (Value.int IntKind.i64 1), Operand.tmp 99], argTypes := #[3, 3, 3] }, type := 4, pos := "l10_client.go:24", after := #[{ on := 4, ground := Ground.data }, { on := 6, ground := Ground.data }], guard := none }) rfl (fun K hK => ?_) AllReadyH.nil
                            go_simp
                            go_at_call 15
                            refine (cy _).mono ?_
                            rintro e w2 ⟨rfl, hw2⟩
                            subst hw2
                            go_simp
                            refine hK.out _ _ hHeld (fun hHeld => ?_)
                            clear hK K
                            refine wpAnyH_take (i := 8) (oi := { dst := some 101, op := Op.unOp UnOp.not 4 (Operand.tmp 100), type := 4, pos := "l10_client.go:24", after := #[{ on := 7, ground := Ground.data }], guard := none }) (v := .bool false) rfl (by kernel_rfl) (by kernel_rfl) (by kernel_rfl) (fun _ _ _ h => h) (Or.inl ⟨by rfl, ?_⟩) (by assumption) ?_
                            · (intro wq hq; first | (go_simp; done) | (go_simp; rfl) | (go_simp; omega))
                            try simp only [Act.put, List.setIfInBounds_toArray, List.set_cons_zero, List.set_cons_succ]
                            refine wpAnyH_take (i := 9) (oi := { dst := some 102, op := Op.move (Operand.tmp 101), type := 4, pos := "l10_client.go:24", after := #[{ on := 8, ground := Ground.data }, { on := 7, ground := Ground.chain }], guard := none }) (v := .bool false) rfl (by kernel_rfl) (by kernel_rfl) (by kernel_rfl) (fun _ _ _ h => h) (Or.inl ⟨by rfl, ?_⟩) (by assumption) ?_
                            · (intro wq hq; first | (go_simp; done) | (go_simp; rfl) | (go_simp; omega))
                            try simp only [Act.put, List.setIfInBounds_toArray, List.set_cons_zero, List.set_cons_succ]
                            refine wpAnyH_take (i := 10) (oi := { dst := some 103, op := Op.move (Operand.tmp 3), type := 3, pos := "l10_client.go:24", after := #[{ on := 9, ground := Ground.guard }], guard := some (9, false) }) (v := .int .i64 0) rfl (by kernel_rfl) (by kernel_rfl) (by kernel_rfl) (fun _ _ _ h => h) (Or.inl ⟨by rfl, ?_⟩) (by assumption) ?_
                            · (intro wq hq; first | (go_simp; done) | (go_simp; rfl) | (go_simp; omega))
                            try simp only [Act.put, List.setIfInBounds_toArray, List.set_cons_zero, List.set_cons_succ]
                            refine wpAnyH_take (i := 11) (oi := { dst := some 104, op := Op.binOp BinOp.gtr 3 (Operand.tmp 103) (Operand.const (Value.int IntKind.i64 0)) 3, type := 4, pos := "l10_client.go:24", after := #[{ on := 10, ground := Ground.data }, { on := 9, ground := Ground.guard }], guard := some (9, false) }) (v := .bool false) rfl (by kernel_rfl) (by kernel_rfl) (by kernel_rfl) (fun _ _ _ h => h) (Or.inl ⟨by rfl, ?_⟩) (by assumption) ?_
                            · (intro wq hq; first | (go_simp; done) | (go_simp; rfl) | (go_simp; omega))
                            try simp only [Act.put, List.setIfInBounds_toArray, List.set_cons_zero, List.set_cons_succ]
                            refine wpAnyH_take (i := 12) (oi := { dst := some 105, op := Op.move (Operand.tmp 104), type := 4, pos := "l10_client.go:24", after := #[{ on := 11, ground := Ground.data }, { on := 9, ground := Ground.chain }, { on := 9, ground := Ground.guard }], guard := some (9, false) }) (v := .bool false) rfl (by kernel_rfl) (by kernel_rfl) (by kernel_rfl) (fun _ _ _ h => h) (Or.inl ⟨by rfl, ?_⟩) (by assumption) ?_
                            · (intro wq hq; first | (go_simp; done) | (go_simp; rfl) | (go_simp; omega))
                            try simp only [Act.put, List.setIfInBounds_toArray, List.set_cons_zero, List.set_cons_succ]
                            refine wpAnyH_take (i := 13) (oi := { dst := some 106, op := Op.fieldAddr 36 (Operand.tmp 1) 5, type := 0, pos := "l10_client.go:24", after := #[{ on := 12, ground := Ground.guard }], guard := some (12, true) }) (v := undef) rfl (by kernel_rfl) (by kernel_rfl) (by kernel_rfl) (fun _ _ _ h => h) (Or.inr ⟨by rfl, rfl⟩) (by assumption) ?_
                            try simp only [Act.put, List.setIfInBounds_toArray, List.set_cons_zero, List.set_cons_succ]
                            refine wpAnyH_take (i := 14) (oi := { dst := some 107, op := Op.load 27 (Operand.tmp 106), type := 27, pos := "l10_client.go:24", after := #[{ on := 13, ground := Ground.data }, { on := 12, ground := Ground.guard }], guard := some (12, true) }) (v := undef) rfl (by kernel_rfl) (by kernel_rfl) (by kernel_rfl) (fun _ _ _ h => h) (Or.inr ⟨by rfl, rfl⟩) (by assumption) ?_
                            try simp only [Act.put, List.setIfInBounds_toArray, List.set_cons_zero, List.set_cons_succ]
                            refine wpAnyH_take (i := 15) (oi := { dst := some 108, op := Op.move (Operand.tmp 3), type := 3, pos := "l10_client.go:24", after := #[{ on := 12, ground := Ground.guard }], guard := some (12, true) }) (v := undef) rfl (by kernel_rfl) (by kernel_rfl) (by kernel_rfl) (fun _ _ _ h => h) (Or.inr ⟨by rfl, rfl⟩) (by assumption) ?_
                            try simp only [Act.put, List.setIfInBounds_toArray, List.set_cons_zero, List.set_cons_succ]
                            refine wpAnyH_take (i := 16) (oi := { dst := some 109, op := Op.binOp BinOp.sub 3 (Operand.tmp 108) (Operand.const (Value.int IntKind.i64 1)) 3, type := 3, pos := "l10_client.go:24", after := #[{ on := 15, ground := Ground.data }, { on := 12, ground := Ground.guard }], guard := some (12, true) }) (v := undef) rfl (by kernel_rfl) (by kernel_rfl) (by kernel_rfl) (fun _ _ _ h => h) (Or.inr ⟨by rfl, rfl⟩) (by assumption) ?_
                            try simp only [Act.put, List.setIfInBounds_toArray, List.set_cons_zero, List.set_cons_succ]
                            refine wpAnyH_take (i := 17) (oi := { dst := some 110, op := Op.indexAddr 27 (Operand.tmp 107) (Operand.tmp 109), type := 0, pos := "l10_client.go:24", after := #[{ on := 14, ground := Ground.data }, { on := 16, ground := Ground.data }, { on := 12, ground := Ground.guard }], guard := some (12, true) }) (v := undef) rfl (by kernel_rfl) (by kernel_rfl) (by kernel_rfl) (fun _ _ _ h => h) (Or.inr ⟨by rfl, rfl⟩) (by assumption) ?_
                            try simp only [Act.put, List.setIfInBounds_toArray, List.set_cons_zero, List.set_cons_succ]
                            refine wpAnyH_take (i := 18) (oi := { dst := some 111, op := Op.load 3 (Operand.tmp 110), type := 3, pos := "l10_client.go:24", after := #[{ on := 17, ground := Ground.data }, { on := 12, ground := Ground.guard }], guard := some (12, true) }) (v := undef) rfl (by kernel_rfl) (by kernel_rfl) (by kernel_rfl) (fun _ _ _ h => h) (Or.inr ⟨by rfl, rfl⟩) (by assumption) ?_
                            try simp only [Act.put, List.setIfInBounds_toArray, List.set_cons_zero, List.set_cons_succ]
                            refine wpAnyH_take (i := 19) (oi := { dst := some 112, op := Op.fieldAddr 36 (Operand.tmp 1) 5, type := 0, pos := "l10_client.go:24", after := #[{ on := 12, ground := Ground.guard }], guard := some (12, true) }) (v := undef) rfl (by kernel_rfl) (by kernel_rfl) (by kernel_rfl) (fun _ _ _ h => h) (Or.inr ⟨by rfl, rfl⟩) (by assumption) ?_
                            try simp only [Act.put, List.setIfInBounds_toArray, List.set_cons_zero, List.set_cons_succ]
                            refine wpAnyH_take (i := 20) (oi := { dst := some 113, op := Op.load 27 (Operand.tmp 112), type := 27, pos := "l10_client.go:24", after := #[{ on := 19, ground := Ground.data }, { on := 12, ground := Ground.guard }], guard := some (12, true) }) (v := undef) rfl (by kernel_rfl) (by kernel_rfl) (by kernel_rfl) (fun _ _ _ h => h) (Or.inr ⟨by rfl, rfl⟩) (by assumption) ?_
                            try simp only [Act.put, List.setIfInBounds_toArray, List.set_cons_zero, List.set_cons_succ]
                            refine wpAnyH_take (i := 21) (oi := { dst := some 114, op := Op.move (Operand.tmp 3), type := 3, pos := "l10_client.go:24", after := #[{ on := 12, ground := Ground.guard }], guard := some (12, true) }) (v := undef) rfl (by kernel_rfl) (by kernel_rfl) (by kernel_rfl) (fun _ _ _ h => h) (Or.inr ⟨by rfl, rfl⟩) (by assumption) ?_
                            try simp only [Act.put, List.setIfInBounds_toArray, List.set_cons_zero, List.set_cons_succ]
                            refine wpAnyH_take (i := 22) (oi := { dst := some 115, op := Op.indexAddr 27 (Operand.tmp 113) (Operand.tmp 114), type := 0, pos := "l10_client.go:24", after := #[{ on := 20, ground := Ground.data }, { on := 21, ground := Ground.data }, { on := 12, ground := Ground.guard }], guard := some (12, true) }) (v := undef) rfl (by kernel_rfl) (by kernel_rfl) (by kernel_rfl) (fun _ _ _ h => h) (Or.inr ⟨by rfl, rfl⟩) (by assumption) ?_
                            try simp only [Act.put, List.setIfInBounds_toArray, List.set_cons_zero, List.set_cons_succ]
                            refine wpAnyH_take (i := 23) (oi := { dst := some 116, op := Op.load 3 (Operand.tmp 115), type := 3, pos := "l10_client.go:24", after := #[{ on := 22, ground := Ground.data }, { on := 12, ground := Ground.guard }], guard := some (12, true) }) (v := undef) rfl (by kernel_rfl) (by kernel_rfl) (by kernel_rfl) (fun _ _ _ h => h) (Or.inr ⟨by rfl, rfl⟩) (by assumption) ?_
                            try simp only [Act.put, List.setIfInBounds_toArray, List.set_cons_zero, List.set_cons_succ]
                            refine wpAnyH_take (i := 24) (oi := { dst := some 117, op := Op.binOp BinOp.geq 3 (Operand.tmp 111) (Operand.tmp 116) 3, type := 4, pos := "l10_client.go:24", after := #[{ on := 18, ground := Ground.data }, { on := 23, ground := Ground.data }, { on := 12, ground := Ground.guard }], guard := some (12, true) }) (v := undef) rfl (by kernel_rfl) (by kernel_rfl) (by kernel_rfl) (fun _ _ _ h => h) (Or.inr ⟨by rfl, rfl⟩) (by assumption) ?_
                            try simp only [Act.put, List.setIfInBounds_toArray, List.set_cons_zero, List.set_cons_succ]
                            refine wpAnyH_take (i := 25) (oi := { dst := some 118, op := Op.pick (Operand.tmp 105) (Operand.tmp 117) (Operand.const (Value.bool false)), type := 4, pos := "l10_client.go:24", after := #[{ on := 12, ground := Ground.data }, { on := 24, ground := Ground.data }, { on := 9, ground := Ground.guard }], guard := some (9, false) }) (v := .bool false) rfl (by kernel_rfl) (by kernel_rfl) (by kernel_rfl) (fun _ _ _ h => h) (Or.inl ⟨by rfl, ?_⟩) (by assumption) ?_
                            · (intro wq hq; first | (go_simp; done) | (go_simp; rfl) | (go_simp; omega))
                            try simp only [Act.put, List.setIfInBounds_toArray, List.set_cons_zero, List.set_cons_succ]
                            refine wpAnyH_take (i := 26) (oi := { dst := some 119, op := Op.pick (Operand.tmp 102) (Operand.const (Value.bool true)) (Operand.tmp 118), type := 4, pos := "l10_client.go:24", after := #[{ on := 9, ground := Ground.data }, { on := 25, ground := Ground.data }], guard := none }) (v := .bool false) rfl (by kernel_rfl) (by kernel_rfl) (by kernel_rfl) (fun _ _ _ h => h) (Or.inl ⟨by rfl, ?_⟩) (by assumption) ?_
                            · (intro wq hq; first | (go_simp; done) | (go_simp; rfl) | (go_simp; omega))
                            try simp only [Act.put, List.setIfInBounds_toArray, List.set_cons_zero, List.set_cons_succ]
                            refine wpAnyH_done (by kernel_rfl) ?_ _
                            clear hHeld
                            go_wp2_with fail
                            exact ⟨⟨1, by omega, by go_num, HN⟩, by simp [intOf]; omega⟩
                          · obtain ⟨j, hkj⟩ : ∃ j, k = j + 1 := ⟨k - 1, by omega⟩
                            have hj : j < X.length := by omega
                            have hwj : IntKind.i64.wrap ((k : Int) - 1) = (j : Int) := by rw [IntWalk.i64_in _ (by omega)]; omega
                            have hk1 : (0 : Int) < (k : Int) := by omega
                            have hprev : ∀ h : k - 1 < X.length, X[k - 1] = X[j] := fun h => by congr 1; omega
                            have hz := hcell j hj
                            obtain ⟨z, hzz⟩ : ∃ z, z = X[j] := ⟨_, rfl⟩
                            rw [← hzz] at hz
                            by_cases hzy : z < y
                            · have hzI : ¬ y ≤ z := by omega
                              have HN : Hid (Asc c.m X (k + 1) ∧ CA W c (.slice (some a) X.length cap) wr.drew) := ⟨hA.step hlt (hy ▸ hr.1) (hy ▸ hr.2) (fun _ => by rw [hprev, ← hy, ← hzz]; exact hzy), A3⟩
                              clear hcell hA hr er A2 A3 zz hy hzz hprev hkj
                              refine wp_region_held_drew (S := fun w' => w'.cell? ⟨W.heap.size, 9, none⟩ = some (.slice (some a) X.length cap) ∧ w'.cell? ⟨W.heap.size, 1, none⟩ = some (.int .i64 c.m) ∧ w'.cell? (a.add k) = some (.int .i64 y) ∧ w'.cell? (a.add j) = some (.int .i64 z)) (by kernel_rfl) ⟨d9, d1, hd, hz⟩ (fun hHeld => ?_)
                              refine wpAnyH_take (i := 0) (oi := { dst := some 93, op := Op.fieldAddr 36 (Operand.tmp 1) 5, type := 0, pos := "l10_client.go:24", after := #[], guard := none }) (v := .pointer (some ⟨W.heap.size, 9, none⟩)) rfl (by kernel_rfl) (by kernel_rfl) (by kernel_rfl) (fun _ _ _ h => h) (Or.inl ⟨by rfl, ?_⟩) (by assumption) ?_
                              · (intro wq hq; first | (go_simp; done) | (go_simp; rfl) | (go_simp; omega))
                              try simp only [Act.put, List.setIfInBounds_toArray, List.set_cons_zero, List.set_cons_succ]
                              refine wpAnyH_take (i := 1) (oi := { dst := some 94, op := Op.load 27 (Operand.tmp 93), type := 27, pos := "l10_client.go:24", after := #[{ on := 0, ground := Ground.data }], guard := none }) (v := .slice (some a) X.length cap) rfl (by kernel_rfl) (by kernel_rfl) (by kernel_rfl) (fun _ _ _ h => h) (Or.inl ⟨by rfl, ?_⟩) (by assumption) ?_
                              · (intro wq hq; have hx := hq.1; clear hq; first | (go_simp; done) | (go_simp; rfl))
                              try simp only [Act.put, List.setIfInBounds_toArray, List.set_cons_zero, List.set_cons_succ]
                              refine wpAnyH_take (i := 2) (oi := { dst := some 95, op := Op.move (Operand.tmp 3), type := 3, pos := "l10_client.go:24", after := #[], guard := none }) (v := .int .i64 (k : Int)) rfl (by kernel_rfl) (by kernel_rfl) (by kernel_rfl) (fun _ _ _ h => h) (Or.inl ⟨by rfl, ?_⟩) (by assumption) ?_
                              · (intro wq hq; first | (go_simp; done) | (go_simp; rfl) | (go_simp; omega))
                              try simp only [Act.put, List.setIfInBounds_toArray, List.set_cons_zero, List.set_cons_succ]
                              refine wpAnyH_take (i := 3) (oi := { dst := some 96, op := Op.indexAddr 27 (Operand.tmp 94) (Operand.tmp 95), type := 0, pos := "l10_client.go:24", after := #[{ on := 1, ground := Ground.data }, { on := 2, ground := Ground.data }], guard := none }) (v := .pointer (some (a.add k))) rfl (by kernel_rfl) (by kernel_rfl) (by kernel_rfl) (fun _ _ _ h => h) (Or.inl ⟨by rfl, ?_⟩) (by assumption) ?_
                              · (intro wq hq; first | (go_simp; done) | (go_simp; rfl) | (go_simp; omega))
                              try simp only [Act.put, List.setIfInBounds_toArray, List.set_cons_zero, List.set_cons_succ]
                              refine wpAnyH_take (i := 4) (oi := { dst := some 97, op := Op.load 3 (Operand.tmp 96), type := 3, pos := "l10_client.go:24", after := #[{ on := 3, ground := Ground.data }], guard := none }) (v := .int .i64 y) rfl (by kernel_rfl) (by kernel_rfl) (by kernel_rfl) (fun _ _ _ h => h) (Or.inl ⟨by rfl, ?_⟩) (by assumption) ?_
                              · (intro wq hq; have hx := hq.2.2.1; clear hq; first | (go_simp; done) | (go_simp; rfl))
                              try simp only [Act.put, List.setIfInBounds_toArray, List.set_cons_zero, List.set_cons_succ]
                              refine wpAnyH_take (i := 5) (oi := { dst := some 98, op := Op.fieldAddr 36 (Operand.tmp 1) 1, type := 0, pos := "l10_client.go:24", after := #[], guard := none }) (v := .pointer (some ⟨W.heap.size, 1, none⟩)) rfl (by kernel_rfl) (by kernel_rfl) (by kernel_rfl) (fun _ _ _ h => h) (Or.inl ⟨by rfl, ?_⟩) (by assumption) ?_
                              · (intro wq hq; first | (go_simp; done) | (go_simp; rfl) | (go_simp; omega))
                              try simp only [Act.put, List.setIfInBounds_toArray, List.set_cons_zero, List.set_cons_succ]
                              refine wpAnyH_take (i := 6) (oi := { dst := some 99, op := Op.load 3 (Operand.tmp 98), type := 3, pos := "l10_client.go:24", after := #[{ on := 5, ground := Ground.data }], guard := none }) (v := .int .i64 c.m) rfl (by kernel_rfl) (by kernel_rfl) (by kernel_rfl) (fun _ _ _ h => h) (Or.inl ⟨by rfl, ?_⟩) (by assumption) ?_
                              · (intro wq hq; have hx := hq.2.1; clear hq; first | (go_simp; done) | (go_simp; rfl))
                              try simp only [Act.put, List.setIfInBounds_toArray, List.set_cons_zero, List.set_cons_succ]
                              refine wpAnyH_ready (rs := [7]) (by kernel_rfl) (by simp) ?_
                              refine AllReadyH.cons (o := { dst := some 100, op := Op.call { callee := Callee.value (Operand.func 15), args := #[Operand.tmp 97, Operand.const (Value.int IntKind.i64 1), Operand.tmp 99], argTypes := #[3, 3, 3] }, type := 4, pos := "l10_client.go:24", after := #[{ on := 4, ground := Ground.data }, { on := 6, ground := Ground.data }], guard := none }) rfl (fun K hK => ?_) AllReadyH.nil
                              go_simp
                              go_at_call 15
                              refine (cy _).mono ?_
                              rintro e w2 ⟨rfl, hw2⟩
                              subst hw2
                              go_simp
                              refine hK.out _ _ hHeld (fun hHeld => ?_)
                              clear hK K
                              refine wpAnyH_take (i := 8) (oi := { dst := some 101, op := Op.unOp UnOp.not 4 (Operand.tmp 100), type := 4, pos := "l10_client.go:24", after := #[{ on := 7, ground := Ground.data }], guard := none }) (v := .bool false) rfl (by kernel_rfl) (by kernel_rfl) (by kernel_rfl) (fun _ _ _ h => h) (Or.inl ⟨by rfl, ?_⟩) (by assumption) ?_
                              · (intro wq hq; first | (go_simp; done) | (go_simp; rfl) | (go_simp; omega))
                              try simp only [Act.put, List.setIfInBounds_toArray, List.set_cons_zero, List.set_cons_succ]
                              refine wpAnyH_take (i := 9) (oi := { dst := some 102, op := Op.move (Operand.tmp 101), type := 4, pos := "l10_client.go:24", after := #[{ on := 8, ground := Ground.data }, { on := 7, ground := Ground.chain }], guard := none }) (v := .bool false) rfl (by kernel_rfl) (by kernel_rfl) (by kernel_rfl) (fun _ _ _ h => h) (Or.inl ⟨by rfl, ?_⟩) (by assumption) ?_
                              · (intro wq hq; first | (go_simp; done) | (go_simp; rfl) | (go_simp; omega))
                              try simp only [Act.put, List.setIfInBounds_toArray, List.set_cons_zero, List.set_cons_succ]
                              refine wpAnyH_take (i := 10) (oi := { dst := some 103, op := Op.move (Operand.tmp 3), type := 3, pos := "l10_client.go:24", after := #[{ on := 9, ground := Ground.guard }], guard := some (9, false) }) (v := .int .i64 (k : Int)) rfl (by kernel_rfl) (by kernel_rfl) (by kernel_rfl) (fun _ _ _ h => h) (Or.inl ⟨by rfl, ?_⟩) (by assumption) ?_
                              · (intro wq hq; first | (go_simp; done) | (go_simp; rfl) | (go_simp; omega))
                              try simp only [Act.put, List.setIfInBounds_toArray, List.set_cons_zero, List.set_cons_succ]
                              refine wpAnyH_take (i := 11) (oi := { dst := some 104, op := Op.binOp BinOp.gtr 3 (Operand.tmp 103) (Operand.const (Value.int IntKind.i64 0)) 3, type := 4, pos := "l10_client.go:24", after := #[{ on := 10, ground := Ground.data }, { on := 9, ground := Ground.guard }], guard := some (9, false) }) (v := .bool true) rfl (by kernel_rfl) (by kernel_rfl) (by kernel_rfl) (fun _ _ _ h => h) (Or.inl ⟨by rfl, ?_⟩) (by assumption) ?_
                              · (intro wq hq; first | (go_simp; done) | (go_simp; rfl) | (go_simp; omega))
                              try simp only [Act.put, List.setIfInBounds_toArray, List.set_cons_zero, List.set_cons_succ]
                              refine wpAnyH_take (i := 12) (oi := { dst := some 105, op := Op.move (Operand.tmp 104), type := 4, pos := "l10_client.go:24", after := #[{ on := 11, ground := Ground.data }, { on := 9, ground := Ground.chain }, { on := 9, ground := Ground.guard }], guard := some (9, false) }) (v := .bool true) rfl (by kernel_rfl) (by kernel_rfl) (by kernel_rfl) (fun _ _ _ h => h) (Or.inl ⟨by rfl, ?_⟩) (by assumption) ?_
                              · (intro wq hq; first | (go_simp; done) | (go_simp; rfl) | (go_simp; omega))
                              try simp only [Act.put, List.setIfInBounds_toArray, List.set_cons_zero, List.set_cons_succ]
                              refine wpAnyH_take (i := 13) (oi := { dst := some 106, op := Op.fieldAddr 36 (Operand.tmp 1) 5, type := 0, pos := "l10_client.go:24", after := #[{ on := 12, ground := Ground.guard }], guard := some (12, true) }) (v := .pointer (some ⟨W.heap.size, 9, none⟩)) rfl (by kernel_rfl) (by kernel_rfl) (by kernel_rfl) (fun _ _ _ h => h) (Or.inl ⟨by rfl, ?_⟩) (by assumption) ?_
                              · (intro wq hq; first | (go_simp; done) | (go_simp; rfl) | (go_simp; omega))
                              try simp only [Act.put, List.setIfInBounds_toArray, List.set_cons_zero, List.set_cons_succ]
                              refine wpAnyH_take (i := 14) (oi := { dst := some 107, op := Op.load 27 (Operand.tmp 106), type := 27, pos := "l10_client.go:24", after := #[{ on := 13, ground := Ground.data }, { on := 12, ground := Ground.guard }], guard := some (12, true) }) (v := .slice (some a) X.length cap) rfl (by kernel_rfl) (by kernel_rfl) (by kernel_rfl) (fun _ _ _ h => h) (Or.inl ⟨by rfl, ?_⟩) (by assumption) ?_
                              · (intro wq hq; have hx := hq.1; clear hq; first | (go_simp; done) | (go_simp; rfl))
                              try simp only [Act.put, List.setIfInBounds_toArray, List.set_cons_zero, List.set_cons_succ]
                              refine wpAnyH_take (i := 15) (oi := { dst := some 108, op := Op.move (Operand.tmp 3), type := 3, pos := "l10_client.go:24", after := #[{ on := 12, ground := Ground.guard }], guard := some (12, true) }) (v := .int .i64 (k : Int)) rfl (by kernel_rfl) (by kernel_rfl) (by kernel_rfl) (fun _ _ _ h => h) (Or.inl ⟨by rfl, ?_⟩) (by assumption) ?_
                              · (intro wq hq; first | (go_simp; done) | (go_simp; rfl) | (go_simp; omega))
                              try simp only [Act.put, List.setIfInBounds_toArray, List.set_cons_zero, List.set_cons_succ]
                              refine wpAnyH_take (i := 16) (oi := { dst := some 109, op := Op.binOp BinOp.sub 3 (Operand.tmp 108) (Operand.const (Value.int IntKind.i64 1)) 3, type := 3, pos := "l10_client.go:24", after := #[{ on := 15, ground := Ground.data }, { on := 12, ground := Ground.guard }], guard := some (12, true) }) (v := .int .i64 (j : Int)) rfl (by kernel_rfl) (by kernel_rfl) (by kernel_rfl) (fun _ _ _ h => h) (Or.inl ⟨by rfl, ?_⟩) (by assumption) ?_
                              · (intro wq hq; first | (go_simp; done) | (go_simp; rfl) | (go_simp; rw [hwj]))
                              try simp only [Act.put, List.setIfInBounds_toArray, List.set_cons_zero, List.set_cons_succ]
                              refine wpAnyH_take (i := 17) (oi := { dst := some 110, op := Op.indexAddr 27 (Operand.tmp 107) (Operand.tmp 109), type := 0, pos := "l10_client.go:24", after := #[{ on := 14, ground := Ground.data }, { on := 16, ground := Ground.data }, { on := 12, ground := Ground.guard }], guard := some (12, true) }) (v := .pointer (some (a.add j))) rfl (by kernel_rfl) (by kernel_rfl) (by kernel_rfl) (fun _ _ _ h => h) (Or.inl ⟨by rfl, ?_⟩) (by assumption) ?_
                              · (intro wq hq; first | (go_simp; done) | (go_simp; rfl) | (go_simp; omega))
                              try simp only [Act.put, List.setIfInBounds_toArray, List.set_cons_zero, List.set_cons_succ]
                              refine wpAnyH_take (i := 18) (oi := { dst := some 111, op := Op.load 3 (Operand.tmp 110), type := 3, pos := "l10_client.go:24", after := #[{ on := 17, ground := Ground.data }, { on := 12, ground := Ground.guard }], guard := some (12, true) }) (v := .int .i64 z) rfl (by kernel_rfl) (by kernel_rfl) (by kernel_rfl) (fun _ _ _ h => h) (Or.inl ⟨by rfl, ?_⟩) (by assumption) ?_
                              · (intro wq hq; have hx := hq.2.2.2; clear hq; first | (go_simp; done) | (go_simp; rfl))
                              try simp only [Act.put, List.setIfInBounds_toArray, List.set_cons_zero, List.set_cons_succ]
                              refine wpAnyH_take (i := 19) (oi := { dst := some 112, op := Op.fieldAddr 36 (Operand.tmp 1) 5, type := 0, pos := "l10_client.go:24", after := #[{ on := 12, ground := Ground.guard }], guard := some (12, true) }) (v := .pointer (some ⟨W.heap.size, 9, none⟩)) rfl (by kernel_rfl) (by kernel_rfl) (by kernel_rfl) (fun _ _ _ h => h) (Or.inl ⟨by rfl, ?_⟩) (by assumption) ?_
                              · (intro wq hq; first | (go_simp; done) | (go_simp; rfl) | (go_simp; omega))
                              try simp only [Act.put, List.setIfInBounds_toArray, List.set_cons_zero, List.set_cons_succ]
                              refine wpAnyH_take (i := 20) (oi := { dst := some 113, op := Op.load 27 (Operand.tmp 112), type := 27, pos := "l10_client.go:24", after := #[{ on := 19, ground := Ground.data }, { on := 12, ground := Ground.guard }], guard := some (12, true) }) (v := .slice (some a) X.length cap) rfl (by kernel_rfl) (by kernel_rfl) (by kernel_rfl) (fun _ _ _ h => h) (Or.inl ⟨by rfl, ?_⟩) (by assumption) ?_
                              · (intro wq hq; have hx := hq.1; clear hq; first | (go_simp; done) | (go_simp; rfl))
                              try simp only [Act.put, List.setIfInBounds_toArray, List.set_cons_zero, List.set_cons_succ]
                              refine wpAnyH_take (i := 21) (oi := { dst := some 114, op := Op.move (Operand.tmp 3), type := 3, pos := "l10_client.go:24", after := #[{ on := 12, ground := Ground.guard }], guard := some (12, true) }) (v := .int .i64 (k : Int)) rfl (by kernel_rfl) (by kernel_rfl) (by kernel_rfl) (fun _ _ _ h => h) (Or.inl ⟨by rfl, ?_⟩) (by assumption) ?_
                              · (intro wq hq; first | (go_simp; done) | (go_simp; rfl) | (go_simp; omega))
                              try simp only [Act.put, List.setIfInBounds_toArray, List.set_cons_zero, List.set_cons_succ]
                              refine wpAnyH_take (i := 22) (oi := { dst := some 115, op := Op.indexAddr 27 (Operand.tmp 113) (Operand.tmp 114), type := 0, pos := "l10_client.go:24", after := #[{ on := 20, ground := Ground.data }, { on := 21, ground := Ground.data }, { on := 12, ground := Ground.guard }], guard := some (12, true) }) (v := .pointer (some (a.add k))) rfl (by kernel_rfl) (by kernel_rfl) (by kernel_rfl) (fun _ _ _ h => h) (Or.inl ⟨by rfl, ?_⟩) (by assumption) ?_
                              · (intro wq hq; first | (go_simp; done) | (go_simp; rfl) | (go_simp; omega))
                              try simp only [Act.put, List.setIfInBounds_toArray, List.set_cons_zero, List.set_cons_succ]
                              refine wpAnyH_take (i := 23) (oi := { dst := some 116, op := Op.load 3 (Operand.tmp 115), type := 3, pos := "l10_client.go:24", after := #[{ on := 22, ground := Ground.data }, { on := 12, ground := Ground.guard }], guard := some (12, true) }) (v := .int .i64 y) rfl (by kernel_rfl) (by kernel_rfl) (by kernel_rfl) (fun _ _ _ h => h) (Or.inl ⟨by rfl, ?_⟩) (by assumption) ?_
                              · (intro wq hq; have hx := hq.2.2.1; clear hq; first | (go_simp; done) | (go_simp; rfl))
                              try simp only [Act.put, List.setIfInBounds_toArray, List.set_cons_zero, List.set_cons_succ]
                              refine wpAnyH_take (i := 24) (oi := { dst := some 117, op := Op.binOp BinOp.geq 3 (Operand.tmp 111) (Operand.tmp 116) 3, type := 4, pos := "l10_client.go:24", after := #[{ on := 18, ground := Ground.data }, { on := 23, ground := Ground.data }, { on := 12, ground := Ground.guard }], guard := some (12, true) }) (v := .bool false) rfl (by kernel_rfl) (by kernel_rfl) (by kernel_rfl) (fun _ _ _ h => h) (Or.inl ⟨by rfl, ?_⟩) (by assumption) ?_
                              · (intro wq hq; first | (go_simp; done) | (go_simp; rfl) | (go_simp; omega))
                              try simp only [Act.put, List.setIfInBounds_toArray, List.set_cons_zero, List.set_cons_succ]
                              refine wpAnyH_take (i := 25) (oi := { dst := some 118, op := Op.pick (Operand.tmp 105) (Operand.tmp 117) (Operand.const (Value.bool false)), type := 4, pos := "l10_client.go:24", after := #[{ on := 12, ground := Ground.data }, { on := 24, ground := Ground.data }, { on := 9, ground := Ground.guard }], guard := some (9, false) }) (v := .bool false) rfl (by kernel_rfl) (by kernel_rfl) (by kernel_rfl) (fun _ _ _ h => h) (Or.inl ⟨by rfl, ?_⟩) (by assumption) ?_
                              · (intro wq hq; first | (go_simp; done) | (go_simp; rfl) | (go_simp; omega))
                              try simp only [Act.put, List.setIfInBounds_toArray, List.set_cons_zero, List.set_cons_succ]
                              refine wpAnyH_take (i := 26) (oi := { dst := some 119, op := Op.pick (Operand.tmp 102) (Operand.const (Value.bool true)) (Operand.tmp 118), type := 4, pos := "l10_client.go:24", after := #[{ on := 9, ground := Ground.data }, { on := 25, ground := Ground.data }], guard := none }) (v := .bool false) rfl (by kernel_rfl) (by kernel_rfl) (by kernel_rfl) (fun _ _ _ h => h) (Or.inl ⟨by rfl, ?_⟩) (by assumption) ?_
                              · (intro wq hq; first | (go_simp; done) | (go_simp; rfl) | (go_simp; omega))
                              try simp only [Act.put, List.setIfInBounds_toArray, List.set_cons_zero, List.set_cons_succ]
                              refine wpAnyH_done (by kernel_rfl) ?_ _
                              clear hHeld
                              go_wp2_with fail
                              exact ⟨⟨k + 1, by omega, by go_num, HN⟩, by simp [intOf]; omega⟩
                            · have hzI : y ≤ z := by omega
                              have hno : ¬ Cok c X := fun h => by
                                have := (hC'.1 h k hlt hlt).2.2 (by omega)
                                rw [← hy, hprev, ← hzz] at this
                                exact hzy this
                              have zd := zz.drew
                              clear hcell hA hr er A2 A3 hy hzz hC' hprev hkj
                              refine wp_region_held_drew (S := fun w' => w'.cell? ⟨W.heap.size, 9, none⟩ = some (.slice (some a) X.length cap) ∧ w'.cell? ⟨W.heap.size, 1, none⟩ = some (.int .i64 c.m) ∧ w'.cell? (a.add k) = some (.int .i64 y) ∧ w'.cell? (a.add j) = some (.int .i64 z)) (by kernel_rfl) ⟨d9, d1, hd, hz⟩ (fun hHeld => ?_)
                              refine wpAnyH_take (i := 0) (oi := { dst := some 93, op := Op.fieldAddr 36 (Operand.tmp 1) 5, type := 0, pos := "l10_client.go:24", after := #[], guard := none }) (v := .pointer (some ⟨W.heap.size, 9, none⟩)) rfl (by kernel_rfl) (by kernel_rfl) (by kernel_rfl) (fun _ _ _ h => h) (Or.inl ⟨by rfl, ?_⟩) (by assumption) ?_
                              · (intro wq hq; first | (go_simp; done) | (go_simp; rfl) | (go_simp; omega))
                              try simp only [Act.put, List.setIfInBounds_toArray, List.set_cons_zero, List.set_cons_succ]
                              refine wpAnyH_take (i := 1) (oi := { dst := some 94, op := Op.load 27 (Operand.tmp 93), type := 27, pos := "l10_client.go:24", after := #[{ on := 0, ground := Ground.data }], guard := none }) (v := .slice (some a) X.length cap) rfl (by kernel_rfl) (by kernel_rfl) (by kernel_rfl) (fun _ _ _ h => h) (Or.inl ⟨by rfl, ?_⟩) (by assumption) ?_
                              · (intro wq hq; have hx := hq.1; clear hq; first | (go_simp; done) | (go_simp; rfl))
                              try simp only [Act.put, List.setIfInBounds_toArray, List.set_cons_zero, List.set_cons_succ]
                              refine wpAnyH_take (i := 2) (oi := { dst := some 95, op := Op.move (Operand.tmp 3), type := 3, pos := "l10_client.go:24", after := #[], guard := none }) (v := .int .i64 (k : Int)) rfl (by kernel_rfl) (by kernel_rfl) (by kernel_rfl) (fun _ _ _ h => h) (Or.inl ⟨by rfl, ?_⟩) (by assumption) ?_
                              · (intro wq hq; first | (go_simp; done) | (go_simp; rfl) | (go_simp; omega))
                              try simp only [Act.put, List.setIfInBounds_toArray, List.set_cons_zero, List.set_cons_succ]
                              refine wpAnyH_take (i := 3) (oi := { dst := some 96, op := Op.indexAddr 27 (Operand.tmp 94) (Operand.tmp 95), type := 0, pos := "l10_client.go:24", after := #[{ on := 1, ground := Ground.data }, { on := 2, ground := Ground.data }], guard := none }) (v := .pointer (some (a.add k))) rfl (by kernel_rfl) (by kernel_rfl) (by kernel_rfl) (fun _ _ _ h => h) (Or.inl ⟨by rfl, ?_⟩) (by assumption) ?_
                              · (intro wq hq; first | (go_simp; done) | (go_simp; rfl) | (go_simp; omega))
                              try simp only [Act.put, List.setIfInBounds_toArray, List.set_cons_zero, List.set_cons_succ]
                              refine wpAnyH_take (i := 4) (oi := { dst := some 97, op := Op.load 3 (Operand.tmp 96), type := 3, pos := "l10_client.go:24", after := #[{ on := 3, ground := Ground.data }], guard := none }) (v := .int .i64 y) rfl (by kernel_rfl) (by kernel_rfl) (by kernel_rfl) (fun _ _ _ h => h) (Or.inl ⟨by rfl, ?_⟩) (by assumption) ?_
                              · (intro wq hq; have hx := hq.2.2.1; clear hq; first | (go_simp; done) | (go_simp; rfl))
                              try simp only [Act.put, List.setIfInBounds_toArray, List.set_cons_zero, List.set_cons_succ]
                              refine wpAnyH_take (i := 5) (oi := { dst := some 98, op := Op.fieldAddr 36 (Operand.tmp 1) 1, type := 0, pos := "l10_client.go:24", after := #[], guard := none }) (v := .pointer (some ⟨W.heap.size, 1, none⟩)) rfl (by kernel_rfl) (by kernel_rfl) (by kernel_rfl) (fun _ _ _ h => h) (Or.inl ⟨by rfl, ?_⟩) (by assumption) ?_
                              · (intro wq hq; first | (go_simp; done) | (go_simp; rfl) | (go_simp; omega))
                              try simp only [Act.put, List.setIfInBounds_toArray, List.set_cons_zero, List.set_cons_succ]
                              refine wpAnyH_take (i := 6) (oi := { dst := some 99, op := Op.load 3 (Operand.tmp 98), type := 3, pos := "l10_client.go:24", after := #[{ on := 5, ground := Ground.data }], guard := none }) (v := .int .i64 c.m) rfl (by kernel_rfl) (by kernel_rfl) (by kernel_rfl) (fun _ _ _ h => h) (Or.inl ⟨by rfl, ?_⟩) (by assumption) ?_
                              · (intro wq hq; have hx := hq.2.1; clear hq; first | (go_simp; done) | (go_simp; rfl))
                              try simp only [Act.put, List.setIfInBounds_toArray, List.set_cons_zero, List.set_cons_succ]
                              refine wpAnyH_ready (rs := [7]) (by kernel_rfl) (by simp) ?_
                              refine AllReadyH.cons (o := { dst := some 100, op := Op.call { callee := Callee.value (Operand.func 15), args := #[Operand.tmp 97, Operand.const (Value.int IntKind.i64 1), Operand.tmp 99], argTypes := #[3, 3, 3] }, type := 4, pos := "l10_client.go:24", after := #[{ on := 4, ground := Ground.data }, { on := 6, ground := Ground.data }], guard := none }) rfl (fun K hK => ?_) AllReadyH.nil
                              go_simp
                              go_at_call 15
                              refine (cy _).mono ?_
                              rintro e w2 ⟨rfl, hw2⟩
                              subst hw2
                              go_simp
                              refine hK.out _ _ hHeld (fun hHeld => ?_)
                              clear hK K
                              refine wpAnyH_take (i := 8) (oi := { dst := some 101, op := Op.unOp UnOp.not 4 (Operand.tmp 100), type := 4, pos := "l10_client.go:24", after := #[{ on := 7, ground := Ground.data }], guard := none }) (v := .bool false) rfl (by kernel_rfl) (by kernel_rfl) (by kernel_rfl) (fun _ _ _ h => h) (Or.inl ⟨by rfl, ?_⟩) (by assumption) ?_
                              · (intro wq hq; first | (go_simp; done) | (go_simp; rfl) | (go_simp; omega))
                              try simp only [Act.put, List.setIfInBounds_toArray, List.set_cons_zero, List.set_cons_succ]
                              refine wpAnyH_take (i := 9) (oi := { dst := some 102, op := Op.move (Operand.tmp 101), type := 4, pos := "l10_client.go:24", after := #[{ on := 8, ground := Ground.data }, { on := 7, ground := Ground.chain }], guard := none }) (v := .bool false) rfl (by kernel_rfl) (by kernel_rfl) (by kernel_rfl) (fun _ _ _ h => h) (Or.inl ⟨by rfl, ?_⟩) (by assumption) ?_
                              · (intro wq hq; first | (go_simp; done) | (go_simp; rfl) | (go_simp; omega))
                              try simp only [Act.put, List.setIfInBounds_toArray, List.set_cons_zero, List.set_cons_succ]
                              refine wpAnyH_take (i := 10) (oi := { dst := some 103, op := Op.move (Operand.tmp 3), type := 3, pos := "l10_client.go:24", after := #[{ on := 9, ground := Ground.guard }], guard := some (9, false) }) (v := .int .i64 (k : Int)) rfl (by kernel_rfl) (by kernel_rfl) (by kernel_rfl) (fun _ _ _ h => h) (Or.inl ⟨by rfl, ?_⟩) (by assumption) ?_
                              · (intro wq hq; first | (go_simp; done) | (go_simp; rfl) | (go_simp; omega))
                              try simp only [Act.put, List.setIfInBounds_toArray, List.set_cons_zero, List.set_cons_succ]
                              refine wpAnyH_take (i := 11) (oi := { dst := some 104, op := Op.binOp BinOp.gtr 3 (Operand.tmp 103) (Operand.const (Value.int IntKind.i64 0)) 3, type := 4, pos := "l10_client.go:24", after := #[{ on := 10, ground := Ground.data }, { on := 9, ground := Ground.guard }], guard := some (9, false) }) (v := .bool true) rfl (by kernel_rfl) (by kernel_rfl) (by kernel_rfl) (fun _ _ _ h => h) (Or.inl ⟨by rfl, ?_⟩) (by assumption) ?_
                              · (intro wq hq; first | (go_simp; done) | (go_simp; rfl) | (go_simp; omega))
                              try simp only [Act.put, List.setIfInBounds_toArray, List.set_cons_zero, List.set_cons_succ]
                              refine wpAnyH_take (i := 12) (oi := { dst := some 105, op := Op.move (Operand.tmp 104), type := 4, pos := "l10_client.go:24", after := #[{ on := 11, ground := Ground.data }, { on := 9, ground := Ground.chain }, { on := 9, ground := Ground.guard }], guard := some (9, false) }) (v := .bool true) rfl (by kernel_rfl) (by kernel_rfl) (by kernel_rfl) (fun _ _ _ h => h) (Or.inl ⟨by rfl, ?_⟩) (by assumption) ?_
                              · (intro wq hq; first | (go_simp; done) | (go_simp; rfl) | (go_simp; omega))
                              try simp only [Act.put, List.setIfInBounds_toArray, List.set_cons_zero, List.set_cons_succ]
                              refine wpAnyH_take (i := 13) (oi := { dst := some 106, op := Op.fieldAddr 36 (Operand.tmp 1) 5, type := 0, pos := "l10_client.go:24", after := #[{ on := 12, ground := Ground.guard }], guard := some (12, true) }) (v := .pointer (some ⟨W.heap.size, 9, none⟩)) rfl (by kernel_rfl) (by kernel_rfl) (by kernel_rfl) (fun _ _ _ h => h) (Or.inl ⟨by rfl, ?_⟩) (by assumption) ?_
                              · (intro wq hq; first | (go_simp; done) | (go_simp; rfl) | (go_simp; omega))
                              try simp only [Act.put, List.setIfInBounds_toArray, List.set_cons_zero, List.set_cons_succ]
                              refine wpAnyH_take (i := 14) (oi := { dst := some 107, op := Op.load 27 (Operand.tmp 106), type := 27, pos := "l10_client.go:24", after := #[{ on := 13, ground := Ground.data }, { on := 12, ground := Ground.guard }], guard := some (12, true) }) (v := .slice (some a) X.length cap) rfl (by kernel_rfl) (by kernel_rfl) (by kernel_rfl) (fun _ _ _ h => h) (Or.inl ⟨by rfl, ?_⟩) (by assumption) ?_
                              · (intro wq hq; have hx := hq.1; clear hq; first | (go_simp; done) | (go_simp; rfl))
                              try simp only [Act.put, List.setIfInBounds_toArray, List.set_cons_zero, List.set_cons_succ]
                              refine wpAnyH_take (i := 15) (oi := { dst := some 108, op := Op.move (Operand.tmp 3), type := 3, pos := "l10_client.go:24", after := #[{ on := 12, ground := Ground.guard }], guard := some (12, true) }) (v := .int .i64 (k : Int)) rfl (by kernel_rfl) (by kernel_rfl) (by kernel_rfl) (fun _ _ _ h => h) (Or.inl ⟨by rfl, ?_⟩) (by assumption) ?_
                              · (intro wq hq; first | (go_simp; done) | (go_simp; rfl) | (go_simp; omega))
                              try simp only [Act.put, List.setIfInBounds_toArray, List.set_cons_zero, List.set_cons_succ]
                              refine wpAnyH_take (i := 16) (oi := { dst := some 109, op := Op.binOp BinOp.sub 3 (Operand.tmp 108) (Operand.const (Value.int IntKind.i64 1)) 3, type := 3, pos := "l10_client.go:24", after := #[{ on := 15, ground := Ground.data }, { on := 12, ground := Ground.guard }], guard := some (12, true) }) (v := .int .i64 (j : Int)) rfl (by kernel_rfl) (by kernel_rfl) (by kernel_rfl) (fun _ _ _ h => h) (Or.inl ⟨by rfl, ?_⟩) (by assumption) ?_
                              · (intro wq hq; first | (go_simp; done) | (go_simp; rfl) | (go_simp; rw [hwj]))
                              try simp only [Act.put, List.setIfInBounds_toArray, List.set_cons_zero, List.set_cons_succ]
                              refine wpAnyH_take (i := 17) (oi := { dst := some 110, op := Op.indexAddr 27 (Operand.tmp 107) (Operand.tmp 109), type := 0, pos := "l10_client.go:24", after := #[{ on := 14, ground := Ground.data }, { on := 16, ground := Ground.data }, { on := 12, ground := Ground.guard }], guard := some (12, true) }) (v := .pointer (some (a.add j))) rfl (by kernel_rfl) (by kernel_rfl) (by kernel_rfl) (fun _ _ _ h => h) (Or.inl ⟨by rfl, ?_⟩) (by assumption) ?_
                              · (intro wq hq; first | (go_simp; done) | (go_simp; rfl) | (go_simp; omega))
                              try simp only [Act.put, List.setIfInBounds_toArray, List.set_cons_zero, List.set_cons_succ]
                              refine wpAnyH_take (i := 18) (oi := { dst := some 111, op := Op.load 3 (Operand.tmp 110), type := 3, pos := "l10_client.go:24", after := #[{ on := 17, ground := Ground.data }, { on := 12, ground := Ground.guard }], guard := some (12, true) }) (v := .int .i64 z) rfl (by kernel_rfl) (by kernel_rfl) (by kernel_rfl) (fun _ _ _ h => h) (Or.inl ⟨by rfl, ?_⟩) (by assumption) ?_
                              · (intro wq hq; have hx := hq.2.2.2; clear hq; first | (go_simp; done) | (go_simp; rfl))
                              try simp only [Act.put, List.setIfInBounds_toArray, List.set_cons_zero, List.set_cons_succ]
                              refine wpAnyH_take (i := 19) (oi := { dst := some 112, op := Op.fieldAddr 36 (Operand.tmp 1) 5, type := 0, pos := "l10_client.go:24", after := #[{ on := 12, ground := Ground.guard }], guard := some (12, true) }) (v := .pointer (some ⟨W.heap.size, 9, none⟩)) rfl (by kernel_rfl) (by kernel_rfl) (by kernel_rfl) (fun _ _ _ h => h) (Or.inl ⟨by rfl, ?_⟩) (by assumption) ?_
                              · (intro wq hq; first | (go_simp; done) | (go_simp; rfl) | (go_simp; omega))
                              try simp only [Act.put, List.setIfInBounds_toArray, List.set_cons_zero, List.set_cons_succ]
                              refine wpAnyH_take (i := 20) (oi := { dst := some 113, op := Op.load 27 (Operand.tmp 112), type := 27, pos := "l10_client.go:24", after := #[{ on := 19, ground := Ground.data }, { on := 12, ground := Ground.guard }], guard := some (12, true) }) (v := .slice (some a) X.length cap) rfl (by kernel_rfl) (by kernel_rfl) (by kernel_rfl) (fun _ _ _ h => h) (Or.inl ⟨by rfl, ?_⟩) (by assumption) ?_
                              · (intro wq hq; have hx := hq.1; clear hq; first | (go_simp; done) | (go_simp; rfl))
                              try simp only [Act.put, List.setIfInBounds_toArray, List.set_cons_zero, List.set_cons_succ]
                              refine wpAnyH_take (i := 21) (oi := { dst := some 114, op := Op.move (Operand.tmp 3), type := 3, pos := "l10_client.go:24", after := #[{ on := 12, ground := Ground.guard }], guard := some (12, true) }) (v := .int .i64 (k : Int)) rfl (by kernel_rfl) (by kernel_rfl) (by kernel_rfl) (fun _ _ _ h => h) (Or.inl ⟨by rfl, ?_⟩) (by assumption) ?_
                              · (intro wq hq; first | (go_simp; done) | (go_simp; rfl) | (go_simp; omega))
                              try simp only [Act.put, List.setIfInBounds_toArray, List.set_cons_zero, List.set_cons_succ]
                              refine wpAnyH_take (i := 22) (oi := { dst := some 115, op := Op.indexAddr 27 (Operand.tmp 113) (Operand.tmp 114), type := 0, pos := "l10_client.go:24", after := #[{ on := 20, ground := Ground.data }, { on := 21, ground := Ground.data }, { on := 12, ground := Ground.guard }], guard := some (12, true) }) (v := .pointer (some (a.add k))) rfl (by kernel_rfl) (by kernel_rfl) (by kernel_rfl) (fun _ _ _ h => h) (Or.inl ⟨by rfl, ?_⟩) (by assumption) ?_
                              · (intro wq hq; first | (go_simp; done) | (go_simp; rfl) | (go_simp; omega))
                              try simp only [Act.put, List.setIfInBounds_toArray, List.set_cons_zero, List.set_cons_succ]
                              refine wpAnyH_take (i := 23) (oi := { dst := some 116, op := Op.load 3 (Operand.tmp 115), type := 3, pos := "l10_client.go:24", after := #[{ on := 22, ground := Ground.data }, { on := 12, ground := Ground.guard }], guard := some (12, true) }) (v := .int .i64 y) rfl (by kernel_rfl) (by kernel_rfl) (by kernel_rfl) (fun _ _ _ h => h) (Or.inl ⟨by rfl, ?_⟩) (by assumption) ?_
                              · (intro wq hq; have hx := hq.2.2.1; clear hq; first | (go_simp; done) | (go_simp; rfl))
                              try simp only [Act.put, List.setIfInBounds_toArray, List.set_cons_zero, List.set_cons_succ]
                              refine wpAnyH_take (i := 24) (oi := { dst := some 117, op := Op.binOp BinOp.geq 3 (Operand.tmp 111) (Operand.tmp 116) 3, type := 4, pos := "l10_client.go:24", after := #[{ on := 18, ground := Ground.data }, { on := 23, ground := Ground.data }, { on := 12, ground := Ground.guard }], guard := some (12, true) }) (v := .bool true) rfl (by kernel_rfl) (by kernel_rfl) (by kernel_rfl) (fun _ _ _ h => h) (Or.inl ⟨by rfl, ?_⟩) (by assumption) ?_
                              · (intro wq hq; first | (go_simp; done) | (go_simp; rfl) | (go_simp; omega))
                              try simp only [Act.put, List.setIfInBounds_toArray, List.set_cons_zero, List.set_cons_succ]
                              refine wpAnyH_take (i := 25) (oi := { dst := some 118, op := Op.pick (Operand.tmp 105) (Operand.tmp 117) (Operand.const (Value.bool false)), type := 4, pos := "l10_client.go:24", after := #[{ on := 12, ground := Ground.data }, { on := 24, ground := Ground.data }, { on := 9, ground := Ground.guard }], guard := some (9, false) }) (v := .bool true) rfl (by kernel_rfl) (by kernel_rfl) (by kernel_rfl) (fun _ _ _ h => h) (Or.inl ⟨by rfl, ?_⟩) (by assumption) ?_
                              · (intro wq hq; first | (go_simp; done) | (go_simp; rfl) | (go_simp; omega))
                              try simp only [Act.put, List.setIfInBounds_toArray, List.set_cons_zero, List.set_cons_succ]
                              refine wpAnyH_take (i := 26) (oi := { dst := some 119, op := Op.pick (Operand.tmp 102) (Operand.const (Value.bool true)) (Operand.tmp 118), type := 4, pos := "l10_client.go:24", after := #[{ on := 9, ground := Ground.data }, { on := 25, ground := Ground.data }], guard := none }) (v := .bool true) rfl (by kernel_rfl) (by kernel_rfl) (by kernel_rfl) (fun _ _ _ h => h) (Or.inl ⟨by rfl, ?_⟩) (by assumption) ?_
                              · (intro wq hq; first | (go_simp; done) | (go_simp; rfl) | (go_simp; omega))
                              try simp only [Act.put, List.setIfInBounds_toArray, List.set_cons_zero, List.set_cons_succ]
                              refine wpAnyH_done (by kernel_rfl) ?_ _
                              clear hHeld
                              go_wp2_with fail
                              go_ret
                              first | exact ⟨false, rfl, zd, no_of hno⟩ | exact ⟨rfl, zd⟩ | exact ⟨rfl, zd, hno⟩
                        · have er : (decide (1 ≤ y) && decide (y ≤ c.m)) = false := by rw [Bool.and_eq_false_iff, decide_eq_false_iff_not, decide_eq_false_iff_not]; omega
                          rw [er] at cy
                          have hno : ¬ Cok c X := fun h => by
                            have := hC'.1 h k hlt hlt
                            rw [← hy] at this
                            exact hr ⟨this.1, this.2.1⟩
                          have zd := zz.drew
                          clear hcell hA hr er A2 A3 hy hC'
                          refine wp_region_held_drew (S := fun w' => w'.cell? ⟨W.heap.size, 9, none⟩ = some (.slice (some a) X.length cap) ∧ w'.cell? ⟨W.heap.size, 1, none⟩ = some (.int .i64 c.m) ∧ w'.cell? (a.add k) = some (.int .i64 y)) (by kernel_rfl) ⟨d9, d1, hd⟩ (fun hHeld => ?_)
                          refine wpAnyH_take (i := 0) (oi := { dst := some 93, op := Op.fieldAddr 36 (Operand.tmp 1) 5, type := 0, pos := "l10_client.go:24", after := #[], guard := none }) (v := .pointer (some ⟨W.heap.size, 9, none⟩)) rfl (by kernel_rfl) (by kernel_rfl) (by kernel_rfl) (fun _ _ _ h => h) (Or.inl ⟨by rfl, ?_⟩) (by assumption) ?_
                          · (intro wq hq; first | (go_simp; done) | (go_simp; rfl) | (go_simp; omega))
                          try simp only [Act.put, List.setIfInBounds_toArray, List.set_cons_zero, List.set_cons_succ]
                          refine wpAnyH_take (i := 1) (oi := { dst := some 94, op := Op.load 27 (Operand.tmp 93), type := 27, pos := "l10_client.go:24", after := #[{ on := 0, ground := Ground.data }], guard := none }) (v := .slice (some a) X.length cap) rfl (by kernel_rfl) (by kernel_rfl) (by kernel_rfl) (fun _ _ _ h => h) (Or.inl ⟨by rfl, ?_⟩) (by assumption) ?_
                          · (intro wq hq; have hx := hq.1; clear hq; first | (go_simp; done) | (go_simp; rfl))
                          try simp only [Act.put, List.setIfInBounds_toArray, List.set_cons_zero, List.set_cons_succ]
                          refine wpAnyH_take (i := 2) (oi := { dst := some 95, op := Op.move (Operand.tmp 3), type := 3, pos := "l10_client.go:24", after := #[], guard := none }) (v := .int .i64 (k : Int)) rfl (by kernel_rfl) (by kernel_rfl) (by kernel_rfl) (fun _ _ _ h => h) (Or.inl ⟨by rfl, ?_⟩) (by assumption) ?_
                          · (intro wq hq; first | (go_simp; done) | (go_simp; rfl) | (go_simp; omega))
                          try simp only [Act.put, List.setIfInBounds_toArray, List.set_cons_zero, List.set_cons_succ]
                          refine wpAnyH_take (i := 3) (oi := { dst := some 96, op := Op.indexAddr 27 (Operand.tmp 94) (Operand.tmp 95), type := 0, pos := "l10_client.go:24", after := #[{ on := 1, ground := Ground.data }, { on := 2, ground := Ground.data }], guard := none }) (v := .pointer (some (a.add k))) rfl (by kernel_rfl) (by kernel_rfl) (by kernel_rfl) (fun _ _ _ h => h) (Or.inl ⟨by rfl, ?_⟩) (by assumption) ?_
                          · (intro wq hq; first | (go_simp; done) | (go_simp; rfl) | (go_simp; omega))
                          try simp only [Act.put, List.setIfInBounds_toArray, List.set_cons_zero, List.set_cons_succ]
                          refine wpAnyH_take (i := 4) (oi := { dst := some 97, op := Op.load 3 (Operand.tmp 96), type := 3, pos := "l10_client.go:24", after := #[{ on := 3, ground := Ground.data }], guard := none }) (v := .int .i64 y) rfl (by kernel_rfl) (by kernel_rfl) (by kernel_rfl) (fun _ _ _ h => h) (Or.inl ⟨by rfl, ?_⟩) (by assumption) ?_
                          · (intro wq hq; have hx := hq.2.2; clear hq; first | (go_simp; done) | (go_simp; rfl))
                          try simp only [Act.put, List.setIfInBounds_toArray, List.set_cons_zero, List.set_cons_succ]
                          refine wpAnyH_take (i := 5) (oi := { dst := some 98, op := Op.fieldAddr 36 (Operand.tmp 1) 1, type := 0, pos := "l10_client.go:24", after := #[], guard := none }) (v := .pointer (some ⟨W.heap.size, 1, none⟩)) rfl (by kernel_rfl) (by kernel_rfl) (by kernel_rfl) (fun _ _ _ h => h) (Or.inl ⟨by rfl, ?_⟩) (by assumption) ?_
                          · (intro wq hq; first | (go_simp; done) | (go_simp; rfl) | (go_simp; omega))
                          try simp only [Act.put, List.setIfInBounds_toArray, List.set_cons_zero, List.set_cons_succ]
                          refine wpAnyH_take (i := 6) (oi := { dst := some 99, op := Op.load 3 (Operand.tmp 98), type := 3, pos := "l10_client.go:24", after := #[{ on := 5, ground := Ground.data }], guard := none }) (v := .int .i64 c.m) rfl (by kernel_rfl) (by kernel_rfl) (by kernel_rfl) (fun _ _ _ h => h) (Or.inl ⟨by rfl, ?_⟩) (by assumption) ?_
                          · (intro wq hq; have hx := hq.2.1; clear hq; first | (go_simp; done) | (go_simp; rfl))
                          try simp only [Act.put, List.setIfInBounds_toArray, List.set_cons_zero, List.set_cons_succ]
                          refine wpAnyH_ready (rs := [7]) (by kernel_rfl) (by simp) ?_
                          refine AllReadyH.cons (o := { dst := some 100, op := Op.call { callee := Callee.value (Operand.func 15), args := #[Operand.tmp 97, Operand.const (Value.int IntKind.i64 1), Operand.tmp 99], argTypes := #[3, 3, 3] }, type := 4, pos := "l10_client.go:24", after := #[{ on := 4, ground := Ground.data }, { on := 6, ground := Ground.data }], guard := none }) rfl (fun K hK => ?_) AllReadyH.nil
                          go_simp
                          go_at_call 15
                          refine (cy _).mono ?_
                          rintro e w2 ⟨rfl, hw2⟩
                          subst hw2
                          go_simp
                          refine hK.out _ _ hHeld (fun hHeld => ?_)
                          clear hK K
                          refine wpAnyH_take (i := 8) (oi := { dst := some 101, op := Op.unOp UnOp.not 4 (Operand.tmp 100), type := 4, pos := "l10_client.go:24", after := #[{ on := 7, ground := Ground.data }], guard := none }) (v := .bool true) rfl (by kernel_rfl) (by kernel_rfl) (by kernel_rfl) (fun _ _ _ h => h) (Or.inl ⟨by rfl, ?_⟩) (by assumption) ?_
                          · (intro wq hq; first | (go_simp; done) | (go_simp; rfl) | (go_simp; omega))
                          try simp only [Act.put, List.setIfInBounds_toArray, List.set_cons_zero, List.set_cons_succ]
                          refine wpAnyH_take (i := 9) (oi := { dst := some 102, op := Op.move (Operand.tmp 101), type := 4, pos := "l10_client.go:24", after := #[{ on := 8, ground := Ground.data }, { on := 7, ground := Ground.chain }], guard := none }) (v := .bool true) rfl (by kernel_rfl) (by kernel_rfl) (by kernel_rfl) (fun _ _ _ h => h) (Or.inl ⟨by rfl, ?_⟩) (by assumption) ?_
                          · (intro wq hq; first | (go_simp; done) | (go_simp; rfl) | (go_simp; omega))
                          try simp only [Act.put, List.setIfInBounds_toArray, List.set_cons_zero, List.set_cons_succ]
                          refine wpAnyH_take (i := 10) (oi := { dst := some 103, op := Op.move (Operand.tmp 3), type := 3, pos := "l10_client.go:24", after := #[{ on := 9, ground := Ground.guard }], guard := some (9, false) }) (v := undef) rfl (by kernel_rfl) (by kernel_rfl) (by kernel_rfl) (fun _ _ _ h => h) (Or.inr ⟨by rfl, rfl⟩) (by assumption) ?_
                          try simp only [Act.put, List.setIfInBounds_toArray, List.set_cons_zero, List.set_cons_succ]
                          refine wpAnyH_take (i := 11) (oi := { dst := some 104, op := Op.binOp BinOp.gtr 3 (Operand.tmp 103) (Operand.const (Value.int IntKind.i64 0)) 3, type := 4, pos := "l10_client.go:24", after := #[{ on := 10, ground := Ground.data }, { on := 9, ground := Ground.guard }], guard := some (9, false) }) (v := undef) rfl (by kernel_rfl) (by kernel_rfl) (by kernel_rfl) (fun _ _ _ h => h) (Or.inr ⟨by rfl, rfl⟩) (by assumption) ?_
                          try simp only [Act.put, List.setIfInBounds_toArray, List.set_cons_zero, List.set_cons_succ]
                          refine wpAnyH_take (i := 12) (oi := { dst := some 105, op := Op.move (Operand.tmp 104), type := 4, pos := "l10_client.go:24", after := #[{ on := 11, ground := Ground.data }, { on := 9, ground := Ground.chain }, { on := 9, ground := Ground.guard }], guard := some (9, false) }) (v := undef) rfl (by kernel_rfl) (by kernel_rfl) (by kernel_rfl) (fun _ _ _ h => h) (Or.inr ⟨by rfl, rfl⟩) (by assumption) ?_
                          try simp only [Act.put, List.setIfInBounds_toArray, List.set_cons_zero, List.set_cons_succ]
                          refine wpAnyH_take (i := 13) (oi := { dst := some 106, op := Op.fieldAddr 36 (Operand.tmp 1) 5, type := 0, pos := "l10_client.go:24", after := #[{ on := 12, ground := Ground.guard }], guard := some (12, true) }) (v := undef) rfl (by kernel_rfl) (by kernel_rfl) (by kernel_rfl) (fun _ _ _ h => h) (Or.inr ⟨by rfl, rfl⟩) (by assumption) ?_
                          try simp only [Act.put, List.setIfInBounds_toArray, List.set_cons_zero, List.set_cons_succ]
                          refine wpAnyH_take (i := 14) (oi := { dst := some 107, op := Op.load 27 (Operand.tmp 106), type := 27, pos := "l10_client.go:24", after := #[{ on := 13, ground := Ground.data }, { on := 12, ground := Ground.guard }], guard := some (12, true) }) (v := undef) rfl (by kernel_rfl) (by kernel_rfl) (by kernel_rfl) (fun _ _ _ h => h) (Or.inr ⟨by rfl, rfl⟩) (by assumption) ?_
                          try simp only [Act.put, List.setIfInBounds_toArray, List.set_cons_zero, List.set_cons_succ]
                          refine wpAnyH_take (i := 15) (oi := { dst := some 108, op := Op.move (Operand.tmp 3), type := 3, pos := "l10_client.go:24", after := #[{ on := 12, ground := Ground.guard }], guard := some (12, true) }) (v := undef) rfl (by kernel_rfl) (by kernel_rfl) (by kernel_rfl) (fun _ _ _ h => h) (Or.inr ⟨by rfl, rfl⟩) (by assumption) ?_
                          try simp only [Act.put, List.setIfInBounds_toArray, List.set_cons_zero, List.set_cons_succ]
                          refine wpAnyH_take (i := 16) (oi := { dst := some 109, op := Op.binOp BinOp.sub 3 (Operand.tmp 108) (Operand.const (Value.int IntKind.i64 1)) 3, type := 3, pos := "l10_client.go:24", after := #[{ on := 15, ground := Ground.data }, { on := 12, ground := Ground.guard }], guard := some (12, true) }) (v := undef) rfl (by kernel_rfl) (by kernel_rfl) (by kernel_rfl) (fun _ _ _ h => h) (Or.inr ⟨by rfl, rfl⟩) (by assumption) ?_
                          try simp only [Act.put, List.setIfInBounds_toArray, List.set_cons_zero, List.set_cons_succ]
                          refine wpAnyH_take (i := 17) (oi := { dst := some 110, op := Op.indexAddr 27 (Operand.tmp 107) (Operand.tmp 109), type := 0, pos := "l10_client.go:24", after := #[{ on := 14, ground := Ground.data }, { on := 16, ground := Ground.data }, { on := 12, ground := Ground.guard }], guard := some (12, true) }) (v := undef) rfl (by kernel_rfl) (by kernel_rfl) (by kernel_rfl) (fun _ _ _ h => h) (Or.inr ⟨by rfl, rfl⟩) (by assumption) ?_
                          try simp only [Act.put, List.setIfInBounds_toArray, List.set_cons_zero, List.set_cons_succ]
                          refine wpAnyH_take (i := 18) (oi := { dst := some 111, op := Op.load 3 (Operand.tmp 110), type := 3, pos := "l10_client.go:24", after := #[{ on := 17, ground := Ground.data }, { on := 12, ground := Ground.guard }], guard := some (12, true) }) (v := undef) rfl (by kernel_rfl) (by kernel_rfl) (by kernel_rfl) (fun _ _ _ h => h) (Or.inr ⟨by rfl, rfl⟩) (by assumption) ?_
                          try simp only [Act.put, List.setIfInBounds_toArray, List.set_cons_zero, List.set_cons_succ]
                          refine wpAnyH_take (i := 19) (oi := { dst := some 112, op := Op.fieldAddr 36 (Operand.tmp 1) 5, type := 0, pos := "l10_client.go:24", after := #[{ on := 12, ground := Ground.guard }], guard := some (12, true) }) (v := undef) rfl (by kernel_rfl) (by kernel_rfl) (by kernel_rfl) (fun _ _ _ h => h) (Or.inr ⟨by rfl, rfl⟩) (by assumption) ?_
                          try simp only [Act.put, List.setIfInBounds_toArray, List.set_cons_zero, List.set_cons_succ]
                          refine wpAnyH_take (i := 20) (oi := { dst := some 113, op := Op.load 27 (Operand.tmp 112), type := 27, pos := "l10_client.go:24", after := #[{ on := 19, ground := Ground.data }, { on := 12, ground := Ground.guard }], guard := some (12, true) }) (v := undef) rfl (by kernel_rfl) (by kernel_rfl) (by kernel_rfl) (fun _ _ _ h => h) (Or.inr ⟨by rfl, rfl⟩) (by assumption) ?_
                          try simp only [Act.put, List.setIfInBounds_toArray, List.set_cons_zero, List.set_cons_succ]
                          refine wpAnyH_take (i := 21) (oi := { dst := some 114, op := Op.move (Operand.tmp 3), type := 3, pos := "l10_client.go:24", after := #[{ on := 12, ground := Ground.guard }], guard := some (12, true) }) (v := undef) rfl (by kernel_rfl) (by kernel_rfl) (by kernel_rfl) (fun _ _ _ h => h) (Or.inr ⟨by rfl, rfl⟩) (by assumption) ?_
                          try simp only [Act.put, List.setIfInBounds_toArray, List.set_cons_zero, List.set_cons_succ]
                          refine wpAnyH_take (i := 22) (oi := { dst := some 115, op := Op.indexAddr 27 (Operand.tmp 113) (Operand.tmp 114), type := 0, pos := "l10_client.go:24", after := #[{ on := 20, ground := Ground.data }, { on := 21, ground := Ground.data }, { on := 12, ground := Ground.guard }], guard := some (12, true) }) (v := undef) rfl (by kernel_rfl) (by kernel_rfl) (by kernel_rfl) (fun _ _ _ h => h) (Or.inr ⟨by rfl, rfl⟩) (by assumption) ?_
                          try simp only [Act.put, List.setIfInBounds_toArray, List.set_cons_zero, List.set_cons_succ]
                          refine wpAnyH_take (i := 23) (oi := { dst := some 116, op := Op.load 3 (Operand.tmp 115), type := 3, pos := "l10_client.go:24", after := #[{ on := 22, ground := Ground.data }, { on := 12, ground := Ground.guard }], guard := some (12, true) }) (v := undef) rfl (by kernel_rfl) (by kernel_rfl) (by kernel_rfl) (fun _ _ _ h => h) (Or.inr ⟨by rfl, rfl⟩) (by assumption) ?_
                          try simp only [Act.put, List.setIfInBounds_toArray, List.set_cons_zero, List.set_cons_succ]
                          refine wpAnyH_take (i := 24) (oi := { dst := some 117, op := Op.binOp BinOp.geq 3 (Operand.tmp 111) (Operand.tmp 116) 3, type := 4, pos := "l10_client.go:24", after := #[{ on := 18, ground := Ground.data }, { on := 23, ground := Ground.data }, { on := 12, ground := Ground.guard }], guard := some (12, true) }) (v := undef) rfl (by kernel_rfl) (by kernel_rfl) (by kernel_rfl) (fun _ _ _ h => h) (Or.inr ⟨by rfl, rfl⟩) (by assumption) ?_
                          try simp only [Act.put, List.setIfInBounds_toArray, List.set_cons_zero, List.set_cons_succ]
                          refine wpAnyH_take (i := 25) (oi := { dst := some 118, op := Op.pick (Operand.tmp 105) (Operand.tmp 117) (Operand.const (Value.bool false)), type := 4, pos := "l10_client.go:24", after := #[{ on := 12, ground := Ground.data }, { on := 24, ground := Ground.data }, { on := 9, ground := Ground.guard }], guard := some (9, false) }) (v := undef) rfl (by kernel_rfl) (by kernel_rfl) (by kernel_rfl) (fun _ _ _ h => h) (Or.inr ⟨by rfl, rfl⟩) (by assumption) ?_
                          try simp only [Act.put, List.setIfInBounds_toArray, List.set_cons_zero, List.set_cons_succ]
                          refine wpAnyH_take (i := 26) (oi := { dst := some 119, op := Op.pick (Operand.tmp 102) (Operand.const (Value.bool true)) (Operand.tmp 118), type := 4, pos := "l10_client.go:24", after := #[{ on := 9, ground := Ground.data }, { on := 25, ground := Ground.data }], guard := none }) (v := .bool true) rfl (by kernel_rfl) (by kernel_rfl) (by kernel_rfl) (fun _ _ _ h => h) (Or.inl ⟨by rfl, ?_⟩) (by assumption) ?_
                          · (intro wq hq; first | (go_simp; done) | (go_simp; rfl) | (go_simp; omega))
                          try simp only [Act.put, List.setIfInBounds_toArray, List.set_cons_zero, List.set_cons_succ]
                          refine wpAnyH_done (by kernel_rfl) ?_ _
                          clear hHeld
                          go_wp2_with fail
                          go_ret
                          first | exact ⟨false, rfl, zd, no_of hno⟩ | exact ⟨rfl, zd⟩ | exact ⟨rfl, zd, hno⟩
                      · have hkk : k = X.length := by omega
                        subst hkk
                        have hyes : Cok c X := hC'.2 hA
                        clear hC' hA A2
                        go_wp2_with fail
                        go_ret
                        first | exact ⟨true, rfl, zz, yes_of hyes⟩ | exact ⟨rfl, zz⟩ | exact ⟨rfl, zz, hyes⟩
                  · have hnI : c.n ≤ (X.length : Int) := by omega
                    have hno : ¬ Cok c X := fun h => hn (hC.1 h).2.2.1
                    clear hC
                    go_wp2_with (go_at_call 15; refine (cg _).mono ?_; rintro e w2 ⟨rfl, hw2⟩; subst hw2)
                    go_ret
                    first | exact ⟨false, rfl, zz, no_of hno⟩ | exact ⟨rfl, zz⟩ | exact ⟨rfl, zz, hno⟩
                · have eg : (decide (c.ps + 1 ≤ c.gs) && decide (c.gs ≤ 256)) = false := by rw [Bool.and_eq_false_iff, decide_eq_false_iff_not, decide_eq_false_iff_not]; omega
                  rw [eg] at cg
                  have hno : ¬ Cok c X := fun h => hg (hC.1 h).2.1
                  clear hC
                  go_wp2_with (go_at_call 15; refine (cg _).mono ?_; rintro e w2 ⟨rfl, hw2⟩; subst hw2)
                  go_ret
                  first | exact ⟨false, rfl, zz, no_of hno⟩ | exact ⟨rfl, zz⟩ | exact ⟨rfl, zz, hno⟩
              · have hseI : c.se < 1 := by omega
                have hno : ¬ Cok c X := fun h => hse (hC.1 h).1
                clear hC
                go_wp2_with fail
                go_ret
                first | exact ⟨false, rfl, zz, no_of hno⟩ | exact ⟨rfl, zz⟩ | exact ⟨rfl, zz, hno⟩
            · have hno : ¬ Cok c X := fun h => by rcases h.2.2.2 with h | h | h <;> (have := h.1; omega)
              have b0 : (c.ph == 0) = false := by rw [beq_eq_false_iff_ne]; exact h0
              have b1 : (c.ph == 1) = false := by rw [beq_eq_false_iff_ne]; exact h1
              have b2 : (c.ph == 2) = false := by rw [beq_eq_false_iff_ne]; exact h2
              have b3 : (c.ph != 2) = true := by rw [bne, b2]; rfl
              go_wp2_with fail
              go_ret
              first | exact ⟨false, rfl, zz, no_of hno⟩ | exact ⟨rfl, zz⟩ | exact ⟨rfl, zz, hno⟩
    · have hno : ¬ Cok c X := fun h => hs h.2.1
      have e3 : (decide (0 ≤ c.se) && decide (c.se ≤ 1000000)) = false := by rw [Bool.and_eq_false_iff, decide_eq_false_iff_not, decide_eq_false_iff_not]; omega
      rw [e3] at c3
      go_wp2_with (go_at_call 15; refine (c3 _).mono ?_; rintro e w1 ⟨rfl, hw1⟩; subst hw1)
      go_ret
      first | exact ⟨false, rfl, zz, no_of hno⟩ | exact ⟨rfl, zz⟩ | exact ⟨rfl, zz, hno⟩
end Go.Proofs.YtdpbgcilkidbaaaDoor
