/-
  The law of RecordRead, walked.
-/
import Derived.Test.YtbmkknbbikoilaaRRead2
import Derived.Test.YtbmkknbbikoilaaRMark
namespace Go.Proofs.Ytbmkknbbikoilaa
open Go.RowKit Go.MuLone

set_option maxRecDepth 20000 in
set_option maxHeartbeats 1000000 in
theorem tosl_ex (s : Sl) (w : World) :
    Calls Try.prog 24 #[.agg #[.int .u64 ((s).m.toNat : Int), .int .u64 ((s).q.toNat : Int), .int .u64 ((s).z.toNat : Int), .int .u64 ((s).r.a.toNat : Int), .int .u64 ((s).r.b.toNat : Int), .int .u64 ((s).r.c.toNat : Int), .int .u64 ((s).r.d.toNat : Int)]] w fun e w' => e = .returned (.agg #[.int .u64 ((s).m.toNat : Int), .int .u64 ((s).q.toNat : Int), .int .u64 ((s).z.toNat : Int), .int .u64 ((s).r.a.toNat : Int), .int .u64 ((s).r.b.toNat : Int), .int .u64 ((s).r.c.toNat : Int), .int .u64 ((s).r.d.toNat : Int)]) ∧ w' = (((((w.alloc (.cells #[Value.int IntKind.u64 ((s).m.toNat : Int), Value.int IntKind.u64 ((s).q.toNat : Int), Value.int IntKind.u64 ((s).z.toNat : Int), Value.int IntKind.u64 ((s).r.a.toNat : Int), Value.int IntKind.u64 ((s).r.b.toNat : Int), Value.int IntKind.u64 ((s).r.c.toNat : Int), Value.int IntKind.u64 ((s).r.d.toNat : Int)] 26)).alloc (.cells #[Value.int IntKind.u64 ((s).m.toNat : Int), Value.int IntKind.u64 ((s).q.toNat : Int), Value.int IntKind.u64 ((s).z.toNat : Int), Value.int IntKind.u64 ((s).r.a.toNat : Int), Value.int IntKind.u64 ((s).r.b.toNat : Int), Value.int IntKind.u64 ((s).r.c.toNat : Int), Value.int IntKind.u64 ((s).r.d.toNat : Int)] 33)).alloc (.cells #[Value.int IntKind.u64 ((s).m.toNat : Int), Value.int IntKind.u64 ((s).q.toNat : Int), Value.int IntKind.u64 ((s).z.toNat : Int), Value.int IntKind.u64 ((s).r.a.toNat : Int), Value.int IntKind.u64 ((s).r.b.toNat : Int), Value.int IntKind.u64 ((s).r.c.toNat : Int), Value.int IntKind.u64 ((s).r.d.toNat : Int)] 33)).alloc (.cells #[Value.int IntKind.u64 ((s.r).a.toNat : Int), Value.int IntKind.u64 ((s.r).b.toNat : Int), Value.int IntKind.u64 ((s.r).c.toNat : Int), Value.int IntKind.u64 ((s.r).d.toNat : Int)] 24)).alloc (.cells #[Value.int IntKind.u64 ((s.r).a.toNat : Int), Value.int IntKind.u64 ((s.r).b.toNat : Int), Value.int IntKind.u64 ((s.r).c.toNat : Int), Value.int IntKind.u64 ((s.r).d.toNat : Int)] 31)).alloc (.cells #[Value.int IntKind.u64 ((s.r).a.toNat : Int), Value.int IntKind.u64 ((s.r).b.toNat : Int), Value.int IntKind.u64 ((s.r).c.toNat : Int), Value.int IntKind.u64 ((s.r).d.toNat : Int)] 31) := by
  go_enter Try.func24, Try.ntmps24
  go_wp2_with (go_at_call 9; refine (toD_is _ _).mono ?_; rintro e w1 ⟨rfl, rfl⟩)
  exact bodyPost_ret (v := .agg #[.int .u64 ((s).m.toNat : Int), .int .u64 ((s).q.toNat : Int), .int .u64 ((s).z.toNat : Int), .int .u64 ((s).r.a.toNat : Int), .int .u64 ((s).r.b.toNat : Int), .int .u64 ((s).r.c.toNat : Int), .int .u64 ((s).r.d.toNat : Int)]) (by simp [results, Try.results24, go_sem]) rfl ⟨rfl, rfl⟩
set_option maxRecDepth 20000 in
set_option maxHeartbeats 2000000 in
theorem todk_is (s t : Sl) (w : World) :
    Calls Try.prog 8 #[.agg #[.int .u64 ((s).m.toNat : Int), .int .u64 ((s).q.toNat : Int), .int .u64 ((s).z.toNat : Int), .int .u64 ((s).r.a.toNat : Int), .int .u64 ((s).r.b.toNat : Int), .int .u64 ((s).r.c.toNat : Int), .int .u64 ((s).r.d.toNat : Int), .int .u64 ((t).m.toNat : Int), .int .u64 ((t).q.toNat : Int), .int .u64 ((t).z.toNat : Int), .int .u64 ((t).r.a.toNat : Int), .int .u64 ((t).r.b.toNat : Int), .int .u64 ((t).r.c.toNat : Int), .int .u64 ((t).r.d.toNat : Int)]] w fun e w' => e = .returned (.agg #[.int .u64 ((s).m.toNat : Int), .int .u64 ((s).q.toNat : Int), .int .u64 ((s).z.toNat : Int), .int .u64 ((s).r.a.toNat : Int), .int .u64 ((s).r.b.toNat : Int), .int .u64 ((s).r.c.toNat : Int), .int .u64 ((s).r.d.toNat : Int), .int .u64 ((t).m.toNat : Int), .int .u64 ((t).q.toNat : Int), .int .u64 ((t).z.toNat : Int), .int .u64 ((t).r.a.toNat : Int), .int .u64 ((t).r.b.toNat : Int), .int .u64 ((t).r.c.toNat : Int), .int .u64 ((t).r.d.toNat : Int)]) ∧ Below w.heap.size w w' := by
  have c1 := fun W : World => tosl_ex s W
  have c2 := fun W : World => tosl_ex t W
  go_enter Try.func8, Try.ntmps8
  go_wp2_with (first
    | (have hh := H1; go_at_call 24; refine (c2 _).mono ?_; rintro e w2 ⟨rfl, rfl⟩)
    | (go_at_call 24; refine (c1 _).mono ?_; rintro e w1 ⟨rfl, rfl⟩; have H1 : True := trivial))
  exact bodyPost_ret (v := .agg #[.int .u64 ((s).m.toNat : Int), .int .u64 ((s).q.toNat : Int), .int .u64 ((s).z.toNat : Int), .int .u64 ((s).r.a.toNat : Int), .int .u64 ((s).r.b.toNat : Int), .int .u64 ((s).r.c.toNat : Int), .int .u64 ((s).r.d.toNat : Int), .int .u64 ((t).m.toNat : Int), .int .u64 ((t).q.toNat : Int), .int .u64 ((t).z.toNat : Int), .int .u64 ((t).r.a.toNat : Int), .int .u64 ((t).r.b.toNat : Int), .int .u64 ((t).r.c.toNat : Int), .int .u64 ((t).r.d.toNat : Int)]) (by simp [results, Try.results8, go_sem]) rfl ⟨rfl, (by repeat' (first | (with_reducible exact Below.refl _ _) | (with_reducible assumption) | (with_reducible refine below_drewN ?_ _) | (with_reducible refine Below.setCell ?_ ?_ _) | (with_reducible refine Below.alloc ?_ ?_ _) | (with_reducible refine Below.drew ?_) | go_size))⟩
theorem RB.new (W : World) (a b : Int) (q : Qd) (ty : TypeId) : RB W.heap.size a b q (W.alloc (.cells #[.int .i64 a, .int .i64 b, .int .u64 ((q.a).toNat : Int), .int .u64 ((q.b).toNat : Int), .int .u64 ((q.c).toNat : Int), .int .u64 ((q.d).toNat : Int)] ty)) := by
  refine ⟨by simp, ⟨?_, ?_, ?_, ?_, ?_, ?_⟩, fun i hi => ?_⟩ <;> simp [go_sem]
end Go.Proofs.Ytbmkknbbikoilaa

/-
  Rows of raw writes of one's own, marked and held.
-/
namespace Go.Proofs.Ytbmkknbbikoilaa
open Go.RowKit Go.MuLone

set_option maxRecDepth 20000 in
theorem agg_dkl2 : AggTy 28 14 := ⟨⟨_, Try.underlying28, rfl⟩, by kernel_rfl⟩
/-- The slice v has n raw writes that bear the marks from 1 on. -/
def MK (v : Value) (n : Nat) (W : World) : Prop := ∃ oa cap, v = .slice oa n cap ∧ (n = 0 ∨ ∃ g, oa = some ⟨g, 0, none⟩ ∧ g < W.heap.size ∧ RMk g n W)
theorem MK.call {v : Value} {n : Nat} {W W' : World} (h : MK v n W) (hb : Below W.heap.size W W') : MK v n W' := by
  obtain ⟨oa, cap, hv, h⟩ := h
  refine ⟨oa, cap, hv, ?_⟩
  rcases h with h | ⟨g, hg, hlt, hm⟩
  · exact .inl h
  · exact .inr ⟨g, hg, Nat.lt_of_lt_of_le hlt hb.size, hm.call hlt hb⟩
theorem mark_own (W : World) (base : Nat) (v : Value) (L : List Rw) (h : W.ownsRow base 56 3 v L.length (rcs L)) (hn : L.length ≤ 1000) :
    Calls Try.prog 12 #[v, .int .i64 1] W fun e w' => e = .returned (.int .i64 ((1 + 3 * L.length : Nat) : Int)) ∧ W.grownBy w' v.ownBlock ∧ MK v L.length w' := by
  by_cases h0 : L.length = 0
  · obtain ⟨oa, cap, rfl⟩ := owr_len h
    rw [h0]
    refine (markraws_nil W oa cap).mono fun e w' ⟨he, hw⟩ => ⟨by rw [he]; rfl, ?_, oa, cap, rfl, .inl rfl⟩
    subst hw
    exact ⟨rfl, rfl, rfl, Nat.le_refl _, fun _ _ _ => rfl⟩
  · obtain ⟨hx, ⟨rfl, h1⟩ | ⟨g, cap, cur, rfl, hb, hg, hnc, hm, hs, ht⟩⟩ := id h
    · exact absurd h1 h0
    have hR : Room g 0 (L.length * 3) W := by
      refine ⟨fun j hj => ?_, fun j hj => ?_⟩
      · rw [Nat.zero_add, h.cellAt j hj, List.getElem?_eq_getElem (by rw [rcs_len]; exact hj)]
        rfl
      · rw [Nat.zero_add]
        exact h.frozenAt j
    refine (markraws_is W g L.length cap hR hn).mono fun e w' ⟨he, hg1, hr, hk⟩ => ⟨he, hg1, some ⟨g, 0, none⟩, cap, rfl, .inr ⟨g, rfl, ?_, hk⟩⟩
    exact Nat.lt_of_lt_of_le (h.lt g rfl).2 hg1.size
theorem held_own (W : World) (v : Value) (n : Nat) (h : MK v n W) (hn : n ≤ 1000) :
    Calls Try.prog 13 #[v, .int .i64 1] W fun e w' => e = .returned (.int .i64 ((1 + 3 * n : Nat) : Int)) ∧ W = w' := by
  obtain ⟨oa, cap, rfl, h⟩ := h
  by_cases h0 : n = 0
  · subst h0
    exact (heldraws_nil W oa cap).mono fun e w' ⟨he, hw⟩ => ⟨by rw [he]; rfl, hw⟩
  · rcases h with h | ⟨g, rfl, hlt, hm⟩
    · exact absurd h h0
    exact heldraws_is W g n cap hm hn
theorem own_grownR {W W' : World} {base n r : Nat} {v u : Value} {xs : List Value} (h : W.ownsRow base 56 3 v n xs) (hg : W.grownBy W' u.ownBlock) (hlt : ∀ k, v.ownBlock = some k → k < r) (hge : ∀ k, u.ownBlock = some k → r ≤ k) : W'.ownsRow base 56 3 v n xs :=
  h.kept hg (by
    cases hv : v.ownBlock with
    | none => exact .inl rfl
    | some k => exact .inr (fun e => by
        have := hlt k hv
        have := hge k e.symm
        omega))
end Go.Proofs.Ytbmkknbbikoilaa
