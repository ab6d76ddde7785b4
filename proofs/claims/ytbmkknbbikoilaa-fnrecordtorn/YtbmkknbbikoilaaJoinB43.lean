/-
  Raw writes marked, and held to bear their marks.
-/
import Derived.Test.YtbmkknbbikoilaaRMend
import Derived.Test.YtbmkknbbikoilaaRRead2
namespace Go.Proofs.Ytbmkknbbikoilaa
open Go.RowKit

/-- The first n raw writes of the block B bear the marks from 1 on. -/
def RMk (B n : Nat) (W : World) : Prop := ∀ i, i < n → W.cell? ⟨B, i * 3, none⟩ = some (.int .i64 ((1 + 3 * i : Nat) : Int)) ∧ W.cell? ⟨B, i * 3 + 1, none⟩ = some (.int .i64 (((1 + 3 * i : Nat) : Int) + 1)) ∧ W.cell? ⟨B, i * 3 + 2, none⟩ = some (.int .u64 (((1 + 3 * i : Nat) : Int) + 1 + 1))
theorem RMk.call {B n : Nat} {W W' : World} (h : RMk B n W) (hB : B < W.heap.size) (hb : Below W.heap.size W W') : RMk B n W' := fun i hi => by
  obtain ⟨h1, h2, h3⟩ := h i hi
  exact ⟨(hb.cell (p := ⟨B, i * 3, none⟩) hB).trans h1, (hb.cell (p := ⟨B, i * 3 + 1, none⟩) hB).trans h2, (hb.cell (p := ⟨B, i * 3 + 2, none⟩) hB).trans h3⟩
theorem RMk.set {B n o : Nat} {W : World} (h : RMk B n W) (x : Value) (ho : n * 3 ≤ o) : RMk B n (W.setCell ⟨B, o, none⟩ x) := fun i hi => by
  obtain ⟨h1, h2, h3⟩ := h i hi
  exact ⟨(set_off (by omega)).trans h1, (set_off (by omega)).trans h2, (set_off (by omega)).trans h3⟩
/-- What stands while raw writes are marked. -/
def MS (W : World) (B n j : Nat) (wr : World) : Prop := W.grownBy wr (some B) ∧ Room B 0 (n * 3) wr ∧ RMk B j wr
theorem MS.step {W wr : World} {B n j m : Nat} (h : MS W B n j wr) (hj : j < n) (hm : m = 1 + 3 * j) :
    MS W B n (j + 1) (((wr.setCell ⟨B, j * 3, none⟩ (.int .i64 (m : Int))).setCell ⟨B, j * 3 + 1, none⟩ (.int .i64 ((m : Int) + 1))).setCell ⟨B, j * 3 + 2, none⟩ (.int .u64 ((m : Int) + 1 + 1))) := by
  obtain ⟨h1, h2, h3⟩ := h
  have is := fun (V : World) (hV : Room B 0 (n * 3) V) (i : Nat) (hi : i < n * 3) => by
    have := hV.1 i hi
    rw [Nat.zero_add] at this
    exact this
  have s1 := h2.set B (j * 3) (.int .i64 (m : Int))
  have s2 := s1.set B (j * 3 + 1) (.int .i64 ((m : Int) + 1))
  have s3 := s2.set B (j * 3 + 2) (.int .u64 ((m : Int) + 1 + 1))
  refine ⟨((h1.trans2B (sc_grown wr B (j * 3) [.int .i64 (m : Int)])).trans2B (sc_grown _ B (j * 3 + 1) [.int .i64 ((m : Int) + 1)])).trans2B (sc_grown _ B (j * 3 + 2) [.int .u64 ((m : Int) + 1 + 1)]), s3, fun i hi => ?_⟩
  by_cases e : i = j
  · subst e hm
    refine ⟨?_, ?_, set_same (is _ s2 _ (by omega))⟩
    · rw [set_off (by omega), set_off (by omega), set_same (is _ h2 _ (by omega))]
    · rw [set_off (by omega), set_same (is _ s1 _ (by omega))]
  · exact (((h3.set _ (Nat.le_refl _)).set _ (by omega)).set _ (by omega)) i (by omega)
set_option maxRecDepth 20000 in
set_option maxHeartbeats 2000000 in
theorem markraws_is (W : World) (B n cap : Nat) (h : Room B 0 (n * 3) W) (hn : n ≤ 1000) :
    Calls Try.prog 12 #[.slice (some ⟨B, 0, none⟩) n cap, .int .i64 1] W fun e w' => e = .returned (.int .i64 ((1 + 3 * n : Nat) : Int)) ∧ W.grownBy w' (some B) ∧ Room B 0 (n * 3) w' ∧ RMk B n w' := by
  have HS : Hid (MS W B n 0 W) := ⟨⟨rfl, rfl, rfl, Nat.le_refl _, fun _ _ _ => rfl⟩, h, fun i hi => by omega⟩
  clear h
  go_enter Try.func12, Try.ntmps12
  go_wp2_with fail
  go_loopw [1, 5] (fun m i wr => ∃ j : Nat, j ≤ n ∧ m = .int .i64 ((1 + 3 * j : Nat) : Int) ∧ i = .int .i64 (j : Int) ∧ Hid (MS W B n j wr)) (fun _ i _ => n - (intOf i).toNat)
  case atStart => exact ⟨0, by omega, rfl, rfl, HS⟩
  case round =>
    obtain ⟨j, hj, rfl, rfl, HR⟩ := hrel
    by_cases hlt : j < n
    · have r2 := HR.out.2.1
      have is := fun (i : Nat) (hi : i < n * 3) => by
        have := r2.1 i hi
        rw [Nat.zero_add] at this
        exact this
      have fz := fun (i : Nat) (hi : i < n * 3) => by
        have := r2.2 i hi
        rw [Nat.zero_add] at this
        exact this
      obtain ⟨u0, c0⟩ := Option.isSome_iff_exists.1 (is (j * 3) (by omega))
      obtain ⟨u1, c1⟩ := Option.isSome_iff_exists.1 (is (j * 3 + 1) (by omega))
      obtain ⟨u2, c2⟩ := Option.isSome_iff_exists.1 (is (j * 3 + 2) (by omega))
      have f0 := fz (j * 3) (by omega)
      have f1 := fz (j * 3 + 1) (by omega)
      have f2 := fz (j * 3 + 2) (by omega)
      obtain ⟨m, hm⟩ : ∃ m, m = 1 + 3 * j := ⟨_, rfl⟩
      have HM : Hid (m = 1 + 3 * j) := hm
      have HN : Hid (MS W B n (j + 1) (((wr.setCell ⟨B, j * 3, none⟩ (.int .i64 (m : Int))).setCell ⟨B, j * 3 + 1, none⟩ (.int .i64 ((m : Int) + 1))).setCell ⟨B, j * 3 + 2, none⟩ (.int .u64 ((m : Int) + 1 + 1)))) := HR.out.step hlt hm
      rw [← hm]
      have hmI : (m : Int) ≤ 4000 := by omega
      have hm0 : 0 ≤ (m : Int) := by omega
      have a1 : IntKind.i64.wrap ((m : Int) + 1) = (m : Int) + 1 := IntWalk.i64_in _ (by omega)
      have a2 : IntKind.i64.wrap ((m : Int) + 1 + 1) = (m : Int) + 1 + 1 := IntWalk.i64_in _ (by omega)
      have a3 : IntKind.i64.wrap ((m : Int) + 1 + 1 + 1) = (m : Int) + 1 + 1 + 1 := IntWalk.i64_in _ (by omega)
      have a4 : IntKind.u64.wrap ((m : Int) + 1 + 1) = (m : Int) + 1 + 1 := IntWalk.u64_in _ (by omega)
      have b1 : IntKind.i64.wrap ((j : Int) + 1) = (j : Int) + 1 := IntWalk.i64_in _ (by omega)
      have hj0 : (0 : Int) ≤ (j : Int) := by omega
      have hjI : (j : Int) < (n : Int) := by omega
      clear HR HS r2 hm is fz
      go_wp2_with fail
      exact ⟨⟨j + 1, by omega, congrArg (Value.int IntKind.i64) (by have := HM.out; omega), rfl, HN⟩, by simp only [intOf]; omega⟩
    · have hkk : j = n := by omega
      subst hkk
      clear HS
      go_wp2_with fail
      go_ret
      exact ⟨rfl, HR.out⟩
set_option maxRecDepth 20000 in
theorem markraws_nil (W : World) (oa : Option Addr) (cap : Nat) :
    Calls Try.prog 12 #[.slice oa 0 cap, .int .i64 1] W fun e w' => e = .returned (.int .i64 1) ∧ W = w' := by
  go_enter Try.func12, Try.ntmps12
  go_wp2_with fail
  refine wp_loop_rounds 1 ?_
  rw [rounds_succ]
  go_wp2
  go_ret
  exact ⟨rfl, rfl⟩
set_option maxRecDepth 20000 in
theorem heldraws_nil (W : World) (oa : Option Addr) (cap : Nat) :
    Calls Try.prog 13 #[.slice oa 0 cap, .int .i64 1] W fun e w' => e = .returned (.int .i64 1) ∧ W = w' := by
  go_enter Try.func13, Try.ntmps13
  go_wp2_with fail
  refine wp_loop_rounds 1 ?_
  rw [rounds_succ]
  go_wp2
  go_ret
  exact ⟨rfl, rfl⟩
set_option maxRecDepth 20000 in
set_option maxHeartbeats 2000000 in
theorem heldraws_is (W : World) (B n cap : Nat) (h : RMk B n W) (hn : n ≤ 1000) :
    Calls Try.prog 13 #[.slice (some ⟨B, 0, none⟩) n cap, .int .i64 1] W fun e w' => e = .returned (.int .i64 ((1 + 3 * n : Nat) : Int)) ∧ W = w' := by
  go_enter Try.func13, Try.ntmps13
  go_wp2_with fail
  go_loopw [1, 5] (fun m i wr => ∃ j : Nat, j ≤ n ∧ m = .int .i64 ((1 + 3 * j : Nat) : Int) ∧ i = .int .i64 (j : Int) ∧ Hid (W = wr)) (fun _ i _ => n - (intOf i).toNat)
  case atStart => exact ⟨0, by omega, rfl, rfl, rfl⟩
  case round =>
    obtain ⟨j, hj, rfl, rfl, HR⟩ := hrel
    obtain rfl := HR.out
    by_cases hlt : j < n
    · obtain ⟨c0, c1, c2⟩ := h j hlt
      obtain ⟨m, hm⟩ : ∃ m, m = 1 + 3 * j := ⟨_, rfl⟩
      have HM : Hid (m = 1 + 3 * j) := hm
      rw [← hm] at c0 c1 c2 ⊢
      have hmI : (m : Int) ≤ 4000 := by omega
      have hm0 : 0 ≤ (m : Int) := by omega
      have a1 : IntKind.i64.wrap ((m : Int) + 1) = (m : Int) + 1 := IntWalk.i64_in _ (by omega)
      have a2 : IntKind.i64.wrap ((m : Int) + 1 + 1) = (m : Int) + 1 + 1 := IntWalk.i64_in _ (by omega)
      have a3 : IntKind.i64.wrap ((m : Int) + 1 + 1 + 1) = (m : Int) + 1 + 1 + 1 := IntWalk.i64_in _ (by omega)
      have a4 : IntKind.u64.wrap ((m : Int) + 1 + 1) = (m : Int) + 1 + 1 := IntWalk.u64_in _ (by omega)
      have b1 : IntKind.i64.wrap ((j : Int) + 1) = (j : Int) + 1 := IntWalk.i64_in _ (by omega)
      have hj0 : (0 : Int) ≤ (j : Int) := by omega
      have hjI : (j : Int) < (n : Int) := by omega
      clear hm h
      go_wp2_with fail
      exact ⟨⟨j + 1, by omega, congrArg (Value.int IntKind.i64) (by have := HM.out; omega), rfl, True.intro⟩, by simp only [intOf]; omega⟩
    · have hkk : j = n := by omega
      subst hkk
      go_wp2_with fail
      go_ret
      exact ⟨rfl, rfl⟩
end Go.Proofs.Ytbmkknbbikoilaa

/-
  The law of RecordRead, walked.
-/
namespace Go.Proofs.Ytbmkknbbikoilaa
open Go.RowKit Go.MuLone

set_option maxRecDepth 20000 in
set_option maxHeartbeats 1000000 in
theorem tosl_ex (s : Sl) (w : World) :
    Calls Try.prog 24 #[.agg #[.int .u64 ((s).m.toNat : Int), .int .u64 ((s).q.toNat : Int), .int .u64 ((s).z.toNat : Int), .int .u64 ((s).r.a.toNat : Int), .int .u64 ((s).r.b.toNat : Int), .int .u64 ((s).r.c.toNat : Int), .int .u64 ((s).r.d.toNat : Int)]] w fun e w' => e = .returned (.agg #[.int .u64 ((s).m.toNat : Int), .int .u64 ((s).q.toNat : Int), .int .u64 ((s).z.toNat : Int), .int .u64 ((s).r.a.toNat : Int), .int .u64 ((s).r.b.toNat : Int), .int .u64 ((s).r.c.toNat : Int), .int .u64 ((s).r.d.toNat : Int)]) ∧ w' = (((((w.alloc (.cells #[Value.int IntKind.u64 ((s).m.toNat : Int), Value.int IntKind.u64 ((s).q.toNat : Int), Value.int IntKind.u64 ((s).z.toNat : Int), Value.int IntKind.u64 ((s).r.a.toNat : Int), Value.int IntKind.u64 ((s).r.b.toNat : Int), Value.int IntKind.u64 ((s).r.c.toNat : Int), Value.int IntKind.u64 ((s).r.d.toNat : Int)] 26)).alloc (.cells #[Value.int IntKind.u64 ((s).m.toNat : Int), Value.int IntKind.u64 ((s).q.toNat : Int), Value.int IntKind.u64 ((s).z.toNat : Int), Value.int IntKind.u64 ((s).r.a.toNat : Int), Value.int IntKind.u64 ((s).r.b.toNat : Int), Value.int IntKind.u64 ((s).r.c.toNat : Int), Value.int IntKind.u64 ((s).r.d.toNat : Int)] 33)).alloc (.cells #[Value.int IntKind.u64 ((s).m.toNat : Int), Value.int IntKind.u64 ((s).q.toNat : Int), Value.int IntKind.u64 ((s).z.toNat : Int), Value.int IntKind.u64 ((s).r.a.toNat : Int), Value.int IntKind.u64 ((s).r.b.toNat : Int), Value.int IntKind.u64 ((s).r.c.toNat : Int), Value.int IntKind.u64 ((s).r.d.toNat : Int)] 33)).alloc (.cells #[Value.int IntKind.u64 ((s.r).a.toNat : Int), Value.int IntKind.u64 ((s.r).b.toNat : Int), Value.int IntKind.u64 ((s.r).c.toNat : Int), Value.int IntKind.u64 ((s.r).d.toNat : Int)] 24)).alloc (.cells #[Value.int IntKind.u64 ((s.r).a.toNat : Int), Value.int IntKind.u64 ((s.r).b.toNat : Int), Value.int IntKind.u64 ((s.r).c.toNat : Int), Value.int IntKind.u64 ((s.r).d.toNat : Int)] 31)).alloc (.cells #[Value.int IntKind.u64 ((s.r).a.toNat : Int), Value.int IntKind.u64 ((s.r).b.toNat : Int), Value.int IntKind.u64 ((s.r).c.toNat : Int), Value.int IntKind.u64 ((s.r).d.toNat : Int)] 31) := by
  go_enter Try.func24, Try.ntmps24
  go_wp2_with (go_at_call 9; refine (toD_is _ _).mono ?_; rintro e w1 ⟨rfl, rfl⟩)
  exact bodyPost_ret (v := .agg #[.int .u64 ((s).m.toNat : Int), .int .u64 ((s).q.toNat : Int), .int .u64 ((s).z.toNat : Int), .int .u64 ((s).r.a.toNat : Int), .int .u64 ((s).r.b.toNat : Int), .int .u64 ((s).r.c.toNat : Int), .int .u64 ((s).r.d.toNat : Int)]) (by simp [results, Try.results24, go_sem]) rfl ⟨rfl, rfl⟩
set_option maxRecDepth 20000 in
set_option maxHeartbeats 2000000 in
theorem todk_is (s t : Sl) (w : World) :
    Calls Try.prog 8 #[.agg #[.int .u64 ((s).m.toNat : Int), .int .u64 ((s).q.toNat : Int), .int .u64 ((s).z.toNat : Int), .int .u64 ((s).r.a.toNat : Int), .int .u64 ((s).r.b.toNat : Int), .int .u64 ((s).r.c.toNat : Int), .int .u64 ((s).r.d.toNat : Int), .int .u64 ((t).m.toNat : Int), .int .u64 ((t).q.toNat : Int), .int .u64 ((t).z.toNat : Int), .int .u64 ((t).r.a.toNat : Int), .int .u64 ((t).r.b.toNat : Int), .int .u64 ((t).r.c.toNat : Int), .int .u64 ((t).r.d.toNat : Int)]] w fun e w' => e = .returned (.agg #[.int .u64 ((s).m.toNat : Int), .int .u64 ((s).q.toNat : Int), .int .u64 ((s).z.toNat : Int), .int .u64 ((s).r.a.toNat : Int), .int .u64 ((s).r.b.toNat : Int), .int .u64 ((s).r.c.toNat : Int), .int .u64 ((s).r.d.toNat : Int), .int .u64 ((t).m.toNat : Int), .int .u64 ((t).q.toNat : Int), .int .u64 ((t).z.toNat : Int), .int .u64 ((t).r.a.toNat : Int), .int .u64 ((t).r.b.toNat : Int), .int .u64 ((t).r.c.toNat : Int), .int .u64 ((t).r.d.toNat : Int)]) ∧ Below w.heap.size w w' := by
  have c1 := fun W : World => tosl_ex s W
  have c2 := fun W : World => tosl_ex t W
  go_enter Try.func8, Try.ntmps8
  go_wp2_with (first
    | (have hh := H1; go_at_call 24; refine (c2 _).mono ?_; rintro e w2 ⟨rfl, rfl⟩)
    | (go_at_call 24; refine (c1 _).mono ?_; rintro e w1 ⟨rfl, rfl⟩; have H1 : True := trivial))
  exact bodyPost_ret (v := .agg #[.int .u64 ((s).m.toNat : Int), .int .u64 ((s).q.toNat : Int), .int .u64 ((s).z.toNat : Int), .int .u64 ((s).r.a.toNat : Int), .int .u64 ((s).r.b.toNat : Int), .int .u64 ((s).r.c.toNat : Int), .int .u64 ((s).r.d.toNat : Int), .int .u64 ((t).m.toNat : Int), .int .u64 ((t).q.toNat : Int), .int .u64 ((t).z.toNat : Int), .int .u64 ((t).r.a.toNat : Int), .int .u64 ((t).r.b.toNat : Int), .int .u64 ((t).r.c.toNat : Int), .int .u64 ((t).r.d.toNat : Int)]) (by simp [results, Try.results8, go_sem]) rfl ⟨rfl, (by repeat' (first | (with_reducible exact Below.refl _ _) | (with_reducible assumption) | (with_reducible refine below_drewN ?_ _) | (with_reducible refine Below.setCell ?_ ?_ _) | (with_reducible refine Below.alloc ?_ ?_ _) | (with_reducible refine Below.drew ?_) | go_size))⟩
theorem RB.new (W : World) (a b : Int) (q : Qd) (ty : TypeId) : RB W.heap.size a b q (W.alloc (.cells #[.int .i64 a, .int .i64 b, .int .u64 ((q.a).toNat : Int), .int .u64 ((q.b).toNat : Int), .int .u64 ((q.c).toNat : Int), .int .u64 ((q.d).toNat : Int)] ty)) := by
  refine ⟨by simp, ⟨?_, ?_, ?_, ?_, ?_, ?_⟩, fun i hi => ?_⟩ <;> simp [go_sem]
end Go.Proofs.Ytbmkknbbikoilaa

/-
  Rows of raw writes of one's own, marked and held.
-/
namespace Go.Proofs.Ytbmkknbbikoilaa
open Go.RowKit Go.MuLone

set_option maxRecDepth 20000 in
theorem agg_dkl2 : AggTy 28 14 := ⟨⟨_, Try.underlying28, rfl⟩, by kernel_rfl⟩
/-- The slice v has n raw writes that bear the marks from 1 on. -/
def MK (v : Value) (n : Nat) (W : World) : Prop := ∃ oa cap, v = .slice oa n cap ∧ (n = 0 ∨ ∃ g, oa = some ⟨g, 0, none⟩ ∧ g < W.heap.size ∧ RMk g n W)
theorem MK.call {v : Value} {n : Nat} {W W' : World} (h : MK v n W) (hb : Below W.heap.size W W') : MK v n W' := by
  obtain ⟨oa, cap, hv, h⟩ := h
  refine ⟨oa, cap, hv, ?_⟩
  rcases h with h | ⟨g, hg, hlt, hm⟩
  · exact .inl h
  · exact .inr ⟨g, hg, Nat.lt_of_lt_of_le hlt hb.size, hm.call hlt hb⟩
theorem mark_own (W : World) (base : Nat) (v : Value) (L : List Rw) (h : W.ownsRow base 56 3 v L.length (rcs L)) (hn : L.length ≤ 1000) :
    Calls Try.prog 12 #[v, .int .i64 1] W fun e w' => e = .returned (.int .i64 ((1 + 3 * L.length : Nat) : Int)) ∧ W.grownBy w' v.ownBlock ∧ MK v L.length w' := by
  by_cases h0 : L.length = 0
  · obtain ⟨oa, cap, rfl⟩ := owr_len h
    rw [h0]
    refine (markraws_nil W oa cap).mono fun e w' ⟨he, hw⟩ => ⟨by rw [he]; rfl, ?_, oa, cap, rfl, .inl rfl⟩
    subst hw
    exact ⟨rfl, rfl, rfl, Nat.le_refl _, fun _ _ _ => rfl⟩
  · obtain ⟨hx, ⟨rfl, h1⟩ | ⟨g, cap, cur, rfl, hb, hg, hnc, hm, hs, ht⟩⟩ := id h
    · exact absurd h1 h0
    have hR : Room g 0 (L.length * 3) W := by
      refine ⟨fun j hj => ?_, fun j hj => ?_⟩
      · rw [Nat.zero_add, h.cellAt j hj, List.getElem?_eq_getElem (by rw [rcs_len]; exact hj)]
        rfl
      · rw [Nat.zero_add]
        exact h.frozenAt j
    refine (markraws_is W g L.length cap hR hn).mono fun e w' ⟨he, hg1, hr, hk⟩ => ⟨he, hg1, some ⟨g, 0, none⟩, cap, rfl, .inr ⟨g, rfl, ?_, hk⟩⟩
    exact Nat.lt_of_lt_of_le (h.lt g rfl).2 hg1.size
theorem held_own (W : World) (v : Value) (n : Nat) (h : MK v n W) (hn : n ≤ 1000) :
    Calls Try.prog 13 #[v, .int .i64 1] W fun e w' => e = .returned (.int .i64 ((1 + 3 * n : Nat) : Int)) ∧ W = w' := by
  obtain ⟨oa, cap, rfl, h⟩ := h
  by_cases h0 : n = 0
  · subst h0
    exact (heldraws_nil W oa cap).mono fun e w' ⟨he, hw⟩ => ⟨by rw [he]; rfl, hw⟩
  · rcases h with h | ⟨g, rfl, hlt, hm⟩
    · exact absurd h h0
    exact heldraws_is W g n cap hm hn
theorem own_grownR {W W' : World} {base n r : Nat} {v u : Value} {xs : List Value} (h : W.ownsRow base 56 3 v n xs) (hg : W.grownBy W' u.ownBlock) (hlt : ∀ k, v.ownBlock = some k → k < r) (hge : ∀ k, u.ownBlock = some k → r ≤ k) : W'.ownsRow base 56 3 v n xs :=
  h.kept hg (by
    cases hv : v.ownBlock with
    | none => exact .inl rfl
    | some k => exact .inr (fun e => by
        have := hlt k hv
        have := hge k e.symm
        omega))
end Go.Proofs.Ytbmkknbbikoilaa
