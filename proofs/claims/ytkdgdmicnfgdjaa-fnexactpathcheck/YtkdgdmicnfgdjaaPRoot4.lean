/-
  PathRoot of the specification, walked.
-/
import Derived.Test.YtkdgdmicnfgdjaaPRoot3
namespace Go.Proofs.Ytkdgdmicnfgdjaa
open Go.RowKit

set_option maxRecDepth 20000 in
set_option maxHeartbeats 1000000 in
theorem pr_spec_all (n i : Int) (s : ByteArray) (P : List Qd) (v : Value) (w : World) (hs : s.size ≤ 1048576) (hT : Dgs w v P) :
    Calls Try.prog 19 #[.int .i64 n, .int .i64 i, .string s, v] w fun e w' => e = .returned (.tuple #[.agg #[.int .u64 ((prQ n i s P).a.toNat : Int), .int .u64 ((prQ n i s P).b.toNat : Int), .int .u64 ((prQ n i s P).c.toNat : Int), .int .u64 ((prQ n i s P).d.toNat : Int)], .bool (prOk n i s P)]) ∧ Below w.heap.size w w' := by
  obtain ⟨oa, cap, rfl, hlen⟩ := hT.len
  have c0 := fun V : World => place_is n i V
  have cp := fun V : World => pl_spec_all n i V
  have hss : s.size ≤ 9223372036854775807 := by omega
  have hout : prOk n i s P = false → prQ n i s P = ⟨0, 0, 0, 0⟩ := fun h => by unfold prQ; rw [h]; rfl
  by_cases h1 : 1 ≤ n ∧ n ≤ 256 ∧ 0 ≤ i ∧ i < n
  · have e1 := plI_in h1
    have hd := dp_le n.toNat n.toNat i.toNat
    rw [e1] at cp
    rw [decide_eq_true h1] at c0
    by_cases h2 : s.size ≤ 40
    · have h2I : ¬ 40 < (s.size : Int) := by omega
      by_cases h3 : P.length = dp n.toNat n.toNat i.toNat
      · have hok : prOk n i s P = true := by unfold prOk; rw [decide_eq_true h1, decide_eq_true h2, decide_eq_true h3]; rfl
        have hq : prQ n i s P = up n.toNat n.toNat i.toNat (leafD s) P := by unfold prQ; rw [hok]; rfl
        rw [hok, hq]
        have cl0 := fun V : World => hl_spec s V hs
        have hl : leafD s = dg (ByteArray.mk #[0] ++ s) := rfl
        rw [← hl] at cl0
        have cu : ∀ V : World, Below w.heap.size w V → Calls Try.prog 42 #[.int .i64 n, .int .i64 i, .agg #[.int .u64 ((leafD s).a.toNat : Int), .int .u64 ((leafD s).b.toNat : Int), .int .u64 ((leafD s).c.toNat : Int), .int .u64 ((leafD s).d.toNat : Int)], .slice oa P.length cap] V fun e w' => e = .returned (.agg #[.int .u64 ((up n.toNat n.toNat i.toNat (leafD s) P).a.toNat : Int), .int .u64 ((up n.toNat n.toNat i.toNat (leafD s) P).b.toNat : Int), .int .u64 ((up n.toNat n.toNat i.toNat (leafD s) P).c.toNat : Int), .int .u64 ((up n.toNat n.toNat i.toNat (leafD s) P).d.toNat : Int)]) ∧ Below V.heap.size V w' := fun V hV => by
          have := up_is n.toNat n.toNat i.toNat (leafD s) P _ V (by omega) (by omega) (by omega) h3 (hT.call hV)
          rwa [Int.toNat_of_nonneg (by omega), Int.toNat_of_nonneg (by omega)] at this
        generalize up n.toNat n.toNat i.toNat (leafD s) P = y at cu ⊢
        generalize leafD s = q at cl0 cu
        rw [← h3] at cp
        clear hT hout h1 h3 hok hq e1 hd hl
        go_enter Try.func19, Try.ntmps19
        go_wp2_with (first
          | (go_at_call 33; refine (c0 _).mono ?_; rintro e w1 ⟨rfl, hw⟩; replace hw := hw.symm; subst hw)
          | (go_at_call 41; refine (cp _).mono ?_; rintro e w1 ⟨rfl, hw⟩; replace hw := hw.symm; subst hw)
          | (go_at_call 43; refine (cl0 _).mono ?_; rintro e w2 ⟨rfl, hb2⟩; have B2 := ((Below.refl w.heap.size w).alloc (Nat.le_refl _) (.cells #[Value.int IntKind.u64 0, Value.int IntKind.u64 0, Value.int IntKind.u64 0, Value.int IntKind.u64 0] 36)).trans (hb2.mono (by simp)); have z2 := (Rt.new w ⟨0, 0, 0, 0⟩ 36).behind hb2)
          | (go_at_call 42; refine (cu _ B2).mono ?_; rintro e w3 ⟨rfl, hb3⟩; have B3 := B2.trans (hb3.mono B2.size); have z3 := z2.behind hb3; obtain ⟨-, ⟨a0, a1, a2, a3⟩, f0, f1, f2, f3⟩ := id z3))
        have hr := z3.put y
        exact bodyPost_ret (v := .tuple #[.agg #[.int .u64 ((y).a.toNat : Int), .int .u64 ((y).b.toNat : Int), .int .u64 ((y).c.toNat : Int), .int .u64 ((y).d.toNat : Int)], .bool true]) (by obtain ⟨_, ⟨r0, r1, r2, r3⟩, _⟩ := hr; simp [results, Try.results19, go_sem, r0, r1, r2, r3]) rfl ⟨rfl, (((B3.setCell (p := ⟨w.heap.size, 0, none⟩) (Nat.le_refl _) _).setCell (p := ⟨w.heap.size, 1, none⟩) (Nat.le_refl _) _).setCell (p := ⟨w.heap.size, 2, none⟩) (Nat.le_refl _) _).setCell (p := ⟨w.heap.size, 3, none⟩) (Nat.le_refl _) _⟩
      · have hok : prOk n i s P = false := by unfold prOk; rw [decide_eq_true h1, decide_eq_true h2, decide_eq_false h3]; rfl
        rw [hout hok, hok]
        generalize dp n.toNat n.toNat i.toNat = D at cp h3 hd
        have h3I : ((P.length : Int) != (D : Int)) = true := by rw [bne_iff_ne]; omega
        clear hT hout h1 hok e1 hd
        go_enter Try.func19, Try.ntmps19
        go_wp2_with (first
          | (go_at_call 33; refine (c0 _).mono ?_; rintro e w1 ⟨rfl, hw⟩; replace hw := hw.symm; subst hw)
          | (go_at_call 41; refine (cp _).mono ?_; rintro e w1 ⟨rfl, hw⟩; replace hw := hw.symm; subst hw))
        exact bodyPost_ret (v := .tuple #[.agg #[.int .u64 0, .int .u64 0, .int .u64 0, .int .u64 0], .bool false]) (by simp [results, Try.results19, go_sem]) rfl ⟨rfl, (by repeat' (first | (with_reducible exact Below.refl _ _) | (with_reducible assumption) | (with_reducible refine below_drewN ?_ _) | (with_reducible refine Below.setCell ?_ ?_ _) | (with_reducible refine Below.alloc ?_ ?_ _) | (with_reducible refine Below.drew ?_) | go_size))⟩
    · have h2I : 40 < (s.size : Int) := by omega
      have hok : prOk n i s P = false := by unfold prOk; rw [decide_eq_true h1, decide_eq_false h2]; rfl
      rw [hout hok, hok]
      clear hT hout h1 hok e1 hd cp
      go_enter Try.func19, Try.ntmps19
      go_wp2_with (go_at_call 33; refine (c0 _).mono ?_; rintro e w1 ⟨rfl, hw⟩; replace hw := hw.symm; subst hw)
      exact bodyPost_ret (v := .tuple #[.agg #[.int .u64 0, .int .u64 0, .int .u64 0, .int .u64 0], .bool false]) (by simp [results, Try.results19, go_sem]) rfl ⟨rfl, (by repeat' (first | (with_reducible exact Below.refl _ _) | (with_reducible assumption) | (with_reducible refine below_drewN ?_ _) | (with_reducible refine Below.setCell ?_ ?_ _) | (with_reducible refine Below.alloc ?_ ?_ _) | (with_reducible refine Below.drew ?_) | go_size))⟩
  · rw [decide_eq_false h1] at c0
    have hok : prOk n i s P = false := by unfold prOk; rw [decide_eq_false h1]; rfl
    rw [hout hok, hok]
    clear hT hout h1 hok cp
    go_enter Try.func19, Try.ntmps19
    go_wp2_with (go_at_call 33; refine (c0 _).mono ?_; rintro e w1 ⟨rfl, hw⟩; replace hw := hw.symm; subst hw)
    exact bodyPost_ret (v := .tuple #[.agg #[.int .u64 0, .int .u64 0, .int .u64 0, .int .u64 0], .bool false]) (by simp [results, Try.results19, go_sem]) rfl ⟨rfl, (by repeat' (first | (with_reducible exact Below.refl _ _) | (with_reducible assumption) | (with_reducible refine below_drewN ?_ _) | (with_reducible refine Below.setCell ?_ ?_ _) | (with_reducible refine Below.alloc ?_ ?_ _) | (with_reducible refine Below.drew ?_) | go_size))⟩
end Go.Proofs.Ytkdgdmicnfgdjaa
