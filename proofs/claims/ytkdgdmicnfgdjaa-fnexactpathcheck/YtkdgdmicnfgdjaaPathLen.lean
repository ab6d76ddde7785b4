/-
  PathLen of both, and its law, walked.
-/
import Derived.Test.YtkdgdmicnfgdjaaClimb
namespace Go.Proofs.Ytkdgdmicnfgdjaa
open Go.RowKit Go.Shelf
attribute [local go_sem] Oper.semAt_some

/-- In how many nodes of two leaves and more the leaf i of n stands. -/
def dp : Nat → Nat → Nat → Nat
  | 0, _, _ => 0
  | f + 1, n, i => if n < 2 then 0 else if i < sp n then dp f (sp n) i + 1 else dp f (n - sp n) (i - sp n) + 1
theorem dp_le : ∀ f n i, dp f n i ≤ n - 1
  | 0, _, _ => Nat.zero_le _
  | f + 1, n, i => by
    unfold dp
    split
    · omega
    · have h := sp_lt0 (n := n) (by omega)
      have a := dp_le f (sp n) i
      have b := dp_le f (n - sp n) (i - sp n)
      split <;> omega
theorem cl_len (n i : Nat) : ∀ (f lo hi : Nat) (h1 : lo ≤ i) (h2 : i < hi) (h3 : hi ≤ n), (cl n i f lo hi h1 h2 h3).length = dp f (hi - lo) (i - lo) := by
  intro f
  induction f with
  | zero => intro lo hi h1 h2 h3; simp [cl, dp]
  | succ f ih =>
    intro lo hi h1 h2 h3
    unfold cl dp
    by_cases h : hi - lo < 2
    · simp [h]
    · rw [dif_neg h, if_neg h]
      by_cases hk : i < lo + sp (hi - lo)
      · rw [dif_pos hk, if_pos (by omega), List.length_append, ih]
        have e : lo + sp (hi - lo) - lo = sp (hi - lo) := by omega
        rw [e]
        rfl
      · rw [dif_neg hk, if_neg (by omega), List.length_append, ih]
        have e : hi - (lo + sp (hi - lo)) = hi - lo - sp (hi - lo) := by omega
        have e2 : i - (lo + sp (hi - lo)) = i - lo - sp (hi - lo) := by omega
        rw [e, e2]
        rfl
/-- What PathLen tells. -/
def plI (n i : Int) : Int := if 1 ≤ n ∧ n ≤ 256 ∧ 0 ≤ i ∧ i < n then (dp n.toNat n.toNat i.toNat : Int) else -1

theorem place_is (n i : Int) (w : World) : Calls Try.prog 33 #[.int .i64 n, .int .i64 i] w fun e w' => e = .returned (.bool (decide (1 ≤ n ∧ n ≤ 256 ∧ 0 ≤ i ∧ i < n))) ∧ w' = w := by
  by_cases h : 1 ≤ n ∧ n ≤ 256
  · have c1 := fun W : World => in_is n 1 256 W
    have hc1 : (decide ((1 : Int) ≤ n) && decide (n ≤ 256)) = true := by simp; omega
    rw [hc1] at c1
    have c2 := fun W : World => in_is i 0 (n - 1) W
    have hc2 : (decide ((0 : Int) ≤ i) && decide (i ≤ n - 1)) = decide (1 ≤ n ∧ n ≤ 256 ∧ 0 ≤ i ∧ i < n) := by rw [← Bool.decide_and]; congr 1; apply propext; omega
    rw [hc2] at c2
    generalize decide (1 ≤ n ∧ n ≤ 256 ∧ 0 ≤ i ∧ i < n) = b at c2 ⊢
    clear hc1 hc2
    go_enter Try.func33, Try.ntmps33
    go_wp2_with (first
      | (go_at_call_of 70 (Value.int IntKind.i64 256); refine (c1 _).mono ?_; rintro e w1 ⟨rfl, rfl⟩)
      | (go_at_call 70; refine (c2 _).mono ?_; rintro e w1 ⟨rfl, rfl⟩))
    go_ret
    exact ⟨rfl, rfl⟩
  · have c1 := fun W : World => in_is n 1 256 W
    have hc1 : (decide ((1 : Int) ≤ n) && decide (n ≤ 256)) = false := by rw [Bool.and_eq_false_iff, decide_eq_false_iff_not, decide_eq_false_iff_not]; omega
    rw [hc1] at c1
    have hc2 : decide (1 ≤ n ∧ n ≤ 256 ∧ 0 ≤ i ∧ i < n) = false := by rw [decide_eq_false_iff_not]; omega
    rw [hc2]
    clear hc1 hc2
    go_enter Try.func33, Try.ntmps33
    go_wp2_with (go_at_call 70; refine (c1 _).mono ?_; rintro e w1 ⟨rfl, rfl⟩)
    go_ret
    exact ⟨rfl, rfl⟩

theorem pl_spec_out (n i : Int) (h : ¬ (1 ≤ n ∧ n ≤ 256 ∧ 0 ≤ i ∧ i < n)) (w : World) : Calls Try.prog 41 #[.int .i64 n, .int .i64 i] w fun e w' => e = .returned (.int .i64 (-1)) ∧ w' = w := by
  have c := fun W : World => place_is n i W
  rw [decide_eq_false h] at c
  clear h
  go_enter Try.func41, Try.ntmps41
  go_wp2_with (go_at_call 33; refine (c _).mono ?_; rintro e w1 ⟨rfl, rfl⟩)
  go_ret
  exact ⟨rfl, rfl⟩
set_option maxHeartbeats 1000000 in
theorem pl_spec_in (n i : Nat) (h256 : n ≤ 256) (hi : i < n) (w : World) : Calls Try.prog 41 #[.int .i64 (n : Int), .int .i64 (i : Int)] w fun e w' => e = .returned (.int .i64 (dp n n i : Int)) ∧ w' = w := by
  have c := fun W : World => place_is (n : Int) (i : Int) W
  rw [decide_eq_true (by omega)] at c
  obtain ⟨D, hD⟩ : ∃ D, D = dp n n i := ⟨_, rfl⟩
  have hDl : D ≤ 255 := by have := dp_le n n i; omega
  rw [← hD]
  have HD : Hid (D = dp n n i) := hD
  clear hD
  go_enter Try.func41, Try.ntmps41
  go_wp2_with (go_at_call 33; refine (c _).mono ?_; rintro e w1 ⟨rfl, hw⟩; replace hw := hw.symm; subst hw)
  clear c
  go_loopw [0, 1, 5] (fun v u c wr => ∃ f m j k : Nat, v = .int .i64 (m : Int) ∧ u = .int .i64 (j : Int) ∧ c = .int .i64 (k : Int) ∧ Hid (k + dp f m j = D ∧ m ≤ f + 1) ∧ j < m ∧ m ≤ 256 ∧ k ≤ D ∧ Hid (wr = w)) (fun v _ _ _ => (intOf v).toNat)
  case atStart => exact ⟨n, n, i, 0, rfl, rfl, rfl, ⟨by have := HD.out; omega, by omega⟩, hi, h256, by omega, rfl⟩
  case round =>
    obtain ⟨f, m, j, k, rfl, rfl, rfl, HM, hj, hm, hk, HW⟩ := hrel
    have hwr := HW.out
    subst hwr
    by_cases h1 : 1 < m
    · have h1I : (1 : Int) < (m : Int) := by omega
      have hs := sp_lt0 (n := m) (by omega)
      have cs := fun W : World => sp_spec m (by omega) hm W
      obtain ⟨g, hg⟩ : ∃ g, f = g + 1 := ⟨f - 1, by have := HM.out.2; omega⟩
      subst hg
      have HN : Hid (k + (if j < sp m then dp g (sp m) j + 1 else dp g (m - sp m) (j - sp m) + 1) = D) := by
        have := HM.out.1
        rw [dp, if_neg (by omega)] at this
        exact this
      have HM2 : Hid (m ≤ g + 2) := HM.out.2
      clear HM
      generalize sp m = s at hs cs HN
      by_cases hjs : j < s
      · have hjI : (j : Int) < (s : Int) := by omega
        have HN2 : Hid (k + 1 + dp g s j = D) := by have := HN.out; rw [if_pos hjs] at this; show _ = _; omega
        have hk2 : k + 1 ≤ D := by have := HN2.out; omega
        clear HN
        go_wp2_with (go_at_call 71; refine (cs _).mono ?_; rintro e w1 ⟨rfl, hw⟩; replace hw := hw.symm; subst hw)
        refine ⟨⟨g, s, j, k + 1, rfl, rfl, congrArg (Value.int IntKind.i64) (by omega), ⟨HN2.out, by have := HM2.out; omega⟩, hjs, by omega, hk2, trivial⟩, ?_⟩
        simp only [intOf]
        omega
      · have hjI : ¬ (j : Int) < (s : Int) := by omega
        have HN2 : Hid (k + 1 + dp g (m - s) (j - s) = D) := by have := HN.out; rw [if_neg hjs] at this; show _ = _; omega
        have hk2 : k + 1 ≤ D := by have := HN2.out; omega
        clear HN
        go_wp2_with (go_at_call 71; refine (cs _).mono ?_; rintro e w1 ⟨rfl, hw⟩; replace hw := hw.symm; subst hw)
        refine ⟨⟨g, m - s, j - s, k + 1, congrArg (Value.int IntKind.i64) (by omega), congrArg (Value.int IntKind.i64) (by omega), congrArg (Value.int IntKind.i64) (by omega), ⟨HN2.out, by have := HM2.out; omega⟩, by omega, by omega, hk2, trivial⟩, ?_⟩
        simp only [intOf]
        omega
    · have h1I : ¬ (1 : Int) < (m : Int) := by omega
      have HK : Hid (k = D) := by
        have := HM.out.1
        have h0 := dp_le f m j
        show _ = _
        omega
      clear HM
      go_wp2
      go_ret
      exact ⟨by rw [HK.out]; rfl, rfl⟩

theorem pl_impl_out (n i : Int) (h : ¬ (1 ≤ n ∧ n ≤ 256 ∧ 0 ≤ i ∧ i < n)) (w : World) : Calls Try.prog 36 #[.int .i64 n, .int .i64 i] w fun e w' => e = .returned (.int .i64 (-1)) ∧ Below w.heap.size w w' := by
  by_cases h1 : n < 1
  · go_enter Try.func36, Try.ntmps36
    go_wp2
    go_ret
    exact ⟨rfl, Below.refl _ _⟩
  by_cases h2 : 256 < n
  · go_enter Try.func36, Try.ntmps36
    go_wp2
    go_ret
    exact ⟨rfl, Below.refl _ _⟩
  by_cases h3 : i < 0
  · go_enter Try.func36, Try.ntmps36
    go_wp2
    go_ret
    exact ⟨rfl, Below.refl _ _⟩
  have h4 : n ≤ i := by omega
  clear h
  go_enter Try.func36, Try.ntmps36
  go_wp2
  go_ret
  exact ⟨rfl, Below.refl _ _⟩
theorem cell_box (W : World) (v : Value) (t : TypeId) : (W.alloc (.cells #[v] t)).cell? ⟨W.heap.size, 0, none⟩ = some v ∧ (W.alloc (.cells #[v] t)).frozen? ⟨W.heap.size, 0, none⟩ = false := by
  constructor <;> simp [go_sem]
theorem cell_al {W : World} {a : Addr} {v : Value} (o : Obj) (h : W.cell? a = some v) : (W.alloc o).cell? a = some v := cell_kept h (World.grownBy_alloc W o none) (fun r e => by cases e)
theorem frozen_al {W : World} {a : Addr} {v : Value} (o : Obj) (h : W.cell? a = some v) (hf : W.frozen? a = false) : (W.alloc o).frozen? a = false := (frozen_kept h (World.grownBy_alloc W o none) (fun r e => by cases e)).trans hf

set_option maxRecDepth 100000 in
set_option maxHeartbeats 2000000 in
theorem pl_impl_in (n i : Nat) (h256 : n ≤ 256) (hi : i < n) (w : World) : Calls Try.prog 36 #[.int .i64 (n : Int), .int .i64 (i : Int)] w fun e w' => e = .returned (.int .i64 (dp n n i : Int)) ∧ Below w.heap.size w w' := by
  have hlen : (over n i hi).length = dp n n i := (cl_len n i n 0 n _ hi _)
  have hD := dp_le n n i
  rw [← hlen] at hD ⊢
  clear hlen
  refine (callsIn_wide (n := 9)).1 ?_
  have q1 : ¬ (n : Int) < 1 := by omega
  have q2 : ¬ 256 < (n : Int) := by omega
  have q3 : ¬ (i : Int) < 0 := by omega
  have q4 : ¬ (n : Int) ≤ (i : Int) := by omega
  refine callsIn_of_wp_marks Try.func36 rfl trivial ?_ rfl
  simp only [Try.ntmps36, List.size_toArray, List.length_cons, List.length_nil, Nat.reduceAdd, Nat.reduceSub, Array.replicate_succ, Array.replicate_zero, List.push_toArray, List.append_toArray, List.nil_append, List.cons_append]
  gi_wp2_with (refine ⟨trivial, ?_⟩; gi_at_call 37; refine (over_in _ _ _ _).mono ?_; rintro e w' ⟨rfl, rfl⟩)
  have c0 := cell_box w (.int .i64 0) 3
  have c1 := cell_box (w.alloc (.cells #[.int .i64 0] 3)) (.int .i64 (n : Int)) 3
  have c2 := cell_box ((w.alloc (.cells #[.int .i64 0] 3)).alloc (.cells #[.int .i64 (n : Int)] 3)) (.int .i64 (i : Int)) 3
  simp only [World.size_alloc] at c1 c2
  have hB0 : Below w.heap.size w (((w.alloc (.cells #[.int .i64 0] 3)).alloc (.cells #[.int .i64 (n : Int)] 3)).alloc (.cells #[.int .i64 (i : Int)] 3)) :=
    (((Below.refl _ w).alloc (Nat.le_refl _) _).alloc (by simp) _).alloc (by simp; omega) _
  refine wpIn_rangeFunc_ownF rfl (by omega) (gf := 73) (lb := #[.pointer (some ⟨w.heap.size + 1, 0, none⟩), .pointer (some ⟨w.heap.size + 1 + 1, 0, none⟩)]) rfl trivial (enters_of Try.func73 (by kernel_rfl) rfl)
    (over_stops n i h256 hi 8 (w.heap.size + 1) (w.heap.size + 1 + 1) (w.heap.size + 1) _ (by simp) (by simp) (by simp) (cell_al _ c1.1) c2.1) Keep.trans (fun W l o o' _ h hc _ => keep_b W l o o' h hc) (Below.refl _ _) (fun _ => rfl)
    (fun pre W => (W.cell? ⟨w.heap.size, 0, none⟩ = some (.int .i64 (pre.length : Int)) ∧ W.frozen? ⟨w.heap.size, 0, none⟩ = false) ∧ Below w.heap.size w W)
    (fun _ _ _ => False)
    (OwnFrom.and (Own.from (fun s A B row hs hg hr => ⟨cell_kept hs.1 hg hr, (frozen_kept hs.1 hg hr).trans hs.2⟩) _) (ownFrom_below (Nat.le_refl _) (by simp; omega)))
    (fun _ _ _ _ _ hs _ _ => hs)
    ⟨⟨cell_al _ (cell_al _ c0.1), frozen_al _ (cell_al _ c0.1) (frozen_al _ c0.1 c0.2)⟩, hB0⟩
    (fun x => { tmps := #[.int .i64 (n : Int), .int .i64 (i : Int), undef, undef, .int .i64 0, .pointer (some ⟨w.heap.size, 0, none⟩), .int .i64 (n : Int), .bool false, .bool false, .int .i64 (n : Int), .bool false, .bool false, .bool false, .int .i64 (i : Int), .bool false, .bool false, .bool false, .int .i64 (i : Int), .int .i64 (n : Int), .bool false, .bool false, .int .i64 (n : Int), .int .i64 (i : Int), .func (.func 73) #[] #[.pointer (some ⟨w.heap.size + 1, 0, none⟩), .pointer (some ⟨w.heap.size + 1 + 1, 0, none⟩)], .agg #[.int .i64 (x.1.1 : Int), .int .i64 (x.1.2 : Int)], undef, undef, undef], defers := [] }) ?assign ?body ?done ?stop
  case assign =>
    intro l x W K hK
    gi_wp2
    simpa [encN] using hK
  case body =>
    rintro l pre x W ⟨⟨hc, hf⟩, hB⟩ hlt
    have hp : (pre.length : Int) < 256 := by omega
    gi_wp2
    exact ⟨KeepsOthers.setCell _ _ _, Keep.set (by simp) _, ⟨by rw [List.length_append]; exact World.cell?_setCell_same' _ _ _ (by rw [hc]; rfl), by rw [World.frozen?_setCell]; exact hf⟩, hB.setCell (p := ⟨w.heap.size, 0, none⟩) (Nat.le_refl _) _⟩
  case done =>
    rintro D ys W hD' rfl ⟨⟨hc, _⟩, hB⟩ hK
    gi_wp2
    refine ⟨by simp, .inl ⟨_, _, rfl, run_takeDeferred hK, ?_⟩⟩
    exact ⟨_, results_tmp rfl _ _ _, rfl, hB.trans (belowK_b (w := w) (Nat.le_refl _) W D _ _ (by simp at hD'; omega) hK rfl rfl)⟩
  case stop =>
    rintro D c pre W _ _ h _
    exact h.elim

theorem pl_spec_all (n i : Int) (w : World) : Calls Try.prog 41 #[.int .i64 n, .int .i64 i] w fun e w' => e = .returned (.int .i64 (plI n i)) ∧ w' = w := by
  unfold plI
  split
  · have := pl_spec_in n.toNat i.toNat (by omega) (by omega) w
    rwa [Int.toNat_of_nonneg (by omega), Int.toNat_of_nonneg (by omega)] at this
  · exact pl_spec_out n i ‹_› w
theorem pl_impl_all (n i : Int) (w : World) : Calls Try.prog 36 #[.int .i64 n, .int .i64 i] w fun e w' => e = .returned (.int .i64 (plI n i)) ∧ Below w.heap.size w w' := by
  unfold plI
  split
  · have := pl_impl_in n.toNat i.toNat (by omega) (by omega) w
    rwa [Int.toNat_of_nonneg (by omega), Int.toNat_of_nonneg (by omega)] at this
  · exact pl_impl_out n i ‹_› w
end Go.Proofs.Ytkdgdmicnfgdjaa
