/-
  GrowthLen of both, and its law, walked (the second part).
-/
import Derived.Test.YtkdgdmicnfgdjaaGrowLen
namespace Go.Proofs.Ytkdgdmicnfgdjaa
open Go.RowKit Go.Shelf
attribute [local go_sem] Oper.semAt_some

/-- What GrowthLen tells. -/
def glI (m n : Int) : Int := if ¬ (0 ≤ m ∧ m ≤ n ∧ n ≤ 256) then -1 else if m = 0 ∨ m = n then 0 else (gl m.toNat n.toNat : Int)
theorem gl_spec_all (m n : Int) (w : World) : Calls Try.prog 56 #[.int .i64 m, .int .i64 n] w fun e w' => e = .returned (.int .i64 (glI m n)) ∧ w' = w := by
  have c := fun W : World => sizes_is m n W
  by_cases h : 0 ≤ m ∧ m ≤ n ∧ n ≤ 256
  · rw [decide_eq_true h] at c
    by_cases h0 : m = 0
    · have e : glI m n = 0 := by unfold glI; rw [if_neg (by omega), if_pos (by omega)]
      rw [e]
      clear e h
      subst h0
      go_enter Try.func56, Try.ntmps56
      go_wp2_with (go_at_call 49; refine (c _).mono ?_; rintro e w1 ⟨rfl, rfl⟩)
      go_ret
      exact ⟨rfl, rfl⟩
    by_cases h1 : m = n
    · have e : glI m n = 0 := by unfold glI; rw [if_neg (by omega), if_pos (by omega)]
      rw [e]
      clear e h
      subst h1
      go_enter Try.func56, Try.ntmps56
      go_wp2_with (go_at_call 49; refine (c _).mono ?_; rintro e w1 ⟨rfl, rfl⟩)
      go_ret
      exact ⟨rfl, rfl⟩
    obtain ⟨a, rfl⟩ : ∃ a : Nat, m = (a : Int) := ⟨m.toNat, by omega⟩
    obtain ⟨b, rfl⟩ : ∃ b : Nat, n = (b : Int) := ⟨n.toNat, by omega⟩
    have e : glI a b = (gl a b : Int) := by unfold glI; rw [if_neg (by omega), if_neg (by omega)]; rfl
    rw [e]
    have k1 := fun W : World => pc_spec a (by omega) W
    have k2 := fun W : World => rests_is a b b 0 b (by omega) (by omega) (by omega) W
    have l1 : pc a ≤ 9 := pcF_le 9 a
    have l2 := rs_le a b b 0 b (by omega) (by omega)
    unfold gl
    generalize pc a = p at k1 l1 ⊢
    generalize rs a b b 0 b = r at k2 l2 ⊢
    have hb : b ≤ 256 := by omega
    have q4' : ((a : Int) == 0) = false := by simp; omega
    have q5' : ((a : Int) == (b : Int)) = false := by simp; omega
    clear e h h0 h1
    go_enter Try.func56, Try.ntmps56
    go_wp2_with (first
      | (go_at_call 49; refine (c _).mono ?_; rintro e w1 ⟨rfl, rfl⟩)
      | (go_at_call 59; refine (k1 _).mono ?_; rintro e w1 ⟨rfl, rfl⟩)
      | (go_at_call 85; refine (k2 _).mono ?_; rintro e w1 ⟨rfl, rfl⟩))
    go_ret
    refine ⟨congrArg Ending.returned (congrArg (Value.int IntKind.i64) ?_), rfl⟩
    omega
  · rw [decide_eq_false h] at c
    have e : glI m n = -1 := by unfold glI; rw [if_pos h]
    rw [e]
    clear e h
    go_enter Try.func56, Try.ntmps56
    go_wp2_with (go_at_call 49; refine (c _).mono ?_; rintro e w1 ⟨rfl, rfl⟩)
    go_ret
    exact ⟨rfl, rfl⟩

theorem gl_impl_out (m n : Int) (h : ¬ (0 ≤ m ∧ m ≤ n ∧ n ≤ 256)) (w : World) : Calls Try.prog 53 #[.int .i64 m, .int .i64 n] w fun e w' => e = .returned (.int .i64 (-1)) ∧ Below w.heap.size w w' := by
  by_cases h1 : m < 0
  · clear h
    go_enter Try.func53, Try.ntmps53
    go_wp2
    go_ret
    exact ⟨rfl, (Below.refl _ _).alloc (Nat.le_refl _) _⟩
  by_cases h2 : n < m
  · clear h
    go_enter Try.func53, Try.ntmps53
    go_wp2
    go_ret
    exact ⟨rfl, (Below.refl _ _).alloc (Nat.le_refl _) _⟩
  have h3 : 256 < n := by omega
  clear h
  go_enter Try.func53, Try.ntmps53
  go_wp2
  go_ret
  exact ⟨rfl, (Below.refl _ _).alloc (Nat.le_refl _) _⟩
theorem gl_impl_none (m n : Int) (h : 0 ≤ m ∧ m ≤ n ∧ n ≤ 256) (h0 : m = 0 ∨ m = n) (w : World) : Calls Try.prog 53 #[.int .i64 m, .int .i64 n] w fun e w' => e = .returned (.int .i64 0) ∧ Below w.heap.size w w' := by
  have q1 : ¬ m < 0 := by omega
  have q2 : ¬ n < m := by omega
  have q3 : ¬ 256 < n := by omega
  by_cases h1 : m = 0
  · clear h h0
    subst h1
    go_enter Try.func53, Try.ntmps53
    go_wp2
    go_ret
    exact ⟨rfl, (Below.refl _ _).alloc (Nat.le_refl _) _⟩
  · have h2 : m = n := by omega
    clear h h0
    subst h2
    go_enter Try.func53, Try.ntmps53
    go_wp2
    go_ret
    exact ⟨rfl, (Below.refl _ _).alloc (Nat.le_refl _) _⟩

theorem Two.own (B : Nat) (x y : Int) : Own (fun (_ : Unit) W => Two B x y W) := fun _ A C row h hg hr => by
  obtain ⟨h0, h1, h2, h3, h4⟩ := h
  exact ⟨Nat.lt_of_lt_of_le h0 hg.size, cell_kept h1 hg hr, cell_kept h2 hg hr, (frozen_kept h1 hg hr).trans h3, (frozen_kept h2 hg hr).trans h4⟩
theorem keeps_below {W W' : World} (h : Below W.heap.size W W') : KeepsOthers W W' := ⟨h.size, fun k _ ho _ => (h.block k (Array.getElem?_eq_some_iff.1 ho).1).trans ho⟩

set_option maxRecDepth 100000 in
set_option maxHeartbeats 4000000 in
theorem gl_impl_in (m n : Nat) (h0 : 0 < m) (h1 : m < n) (h256 : n ≤ 256) (w : World) : Calls Try.prog 53 #[.int .i64 (m : Int), .int .i64 (n : Int)] w fun e w' => e = .returned (.int .i64 (gl m n : Int)) ∧ Below w.heap.size w w' := by
  have hlen := cw_around n m h0 h1 h256
  have hL := wl_len n m n 0 n (by omega) (Nat.le_refl _)
  have hL2 : (around n m (by omega)).length ≤ 512 := by unfold around; omega
  rw [← hlen]
  clear hlen hL
  refine (callsIn_wide (n := 9)).1 ?_
  have q1 : ¬ (m : Int) < 0 := by omega
  have q2 : ¬ (n : Int) < (m : Int) := by omega
  have q3 : ¬ 256 < (n : Int) := by omega
  have q4 : ¬ (m : Int) = 0 := by omega
  have q5 : ¬ (m : Int) = (n : Int) := by omega
  have q4' : ((m : Int) == 0) = false := by simp; omega
  have q5' : ((m : Int) == (n : Int)) = false := by simp; omega
  refine callsIn_of_wp_marks Try.func53 rfl trivial ?_ rfl
  simp only [Try.ntmps53, List.size_toArray, List.length_cons, List.length_nil, Nat.reduceAdd, Nat.reduceSub, Array.replicate_succ, Array.replicate_zero, List.push_toArray, List.append_toArray, List.nil_append, List.cons_append]
  gi_wp2_with (refine ⟨trivial, ?_⟩; gi_at_call 54; refine (around_in _ _ _ _).mono ?_; rintro e w' ⟨rfl, rfl⟩)
  have c0 := cell_box w (.int .i64 (m : Int)) 3
  have c1 := cell_box (w.alloc (.cells #[.int .i64 (m : Int)] 3)) (.int .i64 0) 3
  have c2 := cell_box ((w.alloc (.cells #[.int .i64 (m : Int)] 3)).alloc (.cells #[.int .i64 0] 3)) (.int .i64 (m : Int)) 3
  have c3 := cell_box (((w.alloc (.cells #[.int .i64 (m : Int)] 3)).alloc (.cells #[.int .i64 0] 3)).alloc (.cells #[.int .i64 (m : Int)] 3)) (.int .i64 (n : Int)) 3
  simp only [World.size_alloc] at c1 c2 c3
  have hB0 : Below w.heap.size w ((((w.alloc (.cells #[.int .i64 (m : Int)] 3)).alloc (.cells #[.int .i64 0] 3)).alloc (.cells #[.int .i64 (m : Int)] 3)).alloc (.cells #[.int .i64 (n : Int)] 3)) :=
    ((((Below.refl _ w).alloc (Nat.le_refl _) _).alloc (by simp) _).alloc (by simp; omega) _).alloc (by simp; omega) _
  have hst := around_stops n m h256 (by omega) 8 (w.heap.size + 1 + 1) (w.heap.size + 1 + 1 + 1) (w.heap.size + 1 + 1) ((((w.alloc (.cells #[.int .i64 (m : Int)] 3)).alloc (.cells #[.int .i64 0] 3)).alloc (.cells #[.int .i64 (m : Int)] 3)).alloc (.cells #[.int .i64 (n : Int)] 3)) (by simp) (by simp) (by simp) (cell_al _ c2.1) c3.1
  have hi0 : ((((w.alloc (.cells #[.int .i64 (m : Int)] 3)).alloc (.cells #[.int .i64 0] 3)).alloc (.cells #[.int .i64 (m : Int)] 3)).alloc (.cells #[.int .i64 (n : Int)] 3)).cell? ⟨w.heap.size, 0, none⟩ = some (.int .i64 (m : Int)) := cell_al _ (cell_al _ (cell_al _ c0.1))
  have hi1 : ((((w.alloc (.cells #[.int .i64 (m : Int)] 3)).alloc (.cells #[.int .i64 0] 3)).alloc (.cells #[.int .i64 (m : Int)] 3)).alloc (.cells #[.int .i64 (n : Int)] 3)).cell? ⟨w.heap.size + 1, 0, none⟩ = some (.int .i64 0) := cell_al _ (cell_al _ c1.1)
  have hi2 : ((((w.alloc (.cells #[.int .i64 (m : Int)] 3)).alloc (.cells #[.int .i64 0] 3)).alloc (.cells #[.int .i64 (m : Int)] 3)).alloc (.cells #[.int .i64 (n : Int)] 3)).frozen? ⟨w.heap.size + 1, 0, none⟩ = false := frozen_al _ (cell_al _ c1.1) (frozen_al _ c1.1 c1.2)
  have hsz : ((((w.alloc (.cells #[.int .i64 (m : Int)] 3)).alloc (.cells #[.int .i64 0] 3)).alloc (.cells #[.int .i64 (m : Int)] 3)).alloc (.cells #[.int .i64 (n : Int)] 3)).heap.size = w.heap.size + 4 := by simp
  clear c0 c1 c2 c3
  generalize ((((w.alloc (.cells #[.int .i64 (m : Int)] 3)).alloc (.cells #[.int .i64 0] 3)).alloc (.cells #[.int .i64 (m : Int)] 3)).alloc (.cells #[.int .i64 (n : Int)] 3)) = W0 at hB0 hst hi0 hi1 hi2 hsz ⊢
  refine wpIn_rangeFunc_ownH rfl (by omega) (gf := 83) (lb := #[.pointer (some ⟨w.heap.size + 1 + 1 + 1, 0, none⟩), .pointer (some ⟨w.heap.size + 1 + 1, 0, none⟩)]) rfl trivial (enters_of Try.func83 (by kernel_rfl) rfl)
    hst Keep.trans (fun W l o o' _ h hc _ => keep_b W l o o' h hc) (Below.refl _ _) (fun _ => rfl)
    (fun pre W => (W.cell? ⟨w.heap.size, 0, none⟩ = some (.int .i64 (m : Int)) ∧ W.cell? ⟨w.heap.size + 1, 0, none⟩ = some (.int .i64 (cw m pre : Int)) ∧ W.frozen? ⟨w.heap.size + 1, 0, none⟩ = false) ∧ Below w.heap.size w W)
    (fun _ _ _ => False)
    (OwnFrom.and (Own.from (fun s A B row hs hg hr => ⟨cell_kept hs.1 hg hr, cell_kept hs.2.1 hg hr, (frozen_kept hs.2.1 hg hr).trans hs.2.2⟩) _) (ownFrom_below (Nat.le_refl _) (by omega)))
    (fun _ _ _ _ _ hs _ _ => hs)
    ⟨⟨hi0, hi1, hi2⟩, hB0⟩
    (fun x a' W => ∃ Bx, w.heap.size + 1 < Bx ∧ Two Bx x.1.1 x.1.2 W ∧ a' = { tmps := #[.int .i64 (m : Int), .int .i64 (n : Int), .pointer (some ⟨w.heap.size, 0, none⟩), undef, .int .i64 0, .pointer (some ⟨w.heap.size + 1, 0, none⟩), .pointer (some ⟨Bx, 0, none⟩), .int .i64 (m : Int), .bool false, .bool false, .int .i64 (m : Int), .int .i64 (n : Int), .bool false, .bool false, .bool false, .int .i64 (n : Int), .bool false, .bool false, .int .i64 (m : Int), .bool false, .bool false, .int .i64 (m : Int), .int .i64 (n : Int), .bool false, .bool false, .int .i64 (m : Int), .int .i64 (n : Int), .func (.func 83) #[] #[.pointer (some ⟨w.heap.size + 1 + 1 + 1, 0, none⟩), .pointer (some ⟨w.heap.size + 1 + 1, 0, none⟩)], .agg #[.int .i64 (x.1.1 : Int), .int .i64 (x.1.2 : Int)], undef, undef, undef, undef, undef, undef, undef], defers := [] })
    (fun x a' s A B row hs hg hr => by
      obtain ⟨Bx, hlt, ht, ha⟩ := hs
      exact ⟨Bx, hlt, Two.own Bx _ _ () A B row ht hg (fun r e => (hr r e).2), ha⟩)
    ?assign ?body ?done ?stop
  case assign =>
    rintro l pre x W K ⟨⟨hc0, hc1, hc2⟩, hB⟩ hK
    simp only [encW]
    gi_wp2
    exact hK _ _ ((KeepsOthers.alloc _ _).from _) (Keep.of_below ((Below.refl _ W).alloc (Nat.le_refl _) _)) ⟨⟨cell_al _ hc0, cell_al _ hc1, frozen_al _ hc1 hc2⟩, hB.alloc hB.size _⟩ ⟨W.heap.size, by have := (cells_at hc1); obtain ⟨o, ho, _⟩ := this; exact (Array.getElem?_eq_some_iff.1 ho).1, Two.new W _ _ _, rfl⟩
  case body =>
    rintro l pre x a' W hl ⟨r, hr⟩ ⟨⟨hc0, hc1, hc2⟩, hB⟩ ⟨Bx, hBx, ht, rfl⟩ hlt
    have cp := fun V : World => parted_is (x.1.1 : Int) x.1.2 m V
    have hle := cw_le (m := m) pre
    have hp : (cw m pre : Int) < 512 := by omega
    obtain ⟨-, t0, t1, -, -⟩ := ht
    have hlt1 : w.heap.size + 1 < W.heap.size := by obtain ⟨o, ho, _⟩ := cells_at hc1; exact (Array.getElem?_eq_some_iff.1 ho).1
    by_cases hpt : part m x.1
    · have hb : (decide ((x.1.1 : Int) < (m : Int)) && decide ((m : Int) < (x.1.2 : Int))) = true := by
        simp only [part, Bool.and_eq_true, decide_eq_true_iff] at hpt ⊢; omega
      rw [hb] at cp
      have hcw : cw m (pre ++ [x]) = cw m pre := by rw [cw_append]; simp [cw, hpt]
      clear hb hpt
      gi_wp2_with (refine ⟨trivial, ?_⟩; gi_at_call 55; refine (CallsIn.inRound l (callsIn_wide.2 (cp _))).mono ?_; rintro e w1 ⟨rfl, hb1⟩)
      have hB1 := hB.trans (hb1.mono hB.size)
      exact ⟨(keeps_below hb1).from _, Keep.of_below hb1, ⟨(hb1.cell (p := ⟨w.heap.size, 0, none⟩) (by show w.heap.size < _; omega)).trans hc0, by rw [hcw]; exact (hb1.cell (p := ⟨w.heap.size + 1, 0, none⟩) hlt1).trans hc1, (hb1.frozen (p := ⟨w.heap.size + 1, 0, none⟩) hlt1).trans hc2⟩, hB1⟩
    · have hb : (decide ((x.1.1 : Int) < (m : Int)) && decide ((m : Int) < (x.1.2 : Int))) = false := by
        rw [Bool.not_eq_true] at hpt
        simp only [part, Bool.and_eq_false_iff, decide_eq_false_iff_not] at hpt ⊢; omega
      rw [hb] at cp
      have hcw : cw m (pre ++ [x]) = cw m pre + 1 := by rw [cw_append]; simp [cw, hpt]
      clear hb hpt
      gi_wp2_with (refine ⟨trivial, ?_⟩; gi_at_call 55; refine (CallsIn.inRound l (callsIn_wide.2 (cp _))).mono ?_; rintro e w1 ⟨rfl, hb1⟩; have e1 := (hb1.cell (p := ⟨w.heap.size + 1, 0, none⟩) hlt1).trans hc1; have e2 := (hb1.frozen (p := ⟨w.heap.size + 1, 0, none⟩) hlt1).trans hc2)
      have hB1 := hB.trans (hb1.mono hB.size)
      exact ⟨((keeps_below hb1).trans (KeepsOthers.setCell _ _ _)).from _, (Keep.of_below hb1).trans (Keep.set (by simp) _), ⟨c_set ((hb1.cell (p := ⟨w.heap.size, 0, none⟩) (by show w.heap.size < _; omega)).trans hc0) (by simp), by rw [hcw]; exact World.cell?_setCell_same' _ _ _ (by rw [e1]; rfl), by rw [World.frozen?_setCell]; exact e2⟩, hB1.setCell (p := ⟨w.heap.size + 1, 0, none⟩) (by simp) _⟩
  case done =>
    rintro D ys W hD' rfl ⟨⟨_, hc, _⟩, hB⟩ hK
    gi_wp2
    refine ⟨by simp, .inl ⟨_, _, rfl, run_takeDeferred hK, ?_⟩⟩
    exact ⟨_, results_tmp rfl _ _ _, rfl, hB.trans (belowK_b (w := w) (Nat.le_refl _) W D _ _ (by omega) hK rfl rfl)⟩
  case stop =>
    rintro D c pre W _ _ h _
    exact h.elim

theorem gl_impl_all (m n : Int) (w : World) : Calls Try.prog 53 #[.int .i64 m, .int .i64 n] w fun e w' => e = .returned (.int .i64 (glI m n)) ∧ Below w.heap.size w w' := by
  unfold glI
  split
  · exact gl_impl_out m n ‹_› w
  · split
    · exact gl_impl_none m n (by omega) ‹_› w
    · have := gl_impl_in m.toNat n.toNat (by omega) (by omega) (by omega) w
      rwa [Int.toNat_of_nonneg (by omega), Int.toNat_of_nonneg (by omega)] at this
end Go.Proofs.Ytkdgdmicnfgdjaa
