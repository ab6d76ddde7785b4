/-
  GrowthLen of both, and its law, walked.
-/
import Derived.Test.YtkdgdmicnfgdjaaWalk
import Derived.Test.YtkdgdmicnfgdjaaPathLen
namespace Go.Proofs.Ytkdgdmicnfgdjaa
open Go.RowKit Go.Shelf
attribute [local go_sem] Oper.semAt_some

/-- How many greatest nodes begin from m on and ahead of t, within lo to hi. -/
def rs (m t : Nat) : Nat → Nat → Nat → Nat
  | 0, lo, hi => if hi ≤ m ∨ t ≤ lo then 0 else 1
  | f + 1, lo, hi => if hi ≤ m ∨ t ≤ lo then 0 else if m ≤ lo then 1 else rs m t f lo (lo + sp (hi - lo)) + rs m t f (lo + sp (hi - lo)) hi
/-- How many greatest nodes end at m at the latest, within lo to hi. -/
def ol (m : Nat) : Nat → Nat → Nat → Nat
  | 0, _, hi => if hi ≤ m then 1 else 0
  | f + 1, lo, hi => if hi ≤ m then 1 else if m ≤ lo then 0 else ol m f lo (lo + sp (hi - lo)) + ol m f (lo + sp (hi - lo)) hi
def part (m : Nat) (x : Nat × Nat) : Bool := decide (x.1 < m) && decide (m < x.2)
/-- How many of these nodes are not parted. -/
def cw {n : Nat} (m : Nat) : List (Nw n) → Nat
  | [] => 0
  | x :: r => (if part m x.1 then 0 else 1) + cw m r
theorem cw_append {n m : Nat} : ∀ (a b : List (Nw n)), cw m (a ++ b) = cw m a + cw m b
  | [], b => by simp [cw]
  | x :: a, b => by simp only [List.cons_append, cw, cw_append a b]; omega
theorem cw_le {n m : Nat} : ∀ (a : List (Nw n)), cw m a ≤ a.length
  | [] => by simp [cw]
  | x :: a => by have := cw_le (m := m) a; simp only [cw, List.length_cons]; split <;> omega
theorem wl_len (n m : Nat) : ∀ (f lo hi : Nat) (h1 : lo < hi) (h2 : hi ≤ n), (wl n m f lo hi h1 h2).length ≤ 2 * (hi - lo) - 1 := by
  intro f
  induction f with
  | zero => intro lo hi h1 h2; simp [wl]; omega
  | succ f ih =>
    intro lo hi h1 h2
    unfold wl
    by_cases h : lo < m ∧ m < hi
    · rw [dif_pos h]
      have hs := sp_lt0 (n := hi - lo) (by omega)
      have a := ih lo (lo + sp (hi - lo)) (by omega) (by omega)
      have b := ih (lo + sp (hi - lo)) hi (by omega) h2
      simp only [List.length_append, List.length_cons, List.length_nil]
      omega
    · rw [dif_neg h]; simp; omega
theorem cw_wl (n m : Nat) : ∀ (f lo hi : Nat) (h1 : lo < hi) (h2 : hi ≤ n), hi - lo ≤ f + 1 → cw m (wl n m f lo hi h1 h2) = ol m f lo hi + rs m n f lo hi := by
  intro f
  induction f with
  | zero =>
    intro lo hi h1 h2 hs
    simp only [wl, cw, ol, rs, part]
    by_cases h : hi ≤ m
    · have : ¬ m < hi := by omega
      simp [h, this]
    · have e : lo = hi - 1 := by omega
      have h' : ¬ lo < m := by omega
      have h'' : ¬ n ≤ lo := by omega
      simp [h, h', h'']
  | succ f ih =>
    intro lo hi h1 h2 hs
    unfold wl ol rs
    by_cases h : lo < m ∧ m < hi
    · rw [dif_pos h, if_neg (by omega), if_neg (by omega), if_neg (by omega), if_neg (by omega)]
      have hs := sp_lt0 (n := hi - lo) (by omega)
      rw [cw_append, cw_append, ih _ _ _ _ (by omega), ih _ _ _ _ (by omega)]
      have hp : part m (lo, hi) = true := by simp [part]; omega
      simp only [cw, hp, if_true]
      omega
    · rw [dif_neg h]
      have hp : part m (lo, hi) = false := by simp [part]; omega
      simp only [cw, hp, Bool.false_eq_true, if_false]
      by_cases h' : hi ≤ m
      · rw [if_pos h', if_pos (.inl h')]
      · rw [if_neg h', if_pos (by omega), if_neg (by omega), if_pos (by omega)]
theorem pc_pow : ∀ j : Fin 8, ∀ r : Fin 256, 2 ^ j.val ≤ r.val → r.val < 2 ^ (j.val + 1) → pc r.val = 1 + pc (r.val - 2 ^ j.val) := by decide +kernel
theorem pc_sp (s r : Nat) (h2 : 2 ≤ s) (h256 : s ≤ 256) (h1 : sp s ≤ r) (hr : r < s) : pc r = 1 + pc (r - sp s) := by
  have hl : Nat.log2 (s - 1) < 8 := (Nat.log2_lt (by omega)).2 (by omega)
  have hu : s - 1 < 2 ^ (Nat.log2 (s - 1) + 1) := Nat.lt_log2_self
  exact pc_pow ⟨Nat.log2 (s - 1), hl⟩ ⟨r, by omega⟩ h1 (by show r < 2 ^ (Nat.log2 (s - 1) + 1); omega)
theorem ol_pc (m : Nat) : ∀ (f lo hi : Nat), hi - lo ≤ f + 1 → lo < m → m < hi → hi ≤ 256 → ol m f lo hi = pc (m - lo) := by
  intro f
  induction f with
  | zero => intro lo hi hs h1 h2; omega
  | succ f ih =>
    intro lo hi hs h1 h2 h256
    have hsp := sp_lt0 (n := hi - lo) (by omega)
    unfold ol
    rw [if_neg (by omega), if_neg (by omega)]
    have hz : ∀ g a b, m ≤ a → a < b → ol m g a b = 0 := by
      intro g a b ha hb
      cases g with
      | zero => simp only [ol]; rw [if_neg (by omega)]
      | succ g => simp only [ol]; rw [if_neg (by omega), if_pos (by omega)]
    have ho : ∀ g a b, b ≤ m → ol m g a b = 1 := by
      intro g a b hb
      cases g with
      | zero => simp only [ol]; rw [if_pos hb]
      | succ g => simp only [ol]; rw [if_pos hb]
    by_cases h : m < lo + sp (hi - lo)
    · rw [ih lo _ (by omega) h1 h (by omega), hz f _ hi (by omega) (by omega)]; omega
    · have e := pc_sp (hi - lo) (m - lo) (by omega) (by omega) (by omega) (by omega)
      rw [e, ho f _ _ (by omega)]
      by_cases h' : m = lo + sp (hi - lo)
      · rw [hz f _ hi (by omega) (by omega)]
        have : m - lo - sp (hi - lo) = 0 := by omega
        rw [this]
        rfl
      · rw [ih _ hi (by omega) (by omega) h2 h256]
        have : m - (lo + sp (hi - lo)) = m - lo - sp (hi - lo) := by omega
        rw [this]
theorem rs_le (m t : Nat) : ∀ (f lo hi : Nat), lo < hi → hi - lo ≤ f + 1 → rs m t f lo hi ≤ hi - lo := by
  intro f
  induction f with
  | zero => intro lo hi h1 hs; simp only [rs]; split <;> omega
  | succ f ih =>
    intro lo hi h1 hs
    unfold rs
    split
    · omega
    · split
      · omega
      · have hsp := sp_lt0 (n := hi - lo) (by omega)
        have a := ih lo (lo + sp (hi - lo)) (by omega) (by omega)
        have b := ih (lo + sp (hi - lo)) hi (by omega) (by omega)
        omega
/-- What GrowthLen tells where 0 < m < n. -/
def gl (m n : Nat) : Nat := pc m + rs m n n 0 n
theorem cw_around (n m : Nat) (h0 : 0 < m) (h1 : m < n) (h256 : n ≤ 256) : cw m (around n m (by omega)) = gl m n := by
  unfold around gl
  rw [cw_wl n m n 0 n _ _ (by omega), ol_pc m n 0 n (by omega) h0 h1 h256]
  rfl

theorem sizes_is (m n : Int) (w : World) : Calls Try.prog 49 #[.int .i64 m, .int .i64 n] w fun e w' => e = .returned (.bool (decide (0 ≤ m ∧ m ≤ n ∧ n ≤ 256))) ∧ w' = w := by
  have c1 := fun W : World => in_is m 0 n W
  by_cases h : 0 ≤ m ∧ m ≤ n
  · have hc1 : (decide ((0 : Int) ≤ m) && decide (m ≤ n)) = true := by simp; omega
    rw [hc1] at c1
    have hc2 : decide (0 ≤ m ∧ m ≤ n ∧ n ≤ 256) = decide (n ≤ 256) := by congr 1; apply propext; omega
    rw [hc2]
    clear hc1 hc2 h
    go_enter Try.func49, Try.ntmps49
    go_wp2_with (go_at_call 70; refine (c1 _).mono ?_; rintro e w1 ⟨rfl, rfl⟩)
    go_ret
    exact ⟨rfl, rfl⟩
  · have hc1 : (decide ((0 : Int) ≤ m) && decide (m ≤ n)) = false := by rw [Bool.and_eq_false_iff, decide_eq_false_iff_not, decide_eq_false_iff_not]; omega
    rw [hc1] at c1
    have hc2 : decide (0 ≤ m ∧ m ≤ n ∧ n ≤ 256) = false := by rw [decide_eq_false_iff_not]; omega
    rw [hc2]
    clear hc1 hc2 h
    go_enter Try.func49, Try.ntmps49
    go_wp2_with (go_at_call 70; refine (c1 _).mono ?_; rintro e w1 ⟨rfl, rfl⟩)
    go_ret
    exact ⟨rfl, rfl⟩
set_option maxHeartbeats 1000000 in
theorem rests_is (m t : Nat) : ∀ (f lo hi : Nat), lo < hi → hi ≤ 256 → hi - lo ≤ f + 1 → ∀ w : World,
    Calls Try.prog 85 #[.int .i64 (lo : Int), .int .i64 (hi : Int), .int .i64 (m : Int), .int .i64 (t : Int)] w fun e w' => e = .returned (.int .i64 (rs m t f lo hi : Int)) ∧ w' = w := by
  have none : ∀ (lo hi : Nat), (hi ≤ m ∨ t ≤ lo) → ∀ w : World,
      Calls Try.prog 85 #[.int .i64 (lo : Int), .int .i64 (hi : Int), .int .i64 (m : Int), .int .i64 (t : Int)] w fun e w' => e = .returned (.int .i64 0) ∧ w' = w := by
    intro lo hi h w
    by_cases h1 : hi ≤ m
    · have h1I : (hi : Int) ≤ (m : Int) := by omega
      clear h
      go_enter Try.func85, Try.ntmps85
      go_wp2
      go_ret
      exact ⟨rfl, rfl⟩
    · have h1I : ¬ (hi : Int) ≤ (m : Int) := by omega
      have h2I : (t : Int) ≤ (lo : Int) := by omega
      clear h
      go_enter Try.func85, Try.ntmps85
      go_wp2
      go_ret
      exact ⟨rfl, rfl⟩
  have one : ∀ (lo hi : Nat), ¬ (hi ≤ m ∨ t ≤ lo) → m ≤ lo → ∀ w : World,
      Calls Try.prog 85 #[.int .i64 (lo : Int), .int .i64 (hi : Int), .int .i64 (m : Int), .int .i64 (t : Int)] w fun e w' => e = .returned (.int .i64 1) ∧ w' = w := by
    intro lo hi h h3 w
    have h1I : ¬ (hi : Int) ≤ (m : Int) := by omega
    have h2I : ¬ (t : Int) ≤ (lo : Int) := by omega
    have h3I : (m : Int) ≤ (lo : Int) := by omega
    clear h h3
    go_enter Try.func85, Try.ntmps85
    go_wp2
    go_ret
    exact ⟨rfl, rfl⟩
  intro f
  induction f with
  | zero =>
    intro lo hi h1 h256 hs w
    by_cases h : hi ≤ m ∨ t ≤ lo
    · have := none lo hi h w
      simpa [rs, h] using this
    · have := one lo hi h (by omega) w
      simpa [rs, h] using this
  | succ f ih =>
    intro lo hi h1 h256 hs w
    by_cases h : hi ≤ m ∨ t ≤ lo
    · have := none lo hi h w
      simpa [rs, h] using this
    by_cases h' : m ≤ lo
    · have := one lo hi h h' w
      simpa [rs, h, h'] using this
    have hsp := sp_lt0 (n := hi - lo) (by omega)
    have cs := fun W : World => sp_spec (hi - lo) (by omega) (by omega) W
    have k1 := fun W : World => ih lo (lo + sp (hi - lo)) (by omega) (by omega) (by omega) W
    have k2 := fun W : World => ih (lo + sp (hi - lo)) hi (by omega) (by omega) (by omega) W
    have l1 := rs_le m t f lo (lo + sp (hi - lo)) (by omega) (by omega)
    have l2 := rs_le m t f (lo + sp (hi - lo)) hi (by omega) (by omega)
    have e : rs m t (f + 1) lo hi = rs m t f lo (lo + sp (hi - lo)) + rs m t f (lo + sp (hi - lo)) hi := by rw [rs, if_neg h, if_neg h']
    rw [e]
    clear e ih none one
    generalize rs m t f lo (lo + sp (hi - lo)) = r1 at k1 l1 ⊢
    generalize rs m t f (lo + sp (hi - lo)) hi = r2 at k2 l2 ⊢
    generalize sp (hi - lo) = s at hsp cs k1 k2 l1 l2
    have hsub : ((hi : Int) - lo) = ((hi - lo : Nat) : Int) := by omega
    have hadd : ((lo : Int) + s) = ((lo + s : Nat) : Int) := by omega
    rw [← hadd] at k1 k2
    rw [← hsub] at cs
    have h1I : ¬ (hi : Int) ≤ (m : Int) := by omega
    have h2I : ¬ (t : Int) ≤ (lo : Int) := by omega
    have h3I : ¬ (m : Int) ≤ (lo : Int) := by omega
    clear hsub hadd
    go_enter Try.func85, Try.ntmps85
    go_wp2_with (first
      | (go_at_call 71; refine (cs _).mono ?_; rintro e w1 ⟨rfl, rfl⟩)
      | (go_at_call 85; refine (k1 _).mono ?_; clear k1; rintro e w1 ⟨rfl, rfl⟩)
      | (go_at_call 85; refine (k2 _).mono ?_; rintro e w1 ⟨rfl, rfl⟩))
    go_ret
    refine ⟨congrArg Ending.returned (congrArg (Value.int IntKind.i64) ?_), rfl⟩
    omega
end Go.Proofs.Ytkdgdmicnfgdjaa
