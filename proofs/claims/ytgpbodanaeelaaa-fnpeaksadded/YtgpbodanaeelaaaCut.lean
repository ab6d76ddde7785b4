/-
  The first run of a tree is cut off.
-/
import Derived.Test.YtgpbodanaeelaaaTree2
import Derived.BigQuiet
import Derived.Deep.QuietTactic
namespace Go.Proofs.Ytgpbodanaeelaaa
open Go.RowKit

/-- The greatest power of two that is at most n. -/
def hf (n : Nat) : Nat := sp (n + 1)
theorem hf_tab : ∀ n : Fin 257, (n.val = 1 → hf n.val = 1) ∧ (2 ≤ n.val → (n.val = 2 * sp n.val → hf n.val = n.val) ∧ (n.val ≠ 2 * sp n.val → hf n.val = sp n.val)) ∧ (1 ≤ n.val → 1 ≤ hf n.val ∧ hf n.val ≤ n.val) := by decide +kernel
theorem rootN_fuel : ∀ (n m : Nat) (S : List ByteArray), S.length ≤ n → S.length ≤ m → rootN n S = rootN m S := by
  intro n
  induction n with
  | zero =>
    intro m S h _
    have : S = [] := List.length_eq_zero_iff.1 (by omega)
    subst this
    cases m <;> rfl
  | succ n ih =>
    intro m S h hm
    by_cases h0 : S.length = 0
    · have : S = [] := List.length_eq_zero_iff.1 h0
      subst this
      cases m <;> rfl
    · obtain ⟨m, rfl⟩ : ∃ k, m = k + 1 := ⟨m - 1, by omega⟩
      show (if S.length = 0 then _ else _) = (if S.length = 0 then _ else _)
      rw [if_neg h0, if_neg h0]
      by_cases h1 : S.length = 1
      · rw [if_pos h1, if_pos h1]
      · have hsp := sp_lt S.length (by omega)
        rw [if_neg h1, if_neg h1, ih m (S.take (sp S.length)) (by rw [List.length_take]; omega) (by rw [List.length_take]; omega), ih m (S.drop (sp S.length)) (by rw [List.length_drop]; omega) (by rw [List.length_drop]; omega)]
theorem treeV_fuel : ∀ (n m : Nat) (S : List ByteArray), S.length ≤ n → S.length ≤ m → treeV n S = treeV m S := by
  intro n
  induction n with
  | zero =>
    intro m S h _
    have : S = [] := List.length_eq_zero_iff.1 (by omega)
    subst this
    cases m <;> rfl
  | succ n ih =>
    intro m S h hm
    by_cases h0 : S.length = 0
    · have : S = [] := List.length_eq_zero_iff.1 h0
      subst this
      cases m <;> rfl
    · obtain ⟨m, rfl⟩ : ∃ k, m = k + 1 := ⟨m - 1, by omega⟩
      show (if S.length = 0 then _ else _) = (if S.length = 0 then _ else _)
      rw [if_neg h0, if_neg h0]
      by_cases h1 : S.length = 1
      · rw [if_pos h1, if_pos h1]
      · have hsp := sp_lt S.length (by omega)
        rw [if_neg h1, if_neg h1, ih m (S.take (sp S.length)) (by rw [List.length_take]; omega) (by rw [List.length_take]; omega), ih m (S.drop (sp S.length)) (by rw [List.length_drop]; omega) (by rw [List.length_drop]; omega)]
/-- A tree's value, and its size. -/
def Child (T : Value) (m : Nat) : Prop := (∃ s, T = .iface 73 (.agg #[.string s]) ∧ m = 1) ∨ (∃ x y, T = .iface 70 (.agg #[x, y]) ∧ ∀ w, Calls Try.prog 91 #[.agg #[x, y]] w fun e w' => e = .returned (.int .i64 (m : Int)) ∧ Below w.heap.size w w')
set_option maxRecDepth 20000 in
theorem leaf_size (s : ByteArray) (w : World) : Calls Try.prog 92 #[.agg #[.string s]] w fun e w' => e = .returned (.int .i64 1) ∧ Below w.heap.size w w' := by
  go_enter Try.func92, Try.ntmps92
  go_wp2
  go_ret
  exact ⟨rfl, (by repeat' (first | (with_reducible exact Below.refl _ _) | (with_reducible assumption) | (with_reducible refine below_drewN ?_ _) | (with_reducible refine Below.setCell ?_ ?_ _) | (with_reducible refine Below.alloc ?_ ?_ _) | (with_reducible refine Below.drew ?_) | go_size))⟩
set_option maxRecDepth 20000 in
set_option maxHeartbeats 1000000 in
theorem pair_size (a b : Value) (m1 m2 : Nat) (h1 : Child a m1) (h2 : Child b m2) (hm : m1 + m2 ≤ 256) (w : World) : Calls Try.prog 91 #[.agg #[a, b]] w fun e w' => e = .returned (.int .i64 ((m1 + m2 : Nat) : Int)) ∧ Below w.heap.size w w' := by
  rcases h1 with ⟨s1, rfl, rfl⟩ | ⟨x1, y1, rfl, c1⟩
  · rcases h2 with ⟨s2, rfl, rfl⟩ | ⟨x2, y2, rfl, c2⟩
    · go_enter Try.func91, Try.ntmps91
      go_wp2_with fail
      go_region_with (first
        | (go_at_call_of 92 s2; refine (leaf_size s2 _).mono ?_; rintro e w2 ⟨rfl, hb2⟩; have hz2 := hb2.size; (try simp only [World.size_alloc, World.size_drew] at hz2))
        | (go_at_call_of 92 s1; refine (leaf_size s1 _).mono ?_; rintro e w1 ⟨rfl, hb1⟩; have hz1 := hb1.size; (try simp only [World.size_alloc, World.size_drew] at hz1); have d1 : w1.cell? ⟨w.heap.size, 1, none⟩ = some (.iface 73 (.agg #[.string s2])) := (hb1.cell (by simp)).trans (by simp [go_sem])))
      all_goals (go_wp2_with fail)
      all_goals go_ret
      all_goals exact ⟨by first | rfl | (congr 2; omega), below_after (below_after ((Below.refl _ _).alloc (Nat.le_refl _) _).drew hb1 (by simp)) hb2 (by omega)⟩
    · have hw : IntKind.i64.wrap (1 + (m2 : Int)) = 1 + (m2 : Int) := IntWalk.i64_in _ (by omega)
      go_enter Try.func91, Try.ntmps91
      go_wp2_with fail
      go_region_with (first
        | (go_at_call_of 91 x2; refine (c2 _).mono ?_; rintro e w2 ⟨rfl, hb2⟩; have hz2 := hb2.size; (try simp only [World.size_alloc, World.size_drew] at hz2))
        | (go_at_call_of 92 s1; refine (leaf_size s1 _).mono ?_; rintro e w1 ⟨rfl, hb1⟩; have hz1 := hb1.size; (try simp only [World.size_alloc, World.size_drew] at hz1); have d1 : w1.cell? ⟨w.heap.size, 1, none⟩ = some (.iface 70 (.agg #[x2, y2])) := (hb1.cell (by simp)).trans (by simp [go_sem])))
      all_goals (go_wp2_with fail)
      all_goals go_ret
      all_goals exact ⟨by first | rfl | (congr 2; omega), below_after (below_after ((Below.refl _ _).alloc (Nat.le_refl _) _).drew hb1 (by simp)) hb2 (by omega)⟩
  · rcases h2 with ⟨s2, rfl, rfl⟩ | ⟨x2, y2, rfl, c2⟩
    · have hw : IntKind.i64.wrap ((m1 : Int) + 1) = (m1 : Int) + 1 := IntWalk.i64_in _ (by omega)
      go_enter Try.func91, Try.ntmps91
      go_wp2_with fail
      go_region_with (first
        | (go_at_call_of 92 s2; refine (leaf_size s2 _).mono ?_; rintro e w2 ⟨rfl, hb2⟩; have hz2 := hb2.size; (try simp only [World.size_alloc, World.size_drew] at hz2))
        | (go_at_call_of 91 x1; refine (c1 _).mono ?_; rintro e w1 ⟨rfl, hb1⟩; have hz1 := hb1.size; (try simp only [World.size_alloc, World.size_drew] at hz1); have d1 : w1.cell? ⟨w.heap.size, 1, none⟩ = some (.iface 73 (.agg #[.string s2])) := (hb1.cell (by simp)).trans (by simp [go_sem])))
      all_goals (go_wp2_with fail)
      all_goals go_ret
      all_goals exact ⟨by first | rfl | (congr 2; omega), below_after (below_after ((Below.refl _ _).alloc (Nat.le_refl _) _).drew hb1 (by simp)) hb2 (by omega)⟩
    · have hw : IntKind.i64.wrap ((m1 : Int) + (m2 : Int)) = (m1 : Int) + (m2 : Int) := IntWalk.i64_in _ (by omega)
      go_enter Try.func91, Try.ntmps91
      go_wp2_with fail
      go_region_with (first
        | (go_at_call_of 91 x2; refine (c2 _).mono ?_; rintro e w2 ⟨rfl, hb2⟩; have hz2 := hb2.size; (try simp only [World.size_alloc, World.size_drew] at hz2))
        | (go_at_call_of 91 x1; refine (c1 _).mono ?_; rintro e w1 ⟨rfl, hb1⟩; have hz1 := hb1.size; (try simp only [World.size_alloc, World.size_drew] at hz1); have d1 : w1.cell? ⟨w.heap.size, 1, none⟩ = some (.iface 70 (.agg #[x2, y2])) := (hb1.cell (by simp)).trans (by simp [go_sem])))
      all_goals (go_wp2_with fail)
      all_goals go_ret
      all_goals exact ⟨by first | rfl | (congr 2; omega), below_after (below_after ((Below.refl _ _).alloc (Nat.le_refl _) _).drew hb1 (by simp)) hb2 (by omega)⟩
theorem treeV_leaf (n : Nat) (S : List ByteArray) (h : S.length = 1) : treeV (n + 1) S = .iface 73 (.agg #[.string (S.getD 0 (ByteArray.mk #[]))]) := by
  show (if S.length = 0 then _ else _) = _
  rw [if_neg (by omega), if_pos h]
theorem treeV_pair (n : Nat) (S : List ByteArray) (h : 2 ≤ S.length) : treeV (n + 1) S = .iface 70 (.agg #[treeV n (S.take (sp S.length)), treeV n (S.drop (sp S.length))]) := by
  show (if S.length = 0 then _ else _) = _
  rw [if_neg (by omega), if_neg (by omega)]
theorem child_is : ∀ (n : Nat) (S : List ByteArray), 1 ≤ S.length → S.length ≤ n → S.length ≤ 256 → Child (treeV n S) S.length := by
  intro n
  induction n with
  | zero => intro S h1 h2; omega
  | succ n ih =>
    intro S h1 h2 h3
    by_cases e : S.length = 1
    · rw [treeV_leaf n S e]
      exact .inl ⟨_, rfl, e⟩
    · have hsp := sp_lt S.length (by omega)
      rw [treeV_pair n S (by omega)]
      have e1 : (S.take (sp S.length)).length = sp S.length := by rw [List.length_take]; omega
      have e2 : (S.drop (sp S.length)).length = S.length - sp S.length := by rw [List.length_drop]
      have k1 := ih (S.take (sp S.length)) (by omega) (by omega) (by omega)
      have k2 := ih (S.drop (sp S.length)) (by omega) (by omega) (by omega)
      refine .inr ⟨_, _, rfl, fun w => ?_⟩
      have := pair_size _ _ _ _ k1 k2 (by omega) w
      rwa [show (S.take (sp S.length)).length + (S.drop (sp S.length)).length = S.length by omega] at this
set_option maxRecDepth 20000 in
set_option maxHeartbeats 1000000 in
theorem cut_whole (T : Value) (h : T = .nilIface ∨ ∃ s, T = .iface 73 (.agg #[.string s])) (w : World) : Calls Try.prog 26 #[T] w fun e w' => e = .returned (.tuple #[T, .nilIface]) ∧ Below w.heap.size w w' := by
  rcases h with rfl | ⟨s, rfl⟩
  · have a2 := fun W : World => ta_nil (P := Try.prog) 70 48 _ W under_pair zero_pair
    go_enter Try.func26, Try.ntmps26
    go_wp2_with fail
    go_quiet (fail)
    all_goals (go_wp2_with fail)
    all_goals exact bodyPost_ret (v := .tuple #[.nilIface, .nilIface]) (by simp [results, Try.results26, go_sem]) rfl ⟨rfl, (by repeat' (first | (with_reducible exact Below.refl _ _) | (with_reducible assumption) | (with_reducible refine below_drewN ?_ _) | (with_reducible refine Below.setCell ?_ ?_ _) | (with_reducible refine Below.alloc ?_ ?_ _) | (with_reducible refine Below.drew ?_) | go_size))⟩
  · have a1 := fun W : World => ta_no (P := Try.prog) 73 70 48 (.agg #[.string s]) _ W under_pair (by decide) zero_pair
    go_enter Try.func26, Try.ntmps26
    go_wp2_with fail
    go_quiet (fail)
    all_goals (go_wp2_with fail)
    all_goals exact bodyPost_ret (v := .tuple #[.iface 73 (.agg #[.string s]), .nilIface]) (by simp [results, Try.results26, go_sem]) rfl ⟨rfl, (by repeat' (first | (with_reducible exact Below.refl _ _) | (with_reducible assumption) | (with_reducible refine below_drewN ?_ _) | (with_reducible refine Below.setCell ?_ ?_ _) | (with_reducible refine Below.alloc ?_ ?_ _) | (with_reducible refine Below.drew ?_) | go_size))⟩
end Go.Proofs.Ytgpbodanaeelaaa
