/-
  The peaks of leaves: how many they are, and which root they make.
-/
import Derived.Test.YtgpbodanaeelaaaTPk
namespace Go.Proofs.Ytgpbodanaeelaaa
open Go.RowKit

theorem lok_take {S : List ByteArray} (h : lok S = true) (k : Nat) : lok (S.take k) = true := by
  obtain ⟨h1, h2⟩ := lok_yes h
  unfold lok
  rw [Bool.and_eq_true, decide_eq_true_iff, List.all_eq_true]
  exact ⟨by rw [List.length_take]; omega, fun s hs => by simpa using h2 s (List.mem_of_mem_take hs)⟩
theorem lok_drop {S : List ByteArray} (h : lok S = true) (k : Nat) : lok (S.drop k) = true := by
  obtain ⟨h1, h2⟩ := lok_yes h
  unfold lok
  rw [Bool.and_eq_true, decide_eq_true_iff, List.all_eq_true]
  exact ⟨by rw [List.length_drop]; omega, fun s hs => by simpa using h2 s (List.mem_of_mem_drop hs)⟩
theorem rootN_halves {S : List ByteArray} (h2 : 2 ≤ S.length) (h : S.length ≤ 256) : rootN 256 S = pairD (rootN 256 (S.take (sp S.length))) (rootN 256 (S.drop (sp S.length))) := by
  have hsp := sp_lt S.length h2
  show (if S.length = 0 then _ else _) = _
  rw [if_neg (by omega), if_neg (by omega), rootN_fuel 255 256 (S.take (sp S.length)) (by rw [List.length_take]; omega) (by rw [List.length_take]; omega), rootN_fuel 255 256 (S.drop (sp S.length)) (by rw [List.length_drop]; omega) (by rw [List.length_drop]; omega)]
/-- A tree's root is the pair of the roots of its two halves. -/
theorem trv_halves {S : List ByteArray} (h : lok S = true) (h2 : 2 ≤ S.length) : trv S = pairD (trv (S.take (sp S.length))) (trv (S.drop (sp S.length))) := by
  unfold trv
  rw [if_pos h, if_pos (lok_take h _), if_pos (lok_drop h _)]
  exact rootN_halves h2 (lok_yes h).1
theorem pc_hf : ∀ n : Fin 257, 1 ≤ n.val → pc n.val = pc (n.val - hf n.val) + 1 := by decide +kernel
/-- There are as many peaks as the number of leaves has binary ones. -/
theorem tk_count : ∀ (n : Nat) (S : List ByteArray), S.length ≤ n → S.length ≤ 256 → (tk S).length = pc S.length := by
  intro n
  induction n with
  | zero => intro S h _; have : S = [] := List.length_eq_zero_iff.1 (by omega); subst this; rw [tk_nil]; rfl
  | succ n ih =>
    intro S h h2
    by_cases h0 : S.length = 0
    · have : S = [] := List.length_eq_zero_iff.1 h0
      subst this; rw [tk_nil]; rfl
    · have hh := hf_le h0 h2
      have e := ih (S.drop (hf S.length)) (by rw [List.length_drop]; omega) (by rw [List.length_drop]; omega)
      rw [tk_cons h0 h2, List.length_cons, e, List.length_drop]
      exact (pc_hf ⟨S.length, by omega⟩ (by show 1 ≤ S.length; omega)).symm
/-- The peaks make the root. -/
theorem tk_root : ∀ (n : Nat) (S : List ByteArray), S.length ≤ n → S.length ≤ 256 → 1 ≤ S.length → pkN (tk S) = rootN 256 S := by
  intro n
  induction n with
  | zero => intro S h _ h1; omega
  | succ n ih =>
    intro S h h2 h1
    have h0 : S.length ≠ 0 := by omega
    have hh := hf_le h0 h2
    have tab := hf_tab ⟨S.length, by omega⟩
    simp only at tab
    rw [tk_cons h0 h2]
    by_cases hw : hf S.length = S.length
    · rw [hw, List.take_length, List.drop_length, tk_nil]
      rfl
    · have hge : 2 ≤ S.length := by
        by_cases e : S.length = 1
        · exact absurd ((tab.1 e).trans e.symm) hw
        · omega
      have hs : hf S.length = sp S.length := by
        by_cases e : S.length = 2 * sp S.length
        · exact absurd ((tab.2.1 hge).1 e) hw
        · exact (tab.2.1 hge).2 e
      have e := ih (S.drop (hf S.length)) (by rw [List.length_drop]; omega) (by rw [List.length_drop]; omega) (by rw [List.length_drop]; omega)
      rw [rootN_halves hge h2, ← hs, ← e]
      have hl : 0 < (S.drop (hf S.length)).length := by rw [List.length_drop]; omega
      rw [tk_cons (T := S.drop (hf S.length)) (by omega) (by rw [List.length_drop]; omega)]
      rfl
end Go.Proofs.Ytgpbodanaeelaaa
