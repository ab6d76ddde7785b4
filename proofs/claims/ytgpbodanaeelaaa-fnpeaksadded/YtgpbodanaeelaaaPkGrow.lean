/-
  The peaks of leaves with one more.
-/
import Derived.Test.YtgpbodanaeelaaaPkTk
import Derived.Test.YtgpbodanaeelaaaPAdd
namespace Go.Proofs.Ytgpbodanaeelaaa
open Go.RowKit

/-- The digests of a list, paired from its end on, t behind them. -/
def foldP : List Qd → Qd → Qd
  | [], t => t
  | q :: K, t => pairD q (foldP K t)
theorem foldP_snoc : ∀ (K : List Qd) (q t : Qd), foldP (K ++ [q]) t = foldP K (pairD q t)
  | [], _, _ => rfl
  | a :: K, q, t => by
    show pairD a (foldP (K ++ [q]) t) = pairD a (foldP K (pairD q t))
    rw [foldP_snoc K q t]
theorem lastD_of {K : List Qd} (h : K ≠ []) : ∃ K' q, K = K' ++ [q] ∧ lastD K = q ∧ K.dropLast = K' := by
  refine ⟨K.dropLast, K.getLast h, (List.dropLast_concat_getLast h).symm, ?_, rfl⟩
  have := lastD_snoc K.dropLast (K.getLast h)
  rwa [List.dropLast_concat_getLast] at this
theorem pa_ones : ∀ (j : Nat) (K : List Qd) (t : Qd), K.length = j → pa (2 ^ j - 1) K t = [foldP K t] := by
  intro j
  induction j with
  | zero =>
    intro K t h
    have : K = [] := List.length_eq_zero_iff.1 h
    subst this
    rw [pa_even (by decide)]
    rfl
  | succ j ih =>
    intro K t h
    obtain ⟨K', q, rfl, h1, h2⟩ := lastD_of (K := K) (by intro e; rw [e] at h; simp at h)
    have hp := Nat.two_pow_pos j
    rw [pa_odd (by rw [Nat.pow_succ]; omega), h1, h2, foldP_snoc]
    have e : (2 ^ (j + 1) - 1) / 2 = 2 ^ j - 1 := by rw [Nat.pow_succ]; omega
    rw [e]
    exact ih K' _ (by simp at h; omega)
theorem pa_front (r : Qd) : ∀ (j m : Nat) (K : List Qd) (t : Qd), m + 1 < 2 ^ j → K.length = pc m → m ≤ 255 → pa (m + 2 ^ j) (r :: K) t = r :: pa m K t := by
  intro j
  induction j with
  | zero => intro m K t h; simp at h
  | succ j ih =>
    intro m K t h hK hm
    rw [Nat.pow_succ] at h ⊢
    by_cases ho : m % 2 = 1
    · have hpc := pc_odd hm ho
      obtain ⟨K', q, rfl, h1, h2⟩ := lastD_of (K := K) (by intro e; rw [e] at hK; simp at hK; omega)
      have e1 : lastD (r :: (K' ++ [q])) = q := by
        have := lastD_snoc (r :: K') q
        simpa using this
      have e2 : (r :: (K' ++ [q])).dropLast = r :: K' := by
        have := List.dropLast_concat (l₁ := r :: K') (b := q)
        simpa using this
      rw [pa_odd (m := m + 2 ^ j * 2) (by omega), pa_odd ho, e1, e2, h1, h2]
      have e3 : (m + 2 ^ j * 2) / 2 = m / 2 + 2 ^ j := by omega
      rw [e3]
      exact ih (m / 2) K' _ (by omega) (by simp at hK; omega) (by omega)
    · rw [pa_even (m := m + 2 ^ j * 2) (by omega), pa_even ho]
      rfl
theorem grow_tab : ∀ n : Fin 256, 1 ≤ n.val → (n.val + 1 = 2 * hf n.val → hf (n.val + 1) = n.val + 1 ∧ sp (n.val + 1) = hf n.val) ∧ (n.val + 1 ≠ 2 * hf n.val → hf (n.val + 1) = hf n.val ∧ n.val + 1 < 2 * hf n.val) ∧
    hf n.val ≤ n.val ∧ 1 ≤ hf n.val ∧ hf (hf n.val) = hf n.val ∧ pc (hf n.val - 1) = Nat.log2 n.val := by decide +kernel
theorem hf_pow (n : Nat) : hf n = 2 ^ Nat.log2 n := by
  unfold hf sp
  rw [Nat.add_sub_cancel]
/-- The peaks of leaves with one more are the peaks that PeaksAdd makes. -/
theorem tk_grow : ∀ (n : Nat) (S : List ByteArray) (s : ByteArray), S.length ≤ n → S.length ≤ 255 → tk (S ++ [s]) = pa S.length (tk S) (leafD s) := by
  intro n
  induction n with
  | zero =>
    intro S s h _
    have : S = [] := List.length_eq_zero_iff.1 (by omega)
    subst this
    rw [tk_nil, pa_even (by decide), tk_cons (by simp) (by simp)]
    have e : hf ([] ++ [s] : List ByteArray).length = 1 := by show hf 1 = 1; decide
    rw [e]
    simp [tk_nil, rootN]
  | succ n ih =>
    intro S s h h255
    by_cases h0 : S.length = 0
    · exact ih S s (by omega) h255
    · obtain ⟨t1, t2, t3, t4, t5, t6⟩ := grow_tab ⟨S.length, by omega⟩ (by show 1 ≤ S.length; omega)
      simp only at t1 t2 t3 t4 t5 t6
      have hp := hf_pow S.length
      obtain ⟨d, hd⟩ : ∃ d, d = hf S.length := ⟨_, rfl⟩
      have eS := tk_cons h0 (by omega)
      rw [← hd] at t1 t2 t3 t4 t5 t6 hp eS
      have ld : (S.drop d).length = S.length - d := by rw [List.length_drop]
      have iH := ih (S.drop d) s (by omega) (by omega)
      have hK := tk_count (S.drop d).length (S.drop d) (Nat.le_refl _) (by omega)
      have et : (S ++ [s]).take d = S.take d := by rw [List.take_append_of_le_length t3]
      have ed : (S ++ [s]).drop d = S.drop d ++ [s] := by rw [List.drop_append_of_le_length t3]
      have el : (S ++ [s]).length = S.length + 1 := by simp
      by_cases hw : S.length + 1 = 2 * d
      · obtain ⟨w1, w2⟩ := t1 hw
        have e1 : (S.drop d ++ [s]).length = d := by simp; omega
        have a1 : tk (S ++ [s]) = [rootN 256 (S ++ [s])] := by
          rw [tk_cons (by omega) (by omega), el, w1, ← el, List.take_length, List.drop_length, tk_nil]
        have a2 : tk (S.drop d ++ [s]) = [rootN 256 (S.drop d ++ [s])] := by
          rw [tk_cons (by omega) (by omega), e1, t5]
          rw [List.take_of_length_le (l := S.drop d ++ [s]) (by omega), List.drop_of_length_le (l := S.drop d ++ [s]) (by omega), tk_nil]
        have e2 : S.length - d = 2 ^ Nat.log2 S.length - 1 := by omega
        have hK2 : (tk (S.drop d)).length = Nat.log2 S.length := by rw [hK, ld, ← t6]; congr 1; omega
        rw [a2, ld, e2, pa_ones _ _ _ hK2] at iH
        have e3 : S.length = 2 ^ (Nat.log2 S.length + 1) - 1 := by rw [Nat.pow_succ, ← hp]; omega
        rw [a1, eS, rootN_halves (by omega) (by omega), el, w2, et, ed]
        have e4 : pa S.length (rootN 256 (S.take d) :: tk (S.drop d)) (leafD s) = pa (2 ^ (Nat.log2 S.length + 1) - 1) (rootN 256 (S.take d) :: tk (S.drop d)) (leafD s) := by rw [← e3]
        rw [e4, pa_ones _ _ _ (by simp [hK2])]
        injection iH with iH _
        rw [iH]
        rfl
      · obtain ⟨w1, w2⟩ := t2 hw
        rw [tk_cons (by omega) (by omega), el, w1, et, ed, iH, eS, ld]
        have e4 : S.length = (S.length - d) + 2 ^ Nat.log2 S.length := by omega
        have e5 : pa S.length (rootN 256 (S.take d) :: tk (S.drop d)) (leafD s) = pa ((S.length - d) + 2 ^ Nat.log2 S.length) (rootN 256 (S.take d) :: tk (S.drop d)) (leafD s) := by rw [← e4]
        rw [e5]
        exact (pa_front _ _ _ _ _ (by omega) (by rw [hK, ld]) (by omega)).symm
end Go.Proofs.Ytgpbodanaeelaaa
