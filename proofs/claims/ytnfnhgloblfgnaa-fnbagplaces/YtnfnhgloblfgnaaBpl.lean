/-
  The places of all nodes together, and what is left when a letter is taken: facts of lists.
-/
import Derived.Test.YtnfnhgloblfgnaaBFor
import Derived.Test.YtnfnhgloblfgnaaLawBKF
import Derived.Test.YtnfnhgloblfgnaaTk4
namespace Go.Proofs.Ytnfnhgloblfgnaa
open Go.RowKit

theorem posn_get (node : Int) (L : List Lt) : ∀ (k i : Nat) (h : i < (posn node L k).length), ∃ q : Nat, (posn node L k)[i] = (q : Int) ∧ q < k ∧ (L.getD q ⟨0, 0, ByteArray.empty⟩).t = node
  | 0, i, h => by simp [posn] at h
  | k + 1, i, h => by
    by_cases ht : (L.getD k ⟨0, 0, ByteArray.empty⟩).t = node
    · have e : posn node L (k + 1) = posn node L k ++ [(k : Int)] := by show (if _ then _ else _) = _; rw [if_pos ht]
      simp only [e] at h ⊢
      by_cases hi : i < (posn node L k).length
      · rw [List.getElem_append_left hi]
        obtain ⟨q, h1, h2, h3⟩ := posn_get node L k i hi
        exact ⟨q, h1, by omega, h3⟩
      · rw [List.length_append, List.length_singleton] at h
        have hi' : i = (posn node L k).length := by omega
        subst hi'
        exact ⟨k, by simp, by omega, ht⟩
    · have e : posn node L (k + 1) = posn node L k := by show (if _ then _ else _) = _; rw [if_neg ht]
      simp only [e] at h ⊢
      obtain ⟨q, h1, h2, h3⟩ := posn_get node L k i h
      exact ⟨q, h1, by omega, h3⟩
theorem posn_asc (node : Int) (L : List Lt) : ∀ (k i : Nat) (h : i + 1 < (posn node L k).length), (posn node L k)[i] < (posn node L k)[i + 1]
  | 0, i, h => by simp [posn] at h
  | k + 1, i, h => by
    by_cases ht : (L.getD k ⟨0, 0, ByteArray.empty⟩).t = node
    · have e : posn node L (k + 1) = posn node L k ++ [(k : Int)] := by show (if _ then _ else _) = _; rw [if_pos ht]
      simp only [e] at h ⊢
      by_cases hi : i + 1 < (posn node L k).length
      · rw [List.getElem_append_left hi, List.getElem_append_left (by omega)]
        exact posn_asc node L k i hi
      · rw [List.length_append, List.length_singleton] at h
        have hi' : i + 1 = (posn node L k).length := by omega
        obtain ⟨q, h1, h2, -⟩ := posn_get node L k i (by omega)
        rw [List.getElem_append_left (by omega), h1, List.getElem_append_right (by omega)]
        simp
        omega
    · have e : posn node L (k + 1) = posn node L k := by show (if _ then _ else _) = _; rw [if_neg ht]
      simp only [e] at h ⊢
      exact posn_asc node L k i h
/-- How many places the first n nodes have among the first k letters. -/
def tot (L : List Lt) (k : Nat) : Nat → Nat
  | 0 => 0
  | n + 1 => tot L k n + (posn (n : Int) L k).length
theorem tot_zero (L : List Lt) : ∀ n, tot L 0 n = 0
  | 0 => rfl
  | n + 1 => by unfold tot; rw [tot_zero L n]; rfl
theorem posn_succ (node : Int) (L : List Lt) (k : Nat) : (posn node L (k + 1)).length = (posn node L k).length + (if (L.getD k ⟨0, 0, ByteArray.empty⟩).t = node then 1 else 0) := by
  by_cases ht : (L.getD k ⟨0, 0, ByteArray.empty⟩).t = node
  · rw [if_pos ht, show posn node L (k + 1) = posn node L k ++ [(k : Int)] by show (if _ then _ else _) = _; rw [if_pos ht], List.length_append]
    rfl
  · rw [if_neg ht, show posn node L (k + 1) = posn node L k by show (if _ then _ else _) = _; rw [if_neg ht]]
    rfl
theorem tot_succ (L : List Lt) (k : Nat) : ∀ n : Nat, tot L (k + 1) n = tot L k n + (if 0 ≤ (L.getD k ⟨0, 0, ByteArray.empty⟩).t ∧ (L.getD k ⟨0, 0, ByteArray.empty⟩).t < (n : Int) then 1 else 0)
  | 0 => by
    rw [if_neg (by omega)]
    rfl
  | n + 1 => by
    unfold tot
    rw [tot_succ L k n, posn_succ]
    generalize (L.getD k ⟨0, 0, ByteArray.empty⟩).t = t
    by_cases h1 : 0 ≤ t ∧ t < (n : Int)
    · rw [if_pos h1, if_neg (by omega), if_pos (by omega)]
      omega
    · rw [if_neg h1]
      by_cases h2 : t = (n : Int)
      · rw [if_pos h2, if_pos (by omega)]
        omega
      · rw [if_neg h2, if_neg (by omega)]
        omega
theorem tot_all (L : List Lt) (h : ∀ l ∈ L, 0 ≤ l.t ∧ l.t ≤ 20) : ∀ k, k ≤ L.length → tot L k 21 = k
  | 0, _ => tot_zero L 21
  | k + 1, hk => by
    rw [tot_succ, tot_all L h k (by omega)]
    have hm : L.getD k ⟨0, 0, ByteArray.empty⟩ = L[k] := by rw [List.getD_eq_getElem?_getD, List.getElem?_eq_getElem (by omega)]; rfl
    have := h L[k] (List.getElem_mem _)
    rw [hm, if_pos (by omega)]
theorem tot_le (L : List Lt) (k : Nat) (h : k ≤ 64) : ∀ n, tot L k n ≤ 64 * n
  | 0 => Nat.le_refl _
  | n + 1 => by
    unfold tot
    have := tot_le L k h n
    have := posn_len (n : Int) L k
    omega
theorem less_at (L : List Lt) (p j : Nat) (hj : j < (less L p).length) (hp : p < L.length) : (less L p)[j] = if h : j < p then L[j]'(by omega) else L[j + 1]'(by rw [less_len L p hp] at hj; omega) := by
  unfold less at hj ⊢
  by_cases h : j < p
  · rw [dif_pos h, List.getElem_append_left (by rw [List.length_take]; omega), List.getElem_take]
  · rw [dif_neg h, List.getElem_append_right (by rw [List.length_take]; omega), List.getElem_drop]
    congr 1
    rw [List.length_take]
    omega
/-- The merge: the next letter of all is the next one that was left, or the one that was taken. -/
theorem merge_step (L : List Lt) (p i j : Nat) (hp : p < L.length) (hi : i < L.length) (hj : j < (less L p).length) (h1 : j ≤ i) (h2 : i ≤ j + 1) (h3 : i ≤ p → j = i) :
    (L[i] = (less L p)[j] → j + 1 ≤ i + 1 ∧ i + 1 ≤ j + 1 + 1 ∧ (i + 1 ≤ p → j + 1 = i + 1)) ∧ (L[i] ≠ (less L p)[j] → j ≤ i + 1 ∧ i + 1 ≤ j + 1 ∧ (i + 1 ≤ p → j = i + 1)) := by
  refine ⟨fun _ => ⟨by omega, by omega, fun h => by have := h3 (by omega); omega⟩, fun hne => ?_⟩
  rw [less_at L p j hj hp] at hne
  by_cases hjp : j < p
  · rw [dif_pos hjp] at hne
    by_cases hip : i ≤ p
    · have e := h3 hip
      subst e
      exact absurd rfl hne
    · omega
  · rw [dif_neg hjp] at hne
    have hne' : i ≠ j + 1 := by
      intro e
      subst e
      exact hne rfl
    refine ⟨by omega, by omega, fun h => ?_⟩
    have := h3 (by omega)
    omega
/-- Letters that lie in a row from its block's front on. -/
def LatZ (W : World) (v : Value) (L : List Lt) : Prop :=
  (L = [] ∧ ∃ oa cap, v = .slice oa 0 cap) ∨ ∃ g cap, v = .slice (some ⟨g, 0, none⟩) L.length cap ∧ g < W.heap.size ∧ ∀ (i : Nat) (h : i < L.length), LAt W ⟨g, i * 3, none⟩ L[i]
theorem LatZ.call {W W' : World} {v : Value} {L : List Lt} (h : LatZ W v L) (hb : Below W.heap.size W W') : LatZ W' v L := by
  rcases h with h | ⟨g, cap, h1, h2, h3⟩
  · exact .inl h
  · exact .inr ⟨g, cap, h1, Nat.lt_of_lt_of_le h2 hb.size, fun i hi => (h3 i hi).below hb h2⟩
theorem LatZ.get {W : World} {ob : Option Addr} {n cap : Nat} {L : List Lt} (h : LatZ W (.slice ob n cap) L) (h0 : 0 < L.length) : ∃ g, ob = some ⟨g, 0, none⟩ ∧ ∀ (i : Nat) (h : i < L.length), LAt W ⟨g, i * 3, none⟩ L[i] := by
  rcases h with ⟨rfl, -⟩ | ⟨g, cap', h1, h2, h3⟩
  · simp at h0
  · injection h1 with h1
    exact ⟨g, h1, h3⟩
theorem latz_lts {W : World} {ob : Option Addr} {cap : Nat} {L : List Lt} (h : Lts W (.slice ob L.length cap) L) (ho : ob = none ∨ ∃ g, ob = some ⟨g, 0, none⟩) : LatZ W (.slice ob L.length cap) L := by
  by_cases h0 : 0 < L.length
  · obtain ⟨a, rfl, h1, h2⟩ := h.cells 0 h0
    rcases ho with ho | ⟨g, ho⟩
    · cases ho
    · injection ho with ho
      subst ho
      refine .inr ⟨g, cap, rfl, h1, fun i hi => ?_⟩
      have := h2 i hi
      rwa [Addr.add_mid, Nat.zero_add] at this
  · have hL : L = [] := List.length_eq_zero_iff.1 (by omega)
    subst hL
    exact .inl ⟨rfl, ob, cap, rfl⟩
theorem latz_own {W : World} {c : Nat} {u : Value} {L : List Lt} (h : OwnL c W u L) (hl : L.length ≤ 1048576) : LatZ W u L := by
  have hT := h.lts hl
  rcases h with ⟨rfl, oa, rfl⟩ | ⟨g, rfl, _, h3⟩
  · exact .inl ⟨rfl, oa, 0, rfl⟩
  · exact latz_lts hT (.inr ⟨g, rfl⟩)
/-- Ints that lie in a row from its block's front on. -/
def IatZ (W : World) (v : Value) (P : List Int) : Prop :=
  (P = [] ∧ ∃ oa cap, v = .slice oa 0 cap) ∨ ∃ g cap, v = .slice (some ⟨g, 0, none⟩) P.length cap ∧ g < W.heap.size ∧ ∀ (i : Nat) (h : i < P.length), W.cell? ⟨g, i, none⟩ = some (.int .i64 P[i])
theorem IatZ.call {W W' : World} {v : Value} {P : List Int} (h : IatZ W v P) (hb : Below W.heap.size W W') : IatZ W' v P := by
  rcases h with h | ⟨g, cap, h1, h2, h3⟩
  · exact .inl h
  · refine .inr ⟨g, cap, h1, Nat.lt_of_lt_of_le h2 hb.size, fun i hi => ?_⟩
    rw [← h3 i hi]
    exact World.cell?_of_block (w := W) (a := ⟨g, i, none⟩) (hb.block g h2)
theorem IatZ.get {W : World} {ob : Option Addr} {n cap : Nat} {P : List Int} (h : IatZ W (.slice ob n cap) P) (h0 : 0 < P.length) : ∃ g, ob = some ⟨g, 0, none⟩ ∧ ∀ (i : Nat) (h : i < P.length), W.cell? ⟨g, i, none⟩ = some (.int .i64 P[i]) := by
  rcases h with ⟨rfl, -⟩ | ⟨g, cap', h1, h2, h3⟩
  · simp at h0
  · injection h1 with h1
    exact ⟨g, h1, h3⟩
theorem IatZ.len {W : World} {v : Value} {P : List Int} (h : IatZ W v P) : ∃ oa cap, v = .slice oa P.length cap := by
  rcases h with ⟨rfl, oa, cap, rfl⟩ | ⟨g, cap', rfl, h2, h3⟩
  · exact ⟨oa, cap, rfl⟩
  · exact ⟨_, cap', rfl⟩
theorem iatz_own {W : World} {base : Nat} {v : Value} {P : List Int} (h : W.ownsRow base 3 1 v P.length (ics P)) : IatZ W v P := by
  have h' := h
  rcases h.2 with ⟨rfl, h0⟩ | ⟨g, cap, cur, rfl, _, hh, hn, hm, _⟩
  · exact .inl ⟨List.length_eq_zero_iff.1 h0, none, 0, by rw [show (0 : Nat) = 0 from rfl]⟩
  · refine .inr ⟨g, cap, rfl, (Array.getElem?_eq_some_iff.1 hh).1, fun i hi => ?_⟩
    have := h'.cells (g := g) rfl i (.int .i64 P[i]) (by simp [ics, hi])
    rwa [Addr.add_mid, Nat.zero_add] at this
/-- The bag in its box, its letters from their block's front on. -/
def PB6 (w : World) (N : Nat) (m : Int) (u : Value) (Y : List Lt) (W : World) : Prop := C2 N (.int .i64 m) u W ∧ LatZ W u Y ∧ Lts W u Y ∧ Below w.heap.size w W
theorem PB6.call {w : World} {N : Nat} {m : Int} {u : Value} {Y : List Lt} {W W' : World} (h : PB6 w N m u Y W) (hb : Below W.heap.size W W') : PB6 w N m u Y W' :=
  ⟨h.1.call hb, h.2.1.call hb, h.2.2.1.call hb, below_after h.2.2.2 hb h.2.2.2.size⟩
theorem bagOk_to {m : Int} {L : List Lt} (h : bagOk m L = true) : ∀ l ∈ L, 0 ≤ l.t ∧ l.t ≤ 20 := by
  intro l hl
  have := (bagOk_iff.1 h).2 l hl
  unfold letOk at this
  rw [Bool.and_eq_true, Bool.and_eq_true, decide_eq_true_iff, decide_eq_true_iff] at this
  exact this.1.2
end Go.Proofs.Ytnfnhgloblfgnaa
