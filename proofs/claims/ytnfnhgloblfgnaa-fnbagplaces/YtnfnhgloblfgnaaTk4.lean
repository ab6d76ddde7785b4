/-
  A letter taken out of a network, wherever it lies; BagTake of the program.
-/
import Derived.Test.YtnfnhgloblfgnaaTk3
namespace Go.Proofs.Ytnfnhgloblfgnaa
open Go.RowKit

/-- The letters that are left, the letter, whether there was one. -/
def tk (L : List Lt) (k : Int) : List Lt × Lt × Bool :=
  if h : 0 < L.length then (less L (bpos k L.length), L[bpos k L.length]'(bpos_lt k _ h), true) else ([], ⟨0, 0, ByteArray.empty⟩, false)
/-- What BagTake tells: the room, the letters, the letter, whether there was one. -/
def btake (m : Int) (L : List Lt) (k : Int) : Int × List Lt × Lt × Bool :=
  if bagOk m L = true then (m, (tk L k).1, (tk L k).2.1, (tk L k).2.2) else (0, [], ⟨0, 0, ByteArray.empty⟩, false)
/-- What take leaves of the letters. -/
def Left (base N : Nat) (m c : Int) (oc : Option Addr) (q : Nat) (Y : List Lt) (W : World) : Prop :=
  Nw N 0 m (.slice oc Y.length q) c W ∧ Y.length ≤ q ∧ q ≤ maxLen ∧ (oc = none → q = 0) ∧ OwnL base W (.slice oc Y.length Y.length) Y ∧ (∀ n k, Value.slice oc Y.length Y.length = .slice (some ⟨N, 0, none⟩) n k → n = 0)
theorem OwnL.front {W : World} {base : Nat} {oa : Option Addr} {L : List Lt} {p : Nat} (h : OwnL base W (.slice oa L.length L.length) L) (hp : p ≤ L.length) : OwnL base W (.slice oa p p) (L.take p) := by
  have hl : (L.take p).length = p := by rw [List.length_take]; omega
  rcases h with ⟨rfl, _, _⟩ | ⟨g, h1, h2, h3, h4, h5⟩
  · obtain rfl : p = 0 := by simpa using hp
    exact .inl ⟨rfl, oa, rfl⟩
  · injection h1 with h1 _ _
    refine .inr ⟨g, by rw [hl, h1], h2, h3, fun i hi => h4 i (by rw [hl] at hi; omega), fun i hi hk => ?_⟩
    have := h5 i (by rw [hl] at hi; omega) (by rw [hl] at hi; omega)
    rwa [List.getElem_take]
theorem take_is (base N : Nat) (m c : Int) (oa : Option Addr) (cap : Nat) (L : List Lt) (k : Int) (w : World) (h : Nw N 0 m (.slice oa L.length cap) c w) (ho : w.ownsRow base 32 3 (.slice oa L.length cap) L.length (lcs L)) (hne : (Value.slice oa L.length cap).ownBlock ≠ some N) (hn : L.length ≤ 1048576) (hb : base ≤ w.heap.size) :
    Calls Try.prog 25 #[.pointer (some ⟨N, 0, none⟩), .int .i64 k] w fun e w' => e = .returned (.tuple #[.agg #[.int .i64 ((tk L k).2.1).f, .int .i64 ((tk L k).2.1).t, .string ((tk L k).2.1).s], .bool (tk L k).2.2]) ∧ ∃ oc q, Left base N m c oc q (tk L k).1 w' ∧ w.grownBy w' (some N) := by
  by_cases hp : 0 < L.length
  · have e : tk L k = (less L (bpos k L.length), L[bpos k L.length]'(bpos_lt k _ hp), true) := by unfold tk; rw [dif_pos hp]
    rw [e]
    clear e
    have hlt := bpos_lt k L.length hp
    obtain ⟨hcap, hcm, -, hblk⟩ := own_parts ho
    obtain ⟨b, rfl, -, -⟩ := (own_lts ho).cells _ hp
    have hap : b.block ≠ N := fun e => hne (by rw [hblk b rfl, e])
    by_cases hl : bpos k L.length + 1 < L.length
    · refine (take_mid N m c b cap L k w h (Rows3.of ho) hap hcap hp hn (own_lts ho) hl).mono ?_
      rintro e w' ⟨rfl, g, q, h1, h2, h3, h4⟩
      obtain ⟨p1, p2, p3, -⟩ := own_parts h3
      have hNw := h.1
      exact ⟨rfl, _, q, ⟨h1, p1, p2, p3, (OwnL.of h3 rfl).down hb, fun n k e => by injection e with e _ _; injection e with e; have e' : g = N := congrArg Addr.block e; omega⟩, h4⟩
    · refine (take_last N m c b cap L k w h hap hcap hp hn (own_lts ho) (by omega)).mono ?_
      rintro e w' ⟨rfl, h1, h4⟩
      have hY : less L (bpos k L.length) = L.take (bpos k L.length) := by
        unfold less
        rw [List.drop_of_length_le (by omega), List.append_nil]
      have hYl : (less L (bpos k L.length)).length = bpos k L.length := by rw [hY, List.length_take]; omega
      have hO := (OwnL.of (ho.kept h4 (.inr hne)) rfl).front (p := bpos k L.length) (by omega)
      refine ⟨rfl, some b, bpos k L.length, ⟨(by rw [hYl]; exact h1), (by show (less L (bpos k L.length)).length ≤ _; omega), (by omega), (fun e => by cases e), (by show OwnL _ _ (.slice _ (less L (bpos k L.length)).length (less L (bpos k L.length)).length) (less L (bpos k L.length)); rw [hYl, hY]; exact hO), fun n k e => ?_⟩, h4⟩
      injection e with e _ _
      injection e with e
      exact absurd (congrArg Addr.block e) hap
  · have hL : L = [] := List.length_eq_zero_iff.1 (by omega)
    subst hL
    have e : tk [] k = ([], ⟨0, 0, ByteArray.empty⟩, false) := by unfold tk; rw [dif_neg (by simp)]
    rw [e]
    obtain ⟨hcap, hcm, hno, -⟩ := own_parts ho
    refine (take_none N m c oa cap k w h).mono ?_
    rintro e w' ⟨rfl, h1, h4⟩
    exact ⟨rfl, oa, cap, ⟨h1, hcap, hcm, hno, .inl ⟨rfl, oa, rfl⟩, fun n k e => by injection e with _ e _; exact e.symm⟩, h4⟩
end Go.Proofs.Ytnfnhgloblfgnaa
