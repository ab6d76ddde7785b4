/-
  A stack of digests: made, popped.
-/
import Derived.Test.YtdpbgcilkidbaaaDoorDgs
import Derived.Laws.AppendOwn
import Derived.WalkSmall
namespace Go.Proofs.YtdpbgcilkidbaaaDoor
open Go.RowKit

/-- The cells of digests. -/
def qc (q : Qd) : List Value := [Value.int IntKind.u64 ((q.a).toNat : Int), Value.int IntKind.u64 ((q.b).toNat : Int), Value.int IntKind.u64 ((q.c).toNat : Int), Value.int IntKind.u64 ((q.d).toNat : Int)]
def qcs : List Qd → List Value
  | [] => []
  | q :: r => qc q ++ qcs r
theorem qcs_append : ∀ a b : List Qd, qcs (a ++ b) = qcs a ++ qcs b
  | [], b => rfl
  | q :: a, b => by simp [qcs, qcs_append a b]
theorem qcs_len : ∀ a : List Qd, (qcs a).length = a.length * 4
  | [] => rfl
  | q :: a => by simp only [qcs, List.length_append, qcs_len a, qc, List.length_cons, List.length_nil]; omega
theorem qcs_get : ∀ (L : List Qd) (i t : Nat) (h : i < L.length), t < 4 → (qcs L)[i * 4 + t]? = (qc L[i])[t]?
  | [], _, _, h, _ => by simp at h
  | q :: L, 0, t, _, ht => by
    simp only [qcs, Nat.zero_mul, Nat.zero_add, List.getElem_cons_zero]
    rw [List.getElem?_append_left (by simp [qc]; omega)]
  | q :: L, i + 1, t, h, ht => by
    simp only [qcs, List.getElem_cons_succ]
    rw [List.getElem?_append_right (by simp [qc]; omega)]
    have e : (i + 1) * 4 + t - (qc q).length = i * 4 + t := by simp only [qc, List.length_cons, List.length_nil]; omega
    rw [e]
    exact qcs_get L i t (by simpa using h) ht
theorem qcs_one {u : Value} : ∀ {L : List Qd}, u ∈ qcs L → u.oneCell' = true
  | [], h => by simp [qcs] at h
  | q :: L, h => by
    rcases List.mem_append.1 h with h | h
    · simp only [qc, List.mem_cons, List.not_mem_nil, or_false] at h
      rcases h with rfl | rfl | rfl | rfl <;> rfl
    · exact qcs_one h
/-- A slice that the call owns holds its digests. -/
theorem own_dat {W : World} {base g cap : Nat} {L : List Qd} (h : W.ownsRow base 32 4 (.slice (some ⟨g, 0, none⟩) L.length cap) L.length (qcs L)) (i : Nat) (hi : i < L.length) : DAt W ⟨g, i * 4, none⟩ L[i] := by
  have hc : ∀ t, t < 4 → ∀ u, (qc L[i])[t]? = some u → W.cell? ⟨g, i * 4 + t, none⟩ = some u := fun t ht u hu => by
    have := h.cells (g := g) rfl (i * 4 + t) u (by rw [qcs_get L i t hi ht]; exact hu)
    rwa [Addr.add_mid, Nat.zero_add] at this
  exact ⟨hc 0 (by omega) _ rfl, hc 1 (by omega) _ rfl, hc 2 (by omega) _ rfl, hc 3 (by omega) _ rfl⟩
theorem own_cap {W : World} {base g cap n : Nat} {xs : List Value} (h : W.ownsRow base 32 4 (.slice (some ⟨g, 0, none⟩) n cap) n xs) : n ≤ cap ∧ cap ≤ maxLen := by
  rcases h.2 with ⟨h0, _⟩ | ⟨g', cap', cur, hv, _, _, hn, hm, _⟩
  · cases h0
  · cases hv; exact ⟨hn, hm⟩
theorem own_slice {W : World} {base n : Nat} {v : Value} {xs : List Value} (h : W.ownsRow base 32 4 v n xs) (hn : 0 < n) : ∃ g cap, v = .slice (some ⟨g, 0, none⟩) n cap := by
  rcases h.2 with ⟨_, h0⟩ | ⟨g, cap, cur, hv, _⟩
  · omega
  · exact ⟨g, cap, hv⟩
theorem own_len {W : World} {base n : Nat} {v : Value} {xs : List Value} (h : W.ownsRow base 32 4 v n xs) : ∃ a cap, v = .slice a n cap := by
  rcases h.2 with ⟨hv, h0⟩ | ⟨g, cap, cur, hv, _⟩
  · exact ⟨none, 0, by rw [hv, h0]⟩
  · exact ⟨_, cap, hv⟩
theorem own_dgs {W : World} {base : Nat} {v : Value} {L : List Qd} (h : W.ownsRow base 32 4 v L.length (qcs L)) : Dgs W v L := by
  have h' := h
  rcases h.2 with ⟨rfl, h0⟩ | ⟨g, cap, cur, rfl, _, hh, hn, hm, _⟩
  · exact .inl ⟨rfl, List.length_eq_zero_iff.1 h0⟩
  · refine .inr ⟨⟨g, 0, none⟩, cap, rfl, hn, hm, fun _ => (Array.getElem?_eq_some_iff.1 hh).1, fun i hi => ?_⟩
    rw [Addr.add_mid, Nat.zero_add]
    exact own_dat h' i hi

/-- The block Bs is a stack of the digests L; what it has lies from the block base on, and in no block of av. -/
def Stk (base Bs : Nat) (av : Nat → Prop) (L : List Qd) (W : World) : Prop :=
  base ≤ Bs ∧ Bs < W.heap.size ∧ W.frozen? ⟨Bs, 0, none⟩ = false ∧ ∃ v, W.cell? ⟨Bs, 0, none⟩ = some v ∧ (∀ k, v.ownBlock = some k → k ≠ Bs ∧ ¬ av k) ∧ W.ownsRow base 32 4 v L.length (qcs L)
theorem Stk.grown {base Bs : Nat} {av : Nat → Prop} {L : List Qd} {W W' : World} (h : Stk base Bs av L W) (hb : Below W.heap.size W W') : Stk base Bs av L W' := by
  obtain ⟨h0, h1, h2, v, h3, h4, h5⟩ := h
  refine ⟨h0, Nat.lt_of_lt_of_le h1 hb.size, (hb.frozen (p := ⟨Bs, 0, none⟩) h1).trans h2, v, (hb.cell (p := ⟨Bs, 0, none⟩) h1).trans h3, h4, ?_⟩
  refine h5.kept (w' := W') (row := none) ⟨hb.os, hb.tape, hb.output, hb.size, fun k hk _ => hb.block k hk⟩ ?_
  cases hv : v.ownBlock with
  | none => exact .inl rfl
  | some k => exact .inr (by simp)

theorem grown_set (W : World) (B o : Nat) (v : Value) : W.grownBy (W.setCell ⟨B, o, none⟩ v) (some B) :=
  ⟨rfl, rfl, rfl, by simp only [World.size_setCell]; exact Nat.le_refl _, fun k _ hne => Below.heap_setCell _ _ _ _ (fun e => hne (by rw [e]))⟩
theorem grown_below {W W1 W2 : World} {row : Option Nat} (h : W.grownBy W1 row) (hb : Below W1.heap.size W1 W2) : W.grownBy W2 row :=
  ⟨hb.os.trans h.os, hb.tape.trans h.tape, hb.output.trans h.output, Nat.le_trans h.size hb.size, fun k hk hne => (hb.block k (Nat.lt_of_lt_of_le hk h.size)).trans (h.block k hk hne)⟩

theorem Stk.set {base Bs : Nat} {av : Nat → Prop} {L : List Qd} {W : World} (h : Stk base Bs av L W) (X o : Nat) (x : Value) (hX : X ≠ Bs) (ha : av X) : Stk base Bs av L (W.setCell ⟨X, o, none⟩ x) := by
  obtain ⟨h0, h1, h2, v, h3, h4, h5⟩ := h
  refine ⟨h0, by simp only [World.size_setCell]; exact h1, by rw [World.frozen?_setCell]; exact h2, v, c_set h3 hX, h4, h5.kept (grown_set W X o x) (.inr (fun e => (h4 X e).2 ha))⟩
theorem own_base {W : World} {base base' n : Nat} {v : Value} {xs : List Value} (h : W.ownsRow base 32 4 v n xs) (hb : base' ≤ base) : W.ownsRow base' 32 4 v n xs := by
  refine ⟨h.1, ?_⟩
  rcases h.2 with h0 | ⟨g, cap, cur, hv, hg, r⟩
  · exact .inl h0
  · exact .inr ⟨g, cap, cur, hv, Nat.le_trans hb hg, r⟩
/-- A stack in a new block. -/
theorem Stk.new {W : World} {base base' : Nat} {u : Value} {L : List Qd} (t : TypeId) (h : W.ownsRow base' 32 4 u L.length (qcs L)) (hb : base ≤ base') (hW : base ≤ W.heap.size) :
    Stk base W.heap.size (fun k => W.heap.size ≤ k) L (W.alloc (.cells #[u] t)) := by
  refine ⟨hW, by simp, by simp [go_sem], u, by simp [go_sem], fun k e => ?_, (own_base h hb).alloc _⟩
  have := (h.lt k e).2
  exact ⟨by omega, by omega⟩
/-- The last digest, or noughts. -/
def lastD : List Qd → Qd
  | [] => ⟨0, 0, 0, 0⟩
  | [q] => q
  | _ :: q :: r => lastD (q :: r)
theorem lastD_snoc : ∀ (L : List Qd) (q : Qd), lastD (L ++ [q]) = q
  | [], _ => rfl
  | [_], _ => rfl
  | _ :: b :: r, q => lastD_snoc (b :: r) q
end Go.Proofs.YtdpbgcilkidbaaaDoor
