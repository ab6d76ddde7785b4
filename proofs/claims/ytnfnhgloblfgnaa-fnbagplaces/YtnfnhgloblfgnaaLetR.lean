/-
  Rows of letters of a call's own: one more; what they hold.
-/
import Derived.Test.YtnfnhgloblfgnaaJoinB8
import Derived.Laws.OwnMore
namespace Go.Proofs.Ytnfnhgloblfgnaa
open Go.RowKit

def lc (l : Lt) : List Value := [.int .i64 l.f, .int .i64 l.t, .string l.s]
def lcs : List Lt → List Value
  | [] => []
  | l :: r => lc l ++ lcs r
theorem lcs_append : ∀ a b : List Lt, lcs (a ++ b) = lcs a ++ lcs b
  | [], b => rfl
  | l :: a, b => by simp [lcs, lcs_append a b]
theorem lcs_len : ∀ a : List Lt, (lcs a).length = a.length * 3
  | [] => rfl
  | l :: a => by simp only [lcs, List.length_append, lcs_len a, lc, List.length_cons, List.length_nil]; omega
theorem lcs_get : ∀ (L : List Lt) (i t : Nat) (h : i < L.length), t < 3 → (lcs L)[i * 3 + t]? = (lc L[i])[t]?
  | [], _, _, h, _ => by simp at h
  | l :: L, 0, t, _, ht => by
    simp only [lcs, Nat.zero_mul, Nat.zero_add, List.getElem_cons_zero]
    rw [List.getElem?_append_left (by simp [lc]; omega)]
  | l :: L, i + 1, t, h, ht => by
    simp only [lcs, List.getElem_cons_succ]
    rw [List.getElem?_append_right (by simp [lc]; omega)]
    have e : (i + 1) * 3 + t - (lc l).length = i * 3 + t := by simp only [lc, List.length_cons, List.length_nil]; omega
    rw [e]
    exact lcs_get L i t (by simpa using h) ht
theorem own_lat {W : World} {base g cap : Nat} {L : List Lt} (h : W.ownsRow base 32 3 (.slice (some ⟨g, 0, none⟩) L.length cap) L.length (lcs L)) (i : Nat) (hi : i < L.length) : LAt W ⟨g, i * 3, none⟩ L[i] := by
  have hc : ∀ t, t < 3 → ∀ u, (lc L[i])[t]? = some u → W.cell? ⟨g, i * 3 + t, none⟩ = some u := fun t ht u hu => by
    have := h.cells (g := g) rfl (i * 3 + t) u (by rw [lcs_get L i t hi ht]; exact hu)
    rwa [Addr.add_mid, Nat.zero_add] at this
  exact ⟨hc 0 (by omega) _ rfl, hc 1 (by omega) _ rfl, hc 2 (by omega) _ rfl⟩
theorem owl_len {W : World} {base n : Nat} {v : Value} {xs : List Value} (h : W.ownsRow base 32 3 v n xs) : ∃ a cap, v = .slice a n cap := by
  rcases h.2 with ⟨hv, h0⟩ | ⟨g, cap, cur, hv, _⟩
  · exact ⟨none, 0, by rw [hv, h0]⟩
  · exact ⟨_, cap, hv⟩
theorem own_lts {W : World} {base : Nat} {v : Value} {L : List Lt} (h : W.ownsRow base 32 3 v L.length (lcs L)) : Lts W v L := by
  have h' := h
  rcases h.2 with ⟨rfl, h0⟩ | ⟨g, cap, cur, rfl, _, hh, hn, hm, _⟩
  · exact .inl ⟨rfl, List.length_eq_zero_iff.1 h0⟩
  · refine .inr ⟨⟨g, 0, none⟩, cap, rfl, hn, hm, fun _ => (Array.getElem?_eq_some_iff.1 hh).1, fun i hi => ?_⟩
    rw [Addr.add_mid, Nat.zero_add]
    exact own_lat h' i hi
theorem own_callL {W W' : World} {base n : Nat} {v : Value} {xs : List Value} (h : W.ownsRow base 32 3 v n xs) (hb : Below W.heap.size W W') : W'.ownsRow base 32 3 v n xs :=
  h.kept (w' := W') (row := none) ⟨hb.os, hb.tape, hb.output, hb.size, fun k hk _ => hb.block k hk⟩ (by
    cases hv : v.ownBlock with
    | none => exact .inl rfl
    | some k => exact .inr (fun e => by cases e))
theorem lc_cells {V : World} {B : Nat} {l : Lt} (h0 : V.cell? ⟨B, 0, none⟩ = some (.int .i64 l.f)) (h1 : V.cell? ⟨B, 1, none⟩ = some (.int .i64 l.t)) (h2 : V.cell? ⟨B, 2, none⟩ = some (.string l.s)) :
    ∀ j u, (lc l)[j]? = some u → V.cell? ((⟨B, 0, none⟩ : Addr).add j) = some u := by
  intro j u hu
  have hj : j < 3 := (List.getElem?_eq_some_iff.1 hu).1
  rw [Addr.add_mid, Nat.zero_add]
  rcases (by omega : j = 0 ∨ j = 1 ∨ j = 2) with rfl | rfl | rfl <;> simp [lc] at hu <;> subst hu <;> assumption
theorem lc_one {l : Lt} : ∀ u ∈ lc l, u.oneCell' = true := by
  intro u hu
  simp only [lc, List.mem_cons, List.not_mem_nil, or_false] at hu
  rcases hu with rfl | rfl | rfl <;> rfl
/-- append(b, l), b a row of letters of the call's own, l one letter. -/
theorem wpList_append_let {w : World} {ops : Array Oper} {rest : List Oper} {o : Oper} {a : Act} {Q : Exit → Act → World → Prop} (hgd : o.guard = none) (s x : Operand)
    (ho : o.op = .call { callee := .builtin .append, args := #[s, x], argTypes := #[23, 23] })
    (base : Nat) (v : Value) (K : List Lt) (l : Lt) (hs : a.eval s = v) (hown : w.ownsRow base 32 3 v K.length (lcs K))
    (B : Nat) (hx : a.eval x = .slice (some ⟨B, 0, none⟩) 1 1) (hc : ∀ j u, (lc l)[j]? = some u → w.cell? ((⟨B, 0, none⟩ : Addr).add j) = some u)
    (hlen : K.length ≤ 1048576) (hbase : base ≤ w.heap.size)
    (h : ∀ v' w', w'.ownsRow base 32 3 v' (K ++ [l]).length (lcs (K ++ [l])) → w.grownBy w' v.ownBlock → wpList Try.prog ops Q rest (a.put o.dst v') w') : wpList Try.prog ops Q (o :: rest) a w := by
  obtain ⟨i0, hi, hz0, hz1, hz2⟩ := info_parts infoL
  refine wpList_append_own w hgd s x 23 ho base 32 i0 _ 3 32 Try.underlying23 hi hz0 hz1 hz2 rfl (by decide) v K.length (lcs K) hs hown ⟨B, 0, none⟩ 1 1 (lc l) hx rfl hc lc_one (by unfold maxLen; omega) (by omega) hbase ?_
  intro v' w' h1 h2 _
  refine h v' w' ?_ h2
  rw [lcs_append, List.length_append]
  simpa [lcs] using h1
/-- A network in the block N: its lock's word, room, letters, how many were lost. -/
def Nw (N : Nat) (k : Int) (m : Int) (v : Value) (c : Int) (W : World) : Prop :=
  N < W.heap.size ∧ (W.cell? ⟨N, 0, none⟩ = some (.int .i32 k) ∧ W.cell? ⟨N, 1, none⟩ = some (.int .u32 0) ∧ W.cell? ⟨N, 2, none⟩ = some (.int .i64 m) ∧ W.cell? ⟨N, 3, none⟩ = some v ∧ W.cell? ⟨N, 4, none⟩ = some (.int .i64 c)) ∧
    W.frozen? ⟨N, 0, none⟩ = false ∧ W.frozen? ⟨N, 3, none⟩ = false ∧ W.frozen? ⟨N, 4, none⟩ = false
theorem Nw.new (W : World) (m : Int) (v : Value) (t : TypeId) : Nw W.heap.size 0 m v 0 (W.alloc (.cells #[.int .i32 0, .int .u32 0, .int .i64 m, v, .int .i64 0] t)) := by
  refine ⟨by simp, ⟨?_, ?_, ?_, ?_, ?_⟩, ?_, ?_, ?_⟩ <;> simp [go_sem]
theorem Nw.call {N : Nat} {k m c : Int} {v : Value} {W W' : World} (h : Nw N k m v c W) (hb : Below W.heap.size W W') : Nw N k m v c W' := by
  obtain ⟨h0, ⟨h1, h2, h3, h4, h5⟩, f0, f3, f4⟩ := h
  exact ⟨Nat.lt_of_lt_of_le h0 hb.size, ⟨(hb.cell (p := ⟨N, 0, none⟩) h0).trans h1, (hb.cell (p := ⟨N, 1, none⟩) h0).trans h2, (hb.cell (p := ⟨N, 2, none⟩) h0).trans h3, (hb.cell (p := ⟨N, 3, none⟩) h0).trans h4, (hb.cell (p := ⟨N, 4, none⟩) h0).trans h5⟩, (hb.frozen (p := ⟨N, 0, none⟩) h0).trans f0, (hb.frozen (p := ⟨N, 3, none⟩) h0).trans f3, (hb.frozen (p := ⟨N, 4, none⟩) h0).trans f4⟩
theorem Nw.grown {N : Nat} {k m c : Int} {v : Value} {W W' : World} {row : Option Nat} (h : Nw N k m v c W) (hg : W.grownBy W' row) (hr : row ≠ some N) : Nw N k m v c W' := by
  obtain ⟨h0, ⟨h1, h2, h3, h4, h5⟩, f0, f3, f4⟩ := h
  have hb : W'.heap[N]? = W.heap[N]? := hg.block N h0 (fun e => hr e.symm)
  exact ⟨Nat.lt_of_lt_of_le h0 hg.size, ⟨(World.cell?_of_block (w := W) (a := ⟨N, 0, none⟩) hb).trans h1, (World.cell?_of_block (w := W) (a := ⟨N, 1, none⟩) hb).trans h2, (World.cell?_of_block (w := W) (a := ⟨N, 2, none⟩) hb).trans h3, (World.cell?_of_block (w := W) (a := ⟨N, 3, none⟩) hb).trans h4, (World.cell?_of_block (w := W) (a := ⟨N, 4, none⟩) hb).trans h5⟩, (World.frozen?_of_block (w := W) (a := ⟨N, 0, none⟩) hb).trans f0, (World.frozen?_of_block (w := W) (a := ⟨N, 3, none⟩) hb).trans f3, (World.frozen?_of_block (w := W) (a := ⟨N, 4, none⟩) hb).trans f4⟩
end Go.Proofs.Ytnfnhgloblfgnaa
