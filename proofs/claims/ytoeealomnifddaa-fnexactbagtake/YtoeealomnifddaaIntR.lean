/-
  Lists of numbers: one more, compared, marked, looked at again.
-/
import Derived.Test.YtoeealomnifddaaMarkS
import Derived.Laws.OwnMore
import Derived.Deep.RegionHeld3
namespace Go.Proofs.Ytoeealomnifddaa
open Go.RowKit

def ics (X : List Int) : List Value := X.map (Value.int .i64)
theorem ics_len (X : List Int) : (ics X).length = X.length * 1 := by simp [ics]
theorem ics_append (X : List Int) (x : Int) : ics (X ++ [x]) = ics X ++ [.int .i64 x] := by simp [ics]
theorem infoI : (Try.prog.info? 3).map (fun i => (i.zero, i.size, i.bytes)) = some (some (.int .i64 0), 1, 8) := by kernel_rfl
/-- The slice v holds the numbers X. -/
def Its (W : World) (v : Value) (X : List Int) : Prop :=
  (v = .slice none 0 0 ∧ X = []) ∨ ∃ (a : Addr) (cap : Nat), v = .slice (some a) X.length cap ∧ X.length ≤ cap ∧ cap ≤ maxLen ∧ (0 < X.length → a.block < W.heap.size) ∧ ∀ (i : Nat) (h : i < X.length), W.cell? (a.add i) = some (.int .i64 X[i])
theorem Its.call {W W' : World} {v : Value} {X : List Int} (h : Its W v X) (hb : Below W.heap.size W W') : Its W' v X := by
  rcases h with h | ⟨a, cap, hv, hl, hm, hbl, hc⟩
  · exact .inl h
  · refine .inr ⟨a, cap, hv, hl, hm, fun h0 => Nat.lt_of_lt_of_le (hbl h0) hb.size, fun i hi => ?_⟩
    rw [hb.cell (p := a.add i) (by rw [add_block]; exact hbl (by omega))]
    exact hc i hi
theorem Its.len {W : World} {v : Value} {X : List Int} (h : Its W v X) : ∃ a cap, v = .slice a X.length cap ∧ X.length ≤ 9223372036854775807 := by
  rcases h with ⟨rfl, rfl⟩ | ⟨a, cap, rfl, hl, hm, _⟩
  · exact ⟨none, 0, rfl, by simp⟩
  · exact ⟨some a, cap, rfl, by unfold maxLen at hm; omega⟩
theorem owi_len {W : World} {base n : Nat} {v : Value} {xs : List Value} (h : W.ownsRow base 3 1 v n xs) : ∃ a cap, v = .slice a n cap := by
  rcases h.2 with ⟨rfl, rfl⟩ | ⟨g, cap, cur, rfl, _⟩
  · exact ⟨none, 0, rfl⟩
  · exact ⟨_, cap, rfl⟩
theorem own_its {W : World} {base : Nat} {v : Value} {X : List Int} (h : W.ownsRow base 3 1 v X.length (ics X)) : Its W v X := by
  rcases id h.2 with ⟨rfl, h0⟩ | ⟨g, cap, cur, rfl, hg, hh, hn, hm, hs, ht⟩
  · exact .inl ⟨rfl, List.length_eq_zero_iff.1 h0⟩
  · refine .inr ⟨⟨g, 0, none⟩, cap, rfl, hn, hm, fun _ => (h.lt g rfl).2, fun i hi => ?_⟩
    rw [Addr.add_mid, Nat.zero_add, h.cellAt i (by omega)]
    simp [ics]
theorem own_callI {W W' : World} {base n : Nat} {v : Value} {xs : List Value} (h : W.ownsRow base 3 1 v n xs) (hb : Below W.heap.size W W') : W'.ownsRow base 3 1 v n xs :=
  h.kept (w' := W') (row := none) ⟨hb.os, hb.tape, hb.output, hb.size, fun k hk _ => hb.block k hk⟩ (by
    cases hv : v.ownBlock with
    | none => exact .inl rfl
    | some k => exact .inr (fun e => by cases e))
/-- append(b, x), b a row of numbers of the call's own, x one number. -/
theorem wpList_append_int {w : World} {ops : Array Oper} {rest : List Oper} {o : Oper} {a : Act} {Q : Exit → Act → World → Prop} (hgd : o.guard = none) (s x : Operand)
    (ho : o.op = .call { callee := .builtin .append, args := #[s, x], argTypes := #[43, 43] })
    (base : Nat) (v : Value) (X : List Int) (q : Int) (hs : a.eval s = v) (hown : w.ownsRow base 3 1 v X.length (ics X))
    (B : Nat) (hx : a.eval x = .slice (some ⟨B, 0, none⟩) 1 1) (hc : w.cell? ⟨B, 0, none⟩ = some (.int .i64 q))
    (hlen : X.length ≤ 1048576) (hbase : base ≤ w.heap.size)
    (h : ∀ v' w', w'.ownsRow base 3 1 v' (X ++ [q]).length (ics (X ++ [q])) → w.grownBy w' v.ownBlock → wpList Try.prog ops Q rest (a.put o.dst v') w') : wpList Try.prog ops Q (o :: rest) a w := by
  obtain ⟨i0, hi, hz0, hz1, hz2⟩ := info_parts infoI
  refine wpList_append_own w hgd s x 43 ho base 3 i0 _ 1 8 Try.underlying43 hi hz0 hz1 hz2 rfl (by decide) v X.length (ics X) hs hown ⟨B, 0, none⟩ 1 1 [.int .i64 q] hx rfl ?_ ?_ (by unfold maxLen; omega) (by omega) hbase ?_
  · intro j u hj
    match j, hj with
    | 0, hj => simp at hj; subst hj; simpa [Addr.add] using hc
  · intro u hu; simp at hu; subst hu; rfl
  · intro v' w' h1 h2 _
    refine h v' w' ?_ h2
    rw [ics_append, List.length_append]
    exact h1
/-- The marks from k on lie in the list u of n numbers, and end at r. -/
def HeldI (W : World) (u : Value) (n k r : Nat) : Prop := r = k + n ∧ ((n = 0 ∧ ∃ oa cap, u = .slice oa 0 cap) ∨ ∃ g cap, u = .slice (some ⟨g, 0, none⟩) n cap ∧ g < W.heap.size ∧ ∀ i, i < n → W.cell? ⟨g, i, none⟩ = some (.int .i64 ((k + i : Nat) : Int)))
theorem HeldI.call {W W' : World} {u : Value} {n k r : Nat} (h : HeldI W u n k r) (hb : Below W.heap.size W W') : HeldI W' u n k r := by
  obtain ⟨hr, h0 | ⟨g, cap, e, hg, hd⟩⟩ := h
  · exact ⟨hr, .inl h0⟩
  · exact ⟨hr, .inr ⟨g, cap, e, Nat.lt_of_lt_of_le hg hb.size, fun i hi => (hb.cell (p := ⟨g, i, none⟩) hg).trans (hd i hi)⟩⟩
end Go.Proofs.Ytoeealomnifddaa
