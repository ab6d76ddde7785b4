/-
  Drawn leaves.
-/
import Derived.Test.YtegihccdpohnnaaTxt
import Derived.Test.YtegihccdpohnnaaMany
import Derived.Laws.OwnMore
namespace Go.Proofs.Ytegihccdpohnnaa
open Go.RowKit

/-- Texts as values. -/
def tcs (S : List ByteArray) : List Value := S.map Value.string
theorem tcs_len (S : List ByteArray) : (tcs S).length = S.length * 1 := by simp [tcs]
theorem tcs_append (S : List ByteArray) (s : ByteArray) : tcs (S ++ [s]) = tcs S ++ [.string s] := by simp [tcs]
theorem owt_len {W : World} {base n : Nat} {v : Value} {xs : List Value} (h : W.ownsRow base 9 1 v n xs) : ∃ a cap, v = .slice a n cap := by
  rcases h.2 with ⟨rfl, rfl⟩ | ⟨g, cap, cur, rfl, _⟩
  · exact ⟨none, 0, rfl⟩
  · exact ⟨_, cap, rfl⟩
theorem own_txt {W : World} {base : Nat} {v : Value} {S : List ByteArray} (h : W.ownsRow base 9 1 v S.length (tcs S)) : Txt W v S := by
  rcases id h.2 with ⟨rfl, h0⟩ | ⟨g, cap, cur, rfl, hg, hh, hn, hm, hs, ht⟩
  · exact .inl ⟨rfl, List.length_eq_zero_iff.1 h0⟩
  · refine .inr ⟨⟨g, 0, none⟩, cap, rfl, hn, hm, fun _ => (h.lt g rfl).2, fun i hi => ?_⟩
    rw [Addr.add_mid, Nat.zero_add, h.cellAt i (by omega)]
    simp [tcs]
theorem own_call9 {W W' : World} {base n : Nat} {v : Value} {xs : List Value} (h : W.ownsRow base 9 1 v n xs) (hb : Below W.heap.size W W') : W'.ownsRow base 9 1 v n xs :=
  h.kept (w' := W') (row := none) ⟨hb.os, hb.tape, hb.output, hb.size, fun k hk _ => hb.block k hk⟩ (by
    cases hv : v.ownBlock with
    | none => exact .inl rfl
    | some k => exact .inr (fun e => by cases e))
/-- append(b, s), b a row of texts of the call's own, s one text. -/
theorem wpList_append_txt {w : World} {ops : Array Oper} {rest : List Oper} {o : Oper} {a : Act} {Q : Exit → Act → World → Prop} (hgd : o.guard = none) (s x : Operand)
    (ho : o.op = .call { callee := .builtin .append, args := #[s, x], argTypes := #[22, 22] })
    (base : Nat) (v : Value) (S : List ByteArray) (q : ByteArray) (hs : a.eval s = v) (hown : w.ownsRow base 9 1 v S.length (tcs S))
    (B : Nat) (hx : a.eval x = .slice (some ⟨B, 0, none⟩) 1 1) (hc : w.cell? ⟨B, 0, none⟩ = some (.string q))
    (hlen : S.length ≤ 1048576) (hbase : base ≤ w.heap.size)
    (h : ∀ v' w', w'.ownsRow base 9 1 v' (S ++ [q]).length (tcs (S ++ [q])) → w.grownBy w' v.ownBlock → wpList Try.prog ops Q rest (a.put o.dst v') w') : wpList Try.prog ops Q (o :: rest) a w := by
  obtain ⟨i0, hi, hz0, hz1, hz2⟩ := info_parts info9
  refine wpList_append_own w hgd s x 22 ho base 9 i0 _ 1 16 Try.underlying22 hi hz0 hz1 hz2 rfl (by decide) v S.length (tcs S) hs hown ⟨B, 0, none⟩ 1 1 [.string q] hx rfl ?_ ?_ (by unfold maxLen; omega) (by omega) hbase ?_
  · intro j u hj
    match j, hj with
    | 0, hj => simp at hj; subst hj; simpa [Addr.add] using hc
  · intro u hu; simp at hu; subst hu; rfl
  · intro v' w' h1 h2 _
    refine h v' w' ?_ h2
    rw [tcs_append, List.length_append]
    exact h1
/-- A reader of leaves in the block X, over a reader in the block B. -/
def LRd (X B : Nat) (v : Value) (L : List UInt8) (p : Nat) (W : World) : Prop := RdAt B v L p W ∧ B < X ∧ X < W.heap.size ∧ W.cell? ⟨X, 0, none⟩ = some (.pointer (some ⟨B, 0, none⟩))
theorem LRd.next {X B p p' : Nat} {v : Value} {L : List UInt8} {W W' : World} (h : LRd X B v L p W) (h' : RdAt B v L p' W') (hg : W.grownBy W' (some B)) : LRd X B v L p' W' :=
  ⟨h', h.2.1, Nat.lt_of_lt_of_le h.2.2.1 hg.size, hg.cell h.2.2.2 (fun e => by have e' : X = B := (by injection e); have := h.2.1; omega)⟩
theorem grown_two {W W1 W2 : World} {r : Option Nat} (h : W.grownBy W1 r) (h' : W1.grownBy W2 r) : W.grownBy W2 r :=
  ⟨h'.os.trans h.os, h'.tape.trans h.tape, h'.output.trans h.output, Nat.le_trans h.size h'.size, fun k hk hne => (h'.block k (Nat.lt_of_lt_of_le hk h.size) hne).trans (h.block k hk hne)⟩
/-- What was handed in stands, but for the block B; what is new lies behind. -/
theorem grown_row {W W1 W2 : World} {B : Nat} {r : Option Nat} (h : W.grownBy W1 (some B)) (h' : W1.grownBy W2 r) (hr : ∀ k, r = some k → W.heap.size ≤ k) : W.grownBy W2 (some B) :=
  ⟨h'.os.trans h.os, h'.tape.trans h.tape, h'.output.trans h.output, Nat.le_trans h.size h'.size, fun k hk hne => (h'.block k (Nat.lt_of_lt_of_le hk h.size) (fun e => by have := hr k e.symm; omega)).trans (h.block k hk hne)⟩
theorem RdAt.row {B : Nat} {v : Value} {L : List UInt8} {p : Nat} {W W' : World} {r : Option Nat} (h : RdAt B v L p W) (g : W.grownBy W' r) (hr : ∀ k, r = some k → B < k) : RdAt B v L p W' := by
  obtain ⟨h0, h1, h2, h3, h4, h5⟩ := h
  have nB : some B ≠ r := fun e => by have := hr B e.symm; omega
  refine ⟨Nat.lt_of_lt_of_le h0 g.size, g.cell h1 nB, g.cell h2 nB, (World.frozen?_of_block (a := ⟨B, 1, none⟩) (g.block B h0 nB)).trans h3, h4, ?_⟩
  rcases h5 with h5 | ⟨a, cap, hv, hl, hb, hc⟩
  · exact .inl h5
  · exact .inr ⟨a, cap, hv, hl, hb, fun i hi => g.cell (hc i hi) (fun e => by
      have e2 : (a.add i).block = a.block := add_block a i
      have := hr _ e.symm
      omega)⟩
theorem LRd.row {X B p : Nat} {v : Value} {L : List UInt8} {W W' : World} {r : Option Nat} (h : LRd X B v L p W) (g : W.grownBy W' r) (hr : ∀ k, r = some k → X < k) : LRd X B v L p W' :=
  ⟨h.1.row g (fun k e => Nat.lt_trans h.2.1 (hr k e)), h.2.1, Nat.lt_of_lt_of_le h.2.2.1 g.size, g.cell h.2.2.2 (fun e => by have := hr X e.symm; omega)⟩
/-- What stands ahead of each round of leaves. -/
def LV (W : World) (X B : Nat) (v : Value) (L : List UInt8) (p : Nat) (u : Value) (S : List ByteArray) (wr : World) : Prop :=
  wr.ownsRow W.heap.size 9 1 u S.length (tcs S) ∧ LRd X B v L p wr ∧ W.grownBy wr (some B) ∧ ∀ s ∈ S, s.size ≤ 100000
end Go.Proofs.Ytegihccdpohnnaa
