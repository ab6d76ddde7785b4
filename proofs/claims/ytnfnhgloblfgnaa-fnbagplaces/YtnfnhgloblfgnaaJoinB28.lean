/-
  A bag again (the document's copy of a bag).
-/
import Derived.Test.YtnfnhgloblfgnaaNet5
import Derived.Deep.AppendLies
import Derived.Test.YtnfnhgloblfgnaaJoinB21
import Derived.Test.YtnfnhgloblfgnaaLawBD
import Derived.Deep.CutRange
import Derived.Deep.DeepCutAuto
namespace Go.Proofs.Ytnfnhgloblfgnaa
open Go.RowKit

/-- What stands while a bag is copied: the argument's box, the answer's two boxes, the row of the first k letters. -/
def CP (W : World) (m : Int) (v : Value) (L : List Lt) (k : Nat) (ob : Option Addr) (cq : Nat) (wr : World) : Prop :=
  C2 W.heap.size (.int .i64 m) v wr ∧ C2 (W.heap.size + 1) (.int .i64 0) (.slice none 0 0) wr ∧ C2 (W.heap.size + 1 + 1) (.int .i64 m) (.slice ob k cq) wr ∧ wr.ownsRow (W.heap.size + 1 + 1 + 1) 32 3 (.slice ob k cq) k (lcs (L.take k)) ∧ Below W.heap.size W wr
theorem CP.call {W : World} {m : Int} {v : Value} {L : List Lt} {k : Nat} {ob : Option Addr} {cq : Nat} {w1 w2 : World} (h : CP W m v L k ob cq w1) (hb : Below w1.heap.size w1 w2) : CP W m v L k ob cq w2 :=
  ⟨h.1.call hb, h.2.1.call hb, h.2.2.1.call hb, own_callL h.2.2.2.1 hb, below_after h.2.2.2.2 hb h.2.2.2.2.size⟩
theorem CP.new (W : World) (m : Int) (v : Value) (L : List Lt) : CP W m v L 0 none 0 (((W.alloc (.cells #[.int .i64 m, v] 25)).alloc (.cells #[.int .i64 0, .slice none 0 0] 25)).alloc (.cells #[.int .i64 m, .slice none 0 0] 25)) := by
  refine ⟨((C2.new W (.int .i64 m) v 25).alloc _).alloc _, ?_, ?_, World.ownsRow_nil _ _ _ _, (by repeat' (first | (with_reducible exact Below.refl _ _) | (with_reducible assumption) | (with_reducible refine below_drewN ?_ _) | (with_reducible refine Below.setCell ?_ ?_ _) | (with_reducible refine Below.alloc ?_ ?_ _) | (with_reducible refine Below.drew ?_) | go_size))⟩
  · have := (C2.new (W.alloc (.cells #[.int .i64 m, v] 25)) (.int .i64 0) (.slice none 0 0) 25).alloc (.cells #[.int .i64 m, .slice none 0 0] 25)
    rwa [World.size_alloc] at this
  · have := C2.new ((W.alloc (.cells #[.int .i64 m, v] 25)).alloc (.cells #[.int .i64 0, .slice none 0 0] 25)) (.int .i64 m) (.slice none 0 0) 25
    rwa [World.size_alloc, World.size_alloc] at this
/-- One letter appended, and the row stored into the answer's box. -/
theorem CP.more {W : World} {m : Int} {v : Value} {L : List Lt} {k : Nat} {ob : Option Addr} {cq : Nat} {w1 w2 : World} {v' : Value} (hk : k < L.length) (h : CP W m v L k ob cq w1)
    (ho : w2.ownsRow (W.heap.size + 1 + 1 + 1) 32 3 v' (k + 1) (lcs (L.take k) ++ lc L[k])) (hg : w1.grownBy w2 (Value.slice ob k cq).ownBlock) :
    ∃ oc cp, v' = .slice oc (k + 1) cp ∧ C2 (W.heap.size + 1 + 1) (.int .i64 m) (.slice ob k cq) w2 ∧ C2 W.heap.size (.int .i64 m) v w2 ∧ Below W.heap.size W w2 ∧ CP W m v L (k + 1) oc cp (w2.setCell ⟨W.heap.size + 1 + 1, 1, none⟩ (.slice oc (k + 1) cp)) := by
  obtain ⟨h1, h2, h3, h4, h5⟩ := h
  obtain ⟨oc, cp, rfl⟩ := owl_len ho
  have n1 : ∀ j, j < W.heap.size + 1 + 1 + 1 → (Value.slice ob k cq).ownBlock ≠ some j := fun j hj e => by
    have := (h4.lt _ e).1
    omega
  have n2 : ∀ j, j < W.heap.size + 1 + 1 + 1 → (Value.slice oc (k + 1) cp).ownBlock ≠ some j := fun j hj e => by
    have := (ho.lt _ e).1
    omega
  have g3 := h3.grown hg (n1 _ (by omega))
  have gs := grown_set w2 (W.heap.size + 1 + 1) 1 (.slice oc (k + 1) cp)
  refine ⟨oc, cp, rfl, g3, h1.grown hg (n1 _ (by omega)), h5.grown hg h5.size (fun j e => by have := (h4.lt _ e).1; omega), (h1.grown hg (n1 _ (by omega))).set _ _ _ (by omega), (h2.grown hg (n1 _ (by omega))).set _ _ _ (by omega), ?_, ?_, ?_⟩
  · obtain ⟨x0, x1, x2, x3, x4⟩ := g3
    refine ⟨by simpa using x0, ?_, ?_, ?_, ?_⟩ <;> simp [go_sem, x1, x2, x3, x4]
  · have := ho.kept gs (.inr (n2 _ (by omega)))
    rw [List.take_succ_eq_append_getElem hk, lcs_append]
    simpa [lcs] using this
  · exact ((h5.grown hg h5.size (fun j e => by have := (h4.lt _ e).1; omega))).setCell (by show W.heap.size ≤ W.heap.size + 1 + 1; omega) _

end Go.Proofs.Ytnfnhgloblfgnaa

/-
  A letter into a bag (the document's function).
-/
namespace Go.Proofs.Ytnfnhgloblfgnaa
open Go.RowKit

/-- append(b, l), b a row of letters of the call's own, l one letter: and where the new row lies. -/
theorem wpList_append_letA {w : World} {ops : Array Oper} {rest : List Oper} {o : Oper} {a : Act} {Q : Exit → Act → World → Prop} (hgd : o.guard = none) (s x : Operand)
    (ho : o.op = .call { callee := .builtin .append, args := #[s, x], argTypes := #[23, 23] })
    (base : Nat) (v : Value) (K : List Lt) (l : Lt) (hs : a.eval s = v) (hown : w.ownsRow base 32 3 v K.length (lcs K))
    (B : Nat) (hx : a.eval x = .slice (some ⟨B, 0, none⟩) 1 1) (hc : ∀ j u, (lc l)[j]? = some u → w.cell? ((⟨B, 0, none⟩ : Addr).add j) = some u)
    (hlen : K.length ≤ 1048576) (hbase : base ≤ w.heap.size)
    (h : ∀ g cap w', w'.ownsRow base 32 3 (.slice (some ⟨g, 0, none⟩) (K.length + 1) cap) (K.length + 1) (lcs (K ++ [l])) → w.grownBy w' v.ownBlock → (v.ownBlock = some g ∨ g = w.heap.size) → wpList Try.prog ops Q rest (a.put o.dst (.slice (some ⟨g, 0, none⟩) (K.length + 1) cap)) w') : wpList Try.prog ops Q (o :: rest) a w := by
  obtain ⟨i0, hi, hz0, hz1, hz2⟩ := info_parts infoL
  refine wpList_append_lies w hgd s x 23 ho base 32 i0 _ 3 32 Try.underlying23 hi hz0 hz1 hz2 rfl (by decide) v K.length (lcs K) hs hown ⟨B, 0, none⟩ 1 1 (lc l) hx rfl hc lc_one (by decide) (by unfold maxLen; omega) (by omega) hbase _ rfl ?_
  intro g cap w' h1 h2 h3 _
  refine h g cap w' ?_ h2 h3
  rw [lcs_append]
  simpa [lcs] using h1

end Go.Proofs.Ytnfnhgloblfgnaa

/-
  A letter taken out of a network: the row without it.
-/
namespace Go.Proofs.Ytnfnhgloblfgnaa
open Go.RowKit

/-- The letters without the one at p. -/
def less (L : List Lt) (p : Nat) : List Lt := L.take p ++ L.drop (p + 1)
theorem less_len (L : List Lt) (p : Nat) (h : p < L.length) : (less L p).length = p + (L.length - (p + 1)) := by
  unfold less
  rw [List.length_append, List.length_take, List.length_drop]
  omega
theorem lcs_take_get {L : List Lt} {p j : Nat} {u : Value} (h : (lcs (L.take p))[j]? = some u) : (lcs L)[j]? = some u := by
  have e : lcs L = lcs (L.take p) ++ lcs (L.drop p) := by rw [← lcs_append, List.take_append_drop]
  have hj : j < (lcs (L.take p)).length := by
    rcases Nat.lt_or_ge j (lcs (L.take p)).length with h' | h'
    · exact h'
    · rw [List.getElem?_eq_none h'] at h; cases h
  rw [e, List.getElem?_append_left hj]
  exact h
theorem lcs_drop_get {L : List Lt} {p j : Nat} {u : Value} (hp : p ≤ L.length) (h : (lcs (L.drop p))[j]? = some u) : (lcs L)[p * 3 + j]? = some u := by
  have e : lcs L = lcs (L.take p) ++ lcs (L.drop p) := by rw [← lcs_append, List.take_append_drop]
  have hl : (lcs (L.take p)).length = p * 3 := by rw [lcs_len, List.length_take]; omega
  rw [e, List.getElem?_append_right (by omega), hl, Nat.add_sub_cancel_left]
  exact h
theorem lcs_one : ∀ (L : List Lt), ∀ u ∈ lcs L, u.oneCell' = true
  | [], u, h => by simp [lcs] at h
  | l :: L, u, h => by
    simp only [lcs, List.mem_append] at h
    rcases h with h | h
    · exact lc_one u h
    · exact lcs_one L u h
theorem first_at (a : Addr) (n p cap : Nat) (hp : p ≤ n) (h : n ≤ cap) (w : World) :
    Calls Try.prog 38 #[.slice (some a) n cap, .int .i64 (p : Int)] w fun e w' => e = .returned (.slice (some a) p p) ∧ w' = w := by
  have h0 : (0 : Int) ≤ (p : Int) := by omega
  have h1 : (p : Int) ≤ (cap : Int) := by omega
  go_enter Try.func38, Try.ntmps38
  go_wp2
  all_goals go_ret
  all_goals exact ⟨by first | rfl | simp, rfl⟩
/-- An exit that is the normal one: for a region that draws in a function with deferred calls. -/
def onlyN (Q : Exit → Act → World → Prop) : Exit → Act → World → Prop
  | .normal, a, w => Q .normal a w
  | _, _, _ => False
theorem only_n {c : Code} {Q : Exit → Act → World → Prop} {a : Act} {w : World} (h : Code.wp Try.prog c (onlyN Q) a w) : Code.wp Try.prog c Q a w :=
  Code.wp_mono (fun e a w h => by cases e <;> first | exact h | exact h.elim) h
/-- Nothing is appended. -/
theorem step_append_none {ops : Array Oper} {o : Oper} {a : Act} {w : World} {K : Act → World → Prop} {Q : Exit → Act → World → Prop} {E : Prop} (hgd : o.guard = none) (s x : Operand) (t : TypeId)
    (ho : o.op = .call { callee := .builtin .append, args := #[s, x], argTypes := #[t, t] })
    (e : TypeId) (i : TypeInfo) (ht : Try.prog.underlying t = some (.slice e)) (hi : Try.prog.info? e = some i)
    (base : Option Addr) (n cap : Nat) (hle : n ≤ cap) (hs : a.eval s = .slice base n cap) (bx : Option Addr) (cx : Nat) (hx : a.eval x = .slice bx 0 cx)
    (hK : K (a.put o.dst (.slice base n cap)) w) :
    if Region.wanted o (yielded ops a.tmps) = true then Oper.wp Try.prog o a w K Q else E := by
  have hw : Region.wanted o (yielded ops a.tmps) = true := by simp [Region.wanted, hgd]
  rw [if_pos hw]
  have hrun : (Builtin.append_ #[t, t] o.type #[.slice base n cap, .slice bx 0 cx]).run Try.prog w = .ok (.slice base n cap) w := by
    cases base <;> cases bx <;> simp [Builtin.append_, run_underlying ht, sizeOf, typeInfo, hi, hle, storeCells, loadCells, loadCellsFrom, Builtin.lenOf, Builtin.firstCells]
  unfold Oper.wp execOp
  simp only [ho, resolve, invoke, builtin, Sem.run_bind, Sem.run_pure, Result.andThen_ok, List.map_toArray, List.map_cons, List.map_nil, hs, hx, hrun]
  exact hK
end Go.Proofs.Ytnfnhgloblfgnaa
