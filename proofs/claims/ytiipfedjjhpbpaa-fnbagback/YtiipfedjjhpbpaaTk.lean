/-
  A letter taken out of a network: the row without it.
-/
import Derived.Test.YtiipfedjjhpbpaaDbl
import Derived.Test.YtiipfedjjhpbpaaLawBD
import Derived.Test.YtiipfedjjhpbpaaSend6
import Derived.Deep.CutRange
import Derived.Deep.DeepCutAuto
namespace Go.Proofs.Ytiipfedjjhpbpaa
open Go.RowKit

/-- The letters without the one at p. -/
def less (L : List Lt) (p : Nat) : List Lt := L.take p ++ L.drop (p + 1)
theorem less_len (L : List Lt) (p : Nat) (h : p < L.length) : (less L p).length = p + (L.length - (p + 1)) := by
  unfold less
  rw [List.length_append, List.length_take, List.length_drop]
  omega
theorem lcs_take_get {L : List Lt} {p j : Nat} {u : Value} (h : (lcs (L.take p))[j]? = some u) : (lcs L)[j]? = some u := by
  have e : lcs L = lcs (L.take p) ++ lcs (L.drop p) := by rw [← lcs_append, List.take_append_drop]
  have hj : j < (lcs (L.take p)).length := by
    rcases Nat.lt_or_ge j (lcs (L.take p)).length with h' | h'
    · exact h'
    · rw [List.getElem?_eq_none h'] at h; cases h
  rw [e, List.getElem?_append_left hj]
  exact h
theorem lcs_drop_get {L : List Lt} {p j : Nat} {u : Value} (hp : p ≤ L.length) (h : (lcs (L.drop p))[j]? = some u) : (lcs L)[p * 3 + j]? = some u := by
  have e : lcs L = lcs (L.take p) ++ lcs (L.drop p) := by rw [← lcs_append, List.take_append_drop]
  have hl : (lcs (L.take p)).length = p * 3 := by rw [lcs_len, List.length_take]; omega
  rw [e, List.getElem?_append_right (by omega), hl, Nat.add_sub_cancel_left]
  exact h
theorem lcs_one : ∀ (L : List Lt), ∀ u ∈ lcs L, u.oneCell' = true
  | [], u, h => by simp [lcs] at h
  | l :: L, u, h => by
    simp only [lcs, List.mem_append] at h
    rcases h with h | h
    · exact lc_one u h
    · exact lcs_one L u h
theorem first_at (a : Addr) (n p cap : Nat) (hp : p ≤ n) (h : n ≤ cap) (w : World) :
    Calls Try.prog 59 #[.slice (some a) n cap, .int .i64 (p : Int)] w fun e w' => e = .returned (.slice (some a) p p) ∧ w' = w := by
  have h0 : (0 : Int) ≤ (p : Int) := by omega
  have h1 : (p : Int) ≤ (cap : Int) := by omega
  go_enter Try.func59, Try.ntmps59
  go_wp2
  all_goals go_ret
  all_goals exact ⟨by first | rfl | simp, rfl⟩
/-- An exit that is the normal one: for a region that draws in a function with deferred calls. -/
def onlyN (Q : Exit → Act → World → Prop) : Exit → Act → World → Prop
  | .normal, a, w => Q .normal a w
  | _, _, _ => False
theorem only_n {c : Code} {Q : Exit → Act → World → Prop} {a : Act} {w : World} (h : Code.wp Try.prog c (onlyN Q) a w) : Code.wp Try.prog c Q a w :=
  Code.wp_mono (fun e a w h => by cases e <;> first | exact h | exact h.elim) h
/-- Nothing is appended. -/
theorem step_append_none {ops : Array Oper} {o : Oper} {a : Act} {w : World} {K : Act → World → Prop} {Q : Exit → Act → World → Prop} {E : Prop} (hgd : o.guard = none) (s x : Operand) (t : TypeId)
    (ho : o.op = .call { callee := .builtin .append, args := #[s, x], argTypes := #[t, t] })
    (e : TypeId) (i : TypeInfo) (ht : Try.prog.underlying t = some (.slice e)) (hi : Try.prog.info? e = some i)
    (base : Option Addr) (n cap : Nat) (hle : n ≤ cap) (hs : a.eval s = .slice base n cap) (bx : Option Addr) (cx : Nat) (hx : a.eval x = .slice bx 0 cx)
    (hK : K (a.put o.dst (.slice base n cap)) w) :
    if Region.wanted o (yielded ops a.tmps) = true then Oper.wp Try.prog o a w K Q else E := by
  have hw : Region.wanted o (yielded ops a.tmps) = true := by simp [Region.wanted, hgd]
  rw [if_pos hw]
  have hrun : (Builtin.append_ #[t, t] o.type #[.slice base n cap, .slice bx 0 cx]).run Try.prog w = .ok (.slice base n cap) w := by
    cases base <;> cases bx <;> simp [Builtin.append_, run_underlying ht, sizeOf, typeInfo, hi, hle, storeCells, loadCells, loadCellsFrom, Builtin.lenOf, Builtin.firstCells]
  unfold Oper.wp execOp
  simp only [ho, resolve, invoke, builtin, Sem.run_bind, Sem.run_pure, Result.andThen_ok, List.map_toArray, List.map_cons, List.map_nil, hs, hx, hrun]
  exact hK
end Go.Proofs.Ytiipfedjjhpbpaa
