/-
  A stack of digests: made, popped.
-/
import Derived.Test.YtegihccdpohnnaaDgs
import Derived.Laws.AppendOwn
import Derived.WalkSmall
namespace Go.Proofs.Ytegihccdpohnnaa
open Go.RowKit

/-- The cells of digests. -/
def qc (q : Qd) : List Value := [Value.int IntKind.u64 ((q.a).toNat : Int), Value.int IntKind.u64 ((q.b).toNat : Int), Value.int IntKind.u64 ((q.c).toNat : Int), Value.int IntKind.u64 ((q.d).toNat : Int)]
def qcs : List Qd → List Value
  | [] => []
  | q :: r => qc q ++ qcs r
theorem qcs_append : ∀ a b : List Qd, qcs (a ++ b) = qcs a ++ qcs b
  | [], b => rfl
  | q :: a, b => by simp [qcs, qcs_append a b]
theorem qcs_len : ∀ a : List Qd, (qcs a).length = a.length * 4
  | [] => rfl
  | q :: a => by simp only [qcs, List.length_append, qcs_len a, qc, List.length_cons, List.length_nil]; omega
theorem qcs_get : ∀ (L : List Qd) (i t : Nat) (h : i < L.length), t < 4 → (qcs L)[i * 4 + t]? = (qc L[i])[t]?
  | [], _, _, h, _ => by simp at h
  | q :: L, 0, t, _, ht => by
    simp only [qcs, Nat.zero_mul, Nat.zero_add, List.getElem_cons_zero]
    rw [List.getElem?_append_left (by simp [qc]; omega)]
  | q :: L, i + 1, t, h, ht => by
    simp only [qcs, List.getElem_cons_succ]
    rw [List.getElem?_append_right (by simp [qc]; omega)]
    have e : (i + 1) * 4 + t - (qc q).length = i * 4 + t := by simp only [qc, List.length_cons, List.length_nil]; omega
    rw [e]
    exact qcs_get L i t (by simpa using h) ht
theorem qcs_one {u : Value} : ∀ {L : List Qd}, u ∈ qcs L → u.oneCell' = true
  | [], h => by simp [qcs] at h
  | q :: L, h => by
    rcases List.mem_append.1 h with h | h
    · simp only [qc, List.mem_cons, List.not_mem_nil, or_false] at h
      rcases h with rfl | rfl | rfl | rfl <;> rfl
    · exact qcs_one h
theorem grown_set (W : World) (B o : Nat) (v : Value) : W.grownBy (W.setCell ⟨B, o, none⟩ v) (some B) :=
  ⟨rfl, rfl, rfl, by simp only [World.size_setCell]; exact Nat.le_refl _, fun k _ hne => Below.heap_setCell _ _ _ _ (fun e => hne (by rw [e]))⟩
theorem grown_below {W W1 W2 : World} {row : Option Nat} (h : W.grownBy W1 row) (hb : Below W1.heap.size W1 W2) : W.grownBy W2 row :=
  ⟨hb.os.trans h.os, hb.tape.trans h.tape, hb.output.trans h.output, Nat.le_trans h.size hb.size, fun k hk hne => (hb.block k (Nat.lt_of_lt_of_le hk h.size)).trans (h.block k hk hne)⟩

/-- The last digest, or noughts. -/
def lastD : List Qd → Qd
  | [] => ⟨0, 0, 0, 0⟩
  | [q] => q
  | _ :: q :: r => lastD (q :: r)
theorem lastD_snoc : ∀ (L : List Qd) (q : Qd), lastD (L ++ [q]) = q
  | [], _ => rfl
  | [_], _ => rfl
  | _ :: b :: r, q => lastD_snoc (b :: r) q
end Go.Proofs.Ytegihccdpohnnaa
