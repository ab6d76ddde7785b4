/-
  A stack of digests: made, popped.
-/
import Derived.Test.YtnfnhgloblfgnaaDgs
import Derived.Laws.AppendOwn
import Derived.WalkSmall
namespace Go.Proofs.Ytnfnhgloblfgnaa
open Go.RowKit

/-- The cells of digests. -/
def qc (q : Qd) : List Value := [Value.int IntKind.u64 ((q.a).toNat : Int), Value.int IntKind.u64 ((q.b).toNat : Int), Value.int IntKind.u64 ((q.c).toNat : Int), Value.int IntKind.u64 ((q.d).toNat : Int)]
def qcs : List Qd → List Value
  | [] => []
  | q :: r => qc q ++ qcs r
theorem qcs_append : ∀ a b : List Qd, qcs (a ++ b) = qcs a ++ qcs b
  | [], b => rfl
  | q :: a, b => by simp [qcs, qcs_append a b]
theorem qcs_len : ∀ a : List Qd, (qcs a).length = a.length * 4
  | [] => rfl
  | q :: a => by simp only [qcs, List.length_append, qcs_len a, qc, List.length_cons, List.length_nil]; omega
theorem qcs_get : ∀ (L : List Qd) (i t : Nat) (h : i < L.length), t < 4 → (qcs L)[i * 4 + t]? = (qc L[i])[t]?
  | [], _, _, h, _ => by simp at h
  | q :: L, 0, t, _, ht => by
    simp only [qcs, Nat.zero_mul, Nat.zero_add, List.getElem_cons_zero]
    rw [List.getElem?_append_left (by simp [qc]; omega)]
  | q :: L, i + 1, t, h, ht => by
    simp only [qcs, List.getElem_cons_succ]
    rw [List.getElem?_append_right (by simp [qc]; omega)]
    have e : (i + 1) * 4 + t - (qc q).length = i * 4 + t := by simp only [qc, List.length_cons, List.length_nil]; omega
    rw [e]
    exact qcs_get L i t (by simpa using h) ht
theorem qcs_one {u : Value} : ∀ {L : List Qd}, u ∈ qcs L → u.oneCell' = true
  | [], h => by simp [qcs] at h
  | q :: L, h => by
    rcases List.mem_append.1 h with h | h
    · simp only [qc, List.mem_cons, List.not_mem_nil, or_false] at h
      rcases h with rfl | rfl | rfl | rfl <;> rfl
    · exact qcs_one h
theorem grown_set (W : World) (B o : Nat) (v : Value) : W.grownBy (W.setCell ⟨B, o, none⟩ v) (some B) :=
  ⟨rfl, rfl, rfl, by simp only [World.size_setCell]; exact Nat.le_refl _, fun k _ hne => Below.heap_setCell _ _ _ _ (fun e => hne (by rw [e]))⟩
theorem grown_below {W W1 W2 : World} {row : Option Nat} (h : W.grownBy W1 row) (hb : Below W1.heap.size W1 W2) : W.grownBy W2 row :=
  ⟨hb.os.trans h.os, hb.tape.trans h.tape, hb.output.trans h.output, Nat.le_trans h.size hb.size, fun k hk hne => (hb.block k (Nat.lt_of_lt_of_le hk h.size)).trans (h.block k hk hne)⟩

/-- The last digest, or noughts. -/
def lastD : List Qd → Qd
  | [] => ⟨0, 0, 0, 0⟩
  | [q] => q
  | _ :: q :: r => lastD (q :: r)
theorem lastD_snoc : ∀ (L : List Qd) (q : Qd), lastD (L ++ [q]) = q
  | [], _ => rfl
  | [_], _ => rfl
  | _ :: b :: r, q => lastD_snoc (b :: r) q
end Go.Proofs.Ytnfnhgloblfgnaa

/-
  A list of digests is marked, and looked at again.
-/
namespace Go.Proofs.Ytnfnhgloblfgnaa
open Go.RowKit

/-- The four marks from k on. -/
def mkq (k : Nat) : Qd := ⟨UInt64.ofNat k, UInt64.ofNat (k + 1), UInt64.ofNat (k + 2), UInt64.ofNat (k + 3)⟩
/-- The marks of a list of n digests, from k on. -/
def mks (k n : Nat) : List Qd := (List.range n).map (fun i => mkq (k + 4 * i))
theorem mks_len (k n : Nat) : (mks k n).length = n := by simp [mks]
theorem mks_get (k n i : Nat) (h : i < (mks k n).length) : (mks k n)[i] = mkq (k + 4 * i) := by simp [mks]
theorem of_nat {x : Nat} (h : x < 18446744073709551616) : ((UInt64.ofNat x).toNat : Int) = (x : Int) := by
  rw [UInt64.toNat_ofNat', Nat.mod_eq_of_lt h]
theorem mkq_cells {k : Nat} (h : k ≤ 1099511627776) : (((mkq k).a.toNat : Nat) : Int) = (k : Int) ∧ (((mkq k).b.toNat : Nat) : Int) = (k : Int) + 1 ∧ (((mkq k).c.toNat : Nat) : Int) = (k : Int) + 1 + 1 ∧ (((mkq k).d.toNat : Nat) : Int) = (k : Int) + 1 + 1 + 1 := by
  refine ⟨of_nat (by omega), ?_, ?_, ?_⟩
  · exact (of_nat (by omega)).trans (by omega)
  · exact (of_nat (by omega)).trans (by omega)
  · exact (of_nat (by omega)).trans (by omega)
/-- Places that may be written. -/
theorem DR.bare {B n k : Nat} {L : List Qd} {W : World} (h : DR B n L k W) (L' : List Qd) : DR B n L' 0 W := ⟨h.1, h.2.1, fun i _ hk => by omega⟩

theorem grown_trans {W W1 W2 : World} {r : Option Nat} (h : W.grownBy W1 r) (h' : W1.grownBy W2 r) : W.grownBy W2 r :=
  ⟨h'.os.trans h.os, h'.tape.trans h.tape, h'.output.trans h.output, Nat.le_trans h.size h'.size, fun k hk hne => (h'.block k (Nat.lt_of_lt_of_le hk h.size) hne).trans (h.block k hk hne)⟩
end Go.Proofs.Ytnfnhgloblfgnaa
