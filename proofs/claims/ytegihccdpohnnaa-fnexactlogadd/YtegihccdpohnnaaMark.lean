/-
  A list of digests is marked, and looked at again.
-/
import Derived.Test.YtegihccdpohnnaaStk
namespace Go.Proofs.Ytegihccdpohnnaa
open Go.RowKit

/-- The four marks from k on. -/
def mkq (k : Nat) : Qd := ⟨UInt64.ofNat k, UInt64.ofNat (k + 1), UInt64.ofNat (k + 2), UInt64.ofNat (k + 3)⟩
/-- The marks of a list of n digests, from k on. -/
def mks (k n : Nat) : List Qd := (List.range n).map (fun i => mkq (k + 4 * i))
theorem mks_len (k n : Nat) : (mks k n).length = n := by simp [mks]
theorem mks_get (k n i : Nat) (h : i < (mks k n).length) : (mks k n)[i] = mkq (k + 4 * i) := by simp [mks]
theorem of_nat {x : Nat} (h : x < 18446744073709551616) : ((UInt64.ofNat x).toNat : Int) = (x : Int) := by
  rw [UInt64.toNat_ofNat', Nat.mod_eq_of_lt h]
theorem mkq_cells {k : Nat} (h : k ≤ 1099511627776) : (((mkq k).a.toNat : Nat) : Int) = (k : Int) ∧ (((mkq k).b.toNat : Nat) : Int) = (k : Int) + 1 ∧ (((mkq k).c.toNat : Nat) : Int) = (k : Int) + 1 + 1 ∧ (((mkq k).d.toNat : Nat) : Int) = (k : Int) + 1 + 1 + 1 := by
  refine ⟨of_nat (by omega), ?_, ?_, ?_⟩
  · exact (of_nat (by omega)).trans (by omega)
  · exact (of_nat (by omega)).trans (by omega)
  · exact (of_nat (by omega)).trans (by omega)
/-- Places that may be written. -/
theorem DR.bare {B n k : Nat} {L : List Qd} {W : World} (h : DR B n L k W) (L' : List Qd) : DR B n L' 0 W := ⟨h.1, h.2.1, fun i _ hk => by omega⟩

theorem grown_trans {W W1 W2 : World} {r : Option Nat} (h : W.grownBy W1 r) (h' : W1.grownBy W2 r) : W.grownBy W2 r :=
  ⟨h'.os.trans h.os, h'.tape.trans h.tape, h'.output.trans h.output, Nat.le_trans h.size h'.size, fun k hk hne => (h'.block k (Nat.lt_of_lt_of_le hk h.size) hne).trans (h.block k hk hne)⟩
end Go.Proofs.Ytegihccdpohnnaa
