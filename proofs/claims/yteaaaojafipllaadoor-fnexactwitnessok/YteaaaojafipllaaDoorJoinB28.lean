/-
  l1PairText.
-/
import Derived.Test.YteaaaojafipllaaDoorRows
import Derived.Test.YteaaaojafipllaaDoorJoinB6
import Derived.Test.YteaaaojafipllaaDoorJoinB7
import Derived.Deep.QuietTactic
import Derived.BigQuiet
import Derived.Deep.RegionWith
import Derived.Deep.RegionHeld3
import Derived.Deep.RegionHeld
import Derived.Deep.CutRange
import Derived.Deep.DeepCutAuto
import Derived.Deep.CutBlock
import Derived.Laws.Tables
import Derived.Test.YteaaaojafipllaaDoorWalks7
import Derived.Test.YteaaaojafipllaaDoorWalks11
import Derived.Test.YteaaaojafipllaaDoorLawLeaf
import Derived.Test.YteaaaojafipllaaDoorJoinB17
import Derived.Test.YteaaaojafipllaaDoorTxt
import Derived.Test.YteaaaojafipllaaDoorInts
import Derived.Test.YteaaaojafipllaaDoorWalks19
import Derived.Deep.Slices
namespace Go.Proofs.YteaaaojafipllaaDoor
open Go.RowKit

set_option maxRecDepth 100000 in
theorem db_len (q : Qd) : (db q).length = 32 := rfl

end Go.Proofs.YteaaaojafipllaaDoor

/-
  HashPair of the specification.
-/
namespace Go.Proofs.YteaaaojafipllaaDoor
open Go.RowKit

end Go.Proofs.YteaaaojafipllaaDoor

/-
  The root of leaves: plain; l2Root of the specification, walked.
-/
namespace Go.Proofs.YteaaaojafipllaaDoor
open Go.RowKit

def leafD (s : ByteArray) : Qd := dg (ByteArray.mk #[0] ++ s)
def pairD (l r : Qd) : Qd := dg (str ([1] ++ (db l ++ db r)))
/-- The root of leaves, so many levels down at most. -/
def rootN : Nat → List ByteArray → Qd
  | 0, _ => dg (ByteArray.mk #[])
  | n + 1, S => if S.length = 0 then dg (ByteArray.mk #[]) else if S.length = 1 then leafD (S.getD 0 (ByteArray.mk #[])) else pairD (rootN n (S.take (sp S.length))) (rootN n (S.drop (sp S.length)))
theorem sp_lt (n : Nat) (h : 2 ≤ n) : 1 ≤ sp n ∧ sp n < n := by
  unfold sp
  have h1 := Nat.two_pow_pos (Nat.log2 (n - 1))
  have h2 := Nat.log2_self_le (n := n - 1) (by omega)
  omega

/-- Parts of a slice of texts. -/
theorem Txt.take {W : World} {a : Addr} {cap : Nat} {S : List ByteArray} (h : Txt W (.slice (some a) S.length cap) S) (k : Nat) (hk : k ≤ S.length) : Txt W (.slice (some a) k cap) (S.take k) := by
  rcases h with ⟨h, _⟩ | ⟨a', cap', he, hl, hm, hb, hc⟩
  · simp at h
  · obtain ⟨rfl, rfl⟩ : a = a' ∧ cap = cap' := by simpa using he
    have e : (S.take k).length = k := by rw [List.length_take]; omega
    refine .inr ⟨a, cap, by rw [e], by omega, hm, fun h0 => hb (by omega), fun i hi => ?_⟩
    rw [hc i (by omega)]
    simp
theorem Txt.drop {W : World} {a : Addr} {cap : Nat} {S : List ByteArray} (h : Txt W (.slice (some a) S.length cap) S) (k : Nat) (hk : k ≤ S.length) : Txt W (.slice (some (a.add k)) (S.length - k) (cap - k)) (S.drop k) := by
  rcases h with ⟨h, _⟩ | ⟨a', cap', he, hl, hm, hb, hc⟩
  · simp at h
  · obtain ⟨rfl, rfl⟩ : a = a' ∧ cap = cap' := by simpa using he
    have e : (S.drop k).length = S.length - k := by rw [List.length_drop]
    refine .inr ⟨a.add k, cap - k, by rw [e], by omega, by unfold maxLen at *; omega, fun h0 => by rw [add_block]; exact hb (by omega), fun i hi => ?_⟩
    rw [Go.Deep.add_add, hc (k + i) (by omega)]
    simp

end Go.Proofs.YteaaaojafipllaaDoor
