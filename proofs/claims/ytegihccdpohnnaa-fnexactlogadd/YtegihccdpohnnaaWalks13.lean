/-
  hashRest, walked.
-/
import Derived.Test.YtegihccdpohnnaaRows
import Derived.Test.YtegihccdpohnnaaPlain2
import Derived.Test.YtegihccdpohnnaaKit5
import Derived.Deep.QuietTactic
import Derived.BigQuiet
import Derived.Deep.RegionWith
import Derived.Deep.RegionHeld3
import Derived.Deep.CutRange
import Derived.Deep.DeepCutAuto
import Derived.Deep.CutBlock
import Derived.Laws.Tables
import Derived.Test.YtegihccdpohnnaaWalks12
import Derived.Test.YtegihccdpohnnaaWalks11
namespace Go.Proofs.Ytegihccdpohnnaa
open Go.RowKit

set_option maxRecDepth 20000 in
/-- The byte at a place. -/
def g32 (L : List UInt8) (i : Nat) : UInt8 := L.getD i 0
set_option maxRecDepth 20000 in
theorem g32_list (L : List UInt8) (h : L.length = 32) : [g32 L 0, g32 L 1, g32 L 2, g32 L 3, g32 L 4, g32 L 5, g32 L 6, g32 L 7, g32 L 8, g32 L 9, g32 L 10, g32 L 11, g32 L 12, g32 L 13, g32 L 14, g32 L 15, g32 L 16, g32 L 17, g32 L 18, g32 L 19, g32 L 20, g32 L 21, g32 L 22, g32 L 23, g32 L 24, g32 L 25, g32 L 26, g32 L 27, g32 L 28, g32 L 29, g32 L 30, g32 L 31] = L := by
  obtain ⟨x0, x1, x2, x3, x4, x5, x6, x7, x8, x9, x10, x11, x12, x13, x14, x15, x16, x17, x18, x19, x20, x21, x22, x23, x24, x25, x26, x27, x28, x29, x30, x31, rfl⟩ := list32 L h
  rfl
set_option maxRecDepth 20000 in
theorem getR (l : List UInt8) (r : Nat) (hl : l.length = 32) (hr : r < 32) : (bv (List.take r l ++ List.replicate (32 - r) 0))[r]? = some (Value.int IntKind.u8 0) := by
  have e : List.replicate (32 - r) (0 : UInt8) = 0 :: List.replicate (31 - r) 0 := by
    rw [← List.replicate_succ]; congr 1; omega
  have hm : min r l.length = r := by omega
  rw [e]
  simp only [bv, List.map_append, List.map_cons]
  rw [List.getElem?_append_right (by simp; omega)]
  simp [hm]
set_option maxRecDepth 20000 in
theorem setL1 (l : List UInt8) (r : Nat) (hl : l.length = 32) (hr : r < 32) :
    ((bv (List.take r l ++ List.replicate (32 - r) 0)).set r (Value.int IntKind.u8 128)) = bv (l.take r ++ ([128] ++ List.replicate (31 - r) 0)) := by
  have e : List.replicate (32 - r) (0 : UInt8) = 0 :: List.replicate (31 - r) 0 := by
    rw [← List.replicate_succ]; congr 1; omega
  have hlen : (List.take r l).length = r := by simp; omega
  rw [e]
  simp only [bv, List.map_append, List.map_cons]
  have hm : min r l.length = r := by omega
  rw [List.set_append_right _ _ (by simp; omega)]
  simp [hm]

end Go.Proofs.Ytegihccdpohnnaa
