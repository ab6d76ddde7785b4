/-
  l1Bare, l1Zeros: a text without its bytes 255; so many bytes 0.
-/
import Derived.Test.YtegihccdpohnnaaRows
import Derived.Test.YtegihccdpohnnaaPlain2
import Derived.Test.YtegihccdpohnnaaKit5
import Derived.Deep.QuietTactic
import Derived.BigQuiet
import Derived.Deep.RegionWith
import Derived.Deep.RegionHeld3
import Derived.Deep.CutRange
import Derived.Deep.DeepCutAuto
import Derived.Deep.CutBlock
import Derived.Laws.Tables
namespace Go.Proofs.Ytegihccdpohnnaa
open Go.RowKit

/-- Without bytes 255. -/
def bare (l : List UInt8) : List UInt8 := l.filter (· != 255)
theorem bare_snoc (l : List UInt8) (x : UInt8) : bare (l ++ [x]) = bare l ++ (if x = 255 then [] else [x]) := by
  unfold bare
  rw [List.filter_append]
  by_cases h : x = 255 <;> simp [h]
theorem bare_le (l : List UInt8) : (bare l).length ≤ l.length := List.length_filter_le _ _
theorem take_snoc (s : ByteArray) (k : Nat) (h : k < s.size) : s.data.toList.take (k + 1) = s.data.toList.take k ++ [s[k]] := by
  rw [List.take_succ_eq_append_getElem (by simpa using h)]; rfl

end Go.Proofs.Ytegihccdpohnnaa
