/-
  l1Bytes: a word in eight bytes.
-/
import Derived.Test.YtkfofikljlmchaaRows
import Derived.Test.YtkfofikljlmchaaPlain2
import Derived.Test.YtkfofikljlmchaaJoinB18
import Derived.Deep.QuietTactic
import Derived.BigQuiet
import Derived.Deep.RegionWith
import Derived.Deep.RegionHeld3
import Derived.Deep.CutRange
import Derived.Deep.DeepCutAuto
import Derived.Deep.CutBlock
import Derived.Laws.Tables
namespace Go.Proofs.Ytkfofikljlmchaa
open Go.RowKit

end Go.Proofs.Ytkfofikljlmchaa

/-
  l1Word: eight bytes of a text as a word.
-/
namespace Go.Proofs.Ytkfofikljlmchaa
open Go.RowKit

/-- The k bytes of a text from place n on. -/
def seg (s : ByteArray) (n k : Nat) : List UInt8 := (s.data.toList.drop n).take k
theorem seg_snoc (s : ByteArray) (n k : Nat) (h : n + k < s.size) : seg s n (k + 1) = seg s n k ++ [s[n + k]] := by
  unfold seg
  rw [List.take_succ_eq_append_getElem (by simp; have : s.size = s.data.size := rfl; omega)]
  congr 1
  simp [List.getElem_drop]
  rfl
theorem bw_snoc (l : List UInt8) (x : UInt8) : bw (l ++ [x]) = bstep (bw l) x := by simp [bw]

/-- 32 bytes as a digest, by places. -/
theorem bd_seg (s : ByteArray) (n : Nat) : bd (seg s n 32) = { a := bw (seg s n 8), b := bw (seg s (n + 8) 8), c := bw (seg s (n + 16) 8), d := bw (seg s (n + 24) 8) } := by
  unfold bd seg
  simp [List.take_take, List.drop_take, List.drop_drop]

end Go.Proofs.Ytkfofikljlmchaa

/-
  l1Bare, l1Zeros: a text without its bytes 255; so many bytes 0.
-/
namespace Go.Proofs.Ytkfofikljlmchaa
open Go.RowKit

/-- Without bytes 255. -/
def bare (l : List UInt8) : List UInt8 := l.filter (· != 255)
theorem bare_snoc (l : List UInt8) (x : UInt8) : bare (l ++ [x]) = bare l ++ (if x = 255 then [] else [x]) := by
  unfold bare
  rw [List.filter_append]
  by_cases h : x = 255 <;> simp [h]
theorem bare_le (l : List UInt8) : (bare l).length ≤ l.length := List.length_filter_le _ _
theorem take_snoc (s : ByteArray) (k : Nat) (h : k < s.size) : s.data.toList.take (k + 1) = s.data.toList.take k ++ [s[k]] := by
  rw [List.take_succ_eq_append_getElem (by simpa using h)]; rfl

end Go.Proofs.Ytkfofikljlmchaa
