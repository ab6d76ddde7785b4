/-
  l1Word: eight bytes of a text as a word.
-/
import Derived.Test.YtegihccdpohnnaaRows
import Derived.Test.YtegihccdpohnnaaPlain2
import Derived.Test.YtegihccdpohnnaaKit5
import Derived.Deep.QuietTactic
import Derived.BigQuiet
import Derived.Deep.RegionWith
import Derived.Deep.RegionHeld3
import Derived.Deep.CutRange
import Derived.Deep.DeepCutAuto
import Derived.Deep.CutBlock
import Derived.Laws.Tables
namespace Go.Proofs.Ytegihccdpohnnaa
open Go.RowKit

/-- The k bytes of a text from place n on. -/
def seg (s : ByteArray) (n k : Nat) : List UInt8 := (s.data.toList.drop n).take k
theorem seg_snoc (s : ByteArray) (n k : Nat) (h : n + k < s.size) : seg s n (k + 1) = seg s n k ++ [s[n + k]] := by
  unfold seg
  rw [List.take_succ_eq_append_getElem (by simp; have : s.size = s.data.size := rfl; omega)]
  congr 1
  simp [List.getElem_drop]
  rfl
theorem bw_snoc (l : List UInt8) (x : UInt8) : bw (l ++ [x]) = bstep (bw l) x := by simp [bw]

/-- 32 bytes as a digest, by places. -/
theorem bd_seg (s : ByteArray) (n : Nat) : bd (seg s n 32) = { a := bw (seg s n 8), b := bw (seg s (n + 8) 8), c := bw (seg s (n + 16) 8), d := bw (seg s (n + 24) 8) } := by
  unfold bd seg
  simp [List.take_take, List.drop_take, List.drop_drop]

end Go.Proofs.Ytegihccdpohnnaa
