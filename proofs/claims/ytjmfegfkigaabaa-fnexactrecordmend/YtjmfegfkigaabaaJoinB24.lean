/-
  l1Word: eight bytes of a text as a word.
-/
import Derived.Test.YtjmfegfkigaabaaRows
import Derived.Test.YtjmfegfkigaabaaPlain2
import Derived.Test.YtjmfegfkigaabaaJoinB20
import Derived.Deep.QuietTactic
import Derived.BigQuiet
import Derived.Deep.RegionWith
import Derived.Deep.RegionHeld3
import Derived.Deep.CutRange
import Derived.Deep.DeepCutAuto
import Derived.Deep.CutBlock
import Derived.Laws.Tables
import Derived.Test.YtjmfegfkigaabaaJoinB23
namespace Go.Proofs.Ytjmfegfkigaabaa
open Go.RowKit

/-- The k bytes of a text from place n on. -/
def seg (s : ByteArray) (n k : Nat) : List UInt8 := (s.data.toList.drop n).take k
theorem seg_snoc (s : ByteArray) (n k : Nat) (h : n + k < s.size) : seg s n (k + 1) = seg s n k ++ [s[n + k]] := by
  unfold seg
  rw [List.take_succ_eq_append_getElem (by simp; have : s.size = s.data.size := rfl; omega)]
  congr 1
  simp [List.getElem_drop]
  rfl
theorem bw_snoc (l : List UInt8) (x : UInt8) : bw (l ++ [x]) = bstep (bw l) x := by simp [bw]

set_option maxHeartbeats 1000000 in
theorem l1w_is (s : ByteArray) (n : Nat) (w : World) (hs : s.size ≤ 9223372036854775000) (h8 : n + 8 ≤ s.size) :
    Calls Try.prog 53 #[.string s, .int .i64 (n : Int)] w fun e w' => e = .returned (.int .u64 ((bw (seg s n 8)).toNat : Int)) ∧ w' = w := by
  go_enter Try.func53, Try.ntmps53
  go_wp2
  go_loop [5, 6] (fun v i => ∃ k : Nat, k ≤ 8 ∧ i = .int .i64 ((n + k : Nat) : Int) ∧ v = .int .u64 ((bw (seg s n k)).toNat : Int)) (fun _ i => n + 8 - (intOf i).toNat)
  case atStart => exact ⟨0, by omega, by simp, rfl⟩
  case round =>
    obtain ⟨k, hk, rfl, rfl⟩ := hrel
    by_cases hlt : k < 8
    · have hlt' : n + k < s.size := by omega
      have hsn := seg_snoc s n k hlt'
      have HS : Hid (bw (seg s n (k + 1)) = bstep (bw (seg s n k)) s[n + k]) := by rw [hsn]; exact bw_snoc _ _
      clear hsn
      go_wp2
      go_round
      case rel => exact ⟨k + 1, by omega, by go_num, by rw [HS.out, w_bstep]⟩
      case measure => simp [intOf]; omega
    · have hk8 : k = 8 := by omega
      subst hk8
      go_wp2
      go_ret
      exact ⟨rfl, rfl⟩

/-- 32 bytes as a digest, by places. -/
theorem bd_seg (s : ByteArray) (n : Nat) : bd (seg s n 32) = { a := bw (seg s n 8), b := bw (seg s (n + 8) 8), c := bw (seg s (n + 16) 8), d := bw (seg s (n + 24) 8) } := by
  unfold bd seg
  simp [List.take_take, List.drop_take, List.drop_drop]

end Go.Proofs.Ytjmfegfkigaabaa

/-
  HashBack, on both sides, and its law, walked.
-/
namespace Go.Proofs.Ytjmfegfkigaabaa
open Go.RowKit

theorem info62 : (Try.prog.info? 122).map (·.size) = some 32 := by kernel_rfl

theorem seg_all (s : ByteArray) (n : Nat) (hn : s.size = n) : seg s 0 n = s.data.toList := by
  unfold seg
  have : s.data.size = n := hn
  rw [List.drop_zero, List.take_of_length_le (by simp [this])]

end Go.Proofs.Ytjmfegfkigaabaa
