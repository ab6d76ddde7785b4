/-
  HashBack, on both sides, and its law, walked.
-/
import Derived.Test.YteaaaojafipllaaDoorRows
import Derived.Test.YteaaaojafipllaaDoorJoinB6
import Derived.Test.YteaaaojafipllaaDoorJoinB7
import Derived.Deep.QuietTactic
import Derived.BigQuiet
import Derived.Deep.RegionWith
import Derived.Deep.RegionHeld3
import Derived.Deep.CutRange
import Derived.Deep.DeepCutAuto
import Derived.Deep.CutBlock
import Derived.Laws.Tables
import Derived.Test.YteaaaojafipllaaDoorKit6
import Derived.Test.YteaaaojafipllaaDoorWalks2
import Derived.Test.YteaaaojafipllaaDoorJoinB14
import Derived.Test.YteaaaojafipllaaDoorJoinB8
namespace Go.Proofs.YteaaaojafipllaaDoor
open Go.RowKit

theorem eqd_zero (w : World) : Calls Tryd.prog 40 #[.agg #[.int .u64 0, .int .u64 0, .int .u64 0, .int .u64 0], .agg #[.int .u64 0, .int .u64 0, .int .u64 0, .int .u64 0]] w fun e w' => e = .returned (.bool true) ∧ Below w.heap.size w w' := eqd_same ⟨0, 0, 0, 0⟩ w

theorem info62 : (Tryd.prog.info? 129).map (·.size) = some 32 := by kernel_rfl

theorem seg_all (s : ByteArray) (n : Nat) (hn : s.size = n) : seg s 0 n = s.data.toList := by
  unfold seg
  have : s.data.size = n := hn
  rw [List.drop_zero, List.take_of_length_le (by simp [this])]

end Go.Proofs.YteaaaojafipllaaDoor

/-
  Plain mathematics of digests, continued: a text that is hashed as it comes.
-/
namespace Go.Proofs.YteaaaojafipllaaDoor
open Go

/-- Behind the bytes t: the state q, and the block L whose first bytes are what is left. -/
def Inv (t L : List UInt8) (q : Qd) : Prop :=
  L.length = 32 ∧ q = blocks H0 (t.length / 32) t ∧ L.take (t.length % 32) = t.drop (32 * (t.length / 32))
theorem inv_start : Inv [] (List.replicate 32 0) H0 := ⟨rfl, rfl, rfl⟩
theorem take_set (L : List UInt8) (r : Nat) (x : UInt8) (h : r < L.length) : (L.set r x).take (r + 1) = L.take r ++ [x] := by
  rw [List.take_succ_eq_append_getElem (by simpa using h)]
  have e : (L.set r x).take r = L.take r := by
    apply List.ext_getElem?
    intro i
    by_cases hi : i < r
    · rw [List.getElem?_take_of_lt hi, List.getElem?_take_of_lt hi, List.getElem?_set_ne (by omega)]
    · rw [List.getElem?_eq_none (by simp; omega), List.getElem?_eq_none (by simp; omega)]
  rw [e]
  simp
theorem inv_drop {t L : List UInt8} {q : Qd} (h : Inv t L q) (x : UInt8) : (L.set (t.length % 32) x).take (t.length % 32 + 1) = (t ++ [x]).drop (32 * (t.length / 32)) := by
  obtain ⟨h1, _, h3⟩ := h
  rw [take_set _ _ _ (by omega), h3, List.drop_append_of_le_length (by omega)]
theorem inv_byte {t L : List UInt8} {q : Qd} (h : Inv t L q) (x : UInt8) (hne : (t.length + 1) % 32 ≠ 0) : Inv (t ++ [x]) (L.set (t.length % 32) x) q := by
  have hd := inv_drop h x
  obtain ⟨h1, h2, h3⟩ := h
  have e1 : (t ++ [x]).length = t.length + 1 := by simp
  have e2 : (t.length + 1) / 32 = t.length / 32 := by omega
  have e3 : (t.length + 1) % 32 = t.length % 32 + 1 := by omega
  refine ⟨by simpa using h1, ?_, ?_⟩
  · rw [e1, e2, blocks_append _ _ _ _ (by omega)]; exact h2
  · rw [e1, e2, e3]; exact hd
theorem inv_full {t L : List UInt8} {q : Qd} (h : Inv t L q) (x : UInt8) (he : (t.length + 1) % 32 = 0) : Inv (t ++ [x]) (L.set (t.length % 32) x) (HB q (bd (L.set (t.length % 32) x))) := by
  have hd := inv_drop h x
  obtain ⟨h1, h2, h3⟩ := h
  have e1 : (t ++ [x]).length = t.length + 1 := by simp
  have e2 : (t.length + 1) / 32 = t.length / 32 + 1 := by omega
  have e3 : t.length % 32 + 1 = 32 := by omega
  rw [e3, List.take_of_length_le (by simp [h1])] at hd
  refine ⟨by simpa using h1, ?_, ?_⟩
  · rw [e1, e2, blocks_succ, blocks_append _ _ _ _ (by omega), ← h2, ← hd, List.take_of_length_le (by simp [h1])]
  · rw [e1, e2, he, List.take_zero, List.drop_of_length_le (by simp; omega)]
theorem inv_short {t L : List UInt8} {q : Qd} (h : Inv t L q) (hr : t.length % 32 ≤ 23) :
    HB q (bd ((L.take (t.length % 32) ++ ([128] ++ List.replicate (31 - t.length % 32) 0)).take 24 ++ wb (UInt64.ofNat t.length))) = hashOf t := by
  obtain ⟨h1, h2, h3⟩ := h
  rw [hashOf_short t _ _ rfl rfl hr, ← h2, ← h3]
  have hl : (L.take (t.length % 32)).length = t.length % 32 := by simp; omega
  have hrep : List.replicate (31 - t.length % 32) (0 : UInt8) = List.replicate (23 - t.length % 32) 0 ++ List.replicate 8 0 := by
    rw [List.replicate_append_replicate]; congr 1; omega
  have e : (L.take (t.length % 32) ++ ([128] ++ List.replicate (31 - t.length % 32) 0)).take 24 = L.take (t.length % 32) ++ ([128] ++ List.replicate (23 - t.length % 32) 0) := by
    rw [hrep]
    have e2 : L.take (t.length % 32) ++ ([128] ++ (List.replicate (23 - t.length % 32) 0 ++ List.replicate 8 0)) = (L.take (t.length % 32) ++ ([128] ++ List.replicate (23 - t.length % 32) 0)) ++ List.replicate 8 0 := by simp
    rw [e2, List.take_append_of_le_length (by simp; omega), List.take_of_length_le (by simp; omega)]
  rw [e]
  congr 2
  simp
theorem inv_long {t L : List UInt8} {q : Qd} (h : Inv t L q) (hr : 24 ≤ t.length % 32) :
    HB (HB q (bd (L.take (t.length % 32) ++ ([128] ++ List.replicate (31 - t.length % 32) 0)))) (bd ((List.replicate 32 (0 : UInt8)).take 24 ++ wb (UInt64.ofNat t.length))) = hashOf t := by
  obtain ⟨h1, h2, h3⟩ := h
  rw [hashOf_long t _ _ rfl rfl hr, ← h2, ← h3, List.take_replicate]
  rfl
end Go.Proofs.YteaaaojafipllaaDoor
