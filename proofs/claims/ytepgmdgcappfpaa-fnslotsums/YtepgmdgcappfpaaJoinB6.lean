/-
  l1Bytes: a word in eight bytes.
-/
import Derived.Test.YtepgmdgcappfpaaRows
import Derived.Test.YtepgmdgcappfpaaJoinB1
import Derived.Test.YtepgmdgcappfpaaJoinB3
import Derived.Deep.QuietTactic
import Derived.BigQuiet
import Derived.Deep.RegionWith
import Derived.Deep.RegionHeld3
import Derived.Deep.CutRange
import Derived.Deep.DeepCutAuto
import Derived.Deep.CutBlock
import Derived.Laws.Tables
namespace Go.Proofs.Ytepgmdgcappfpaa
open Go.RowKit

set_option maxHeartbeats 2000000 in
theorem l1b_is (x : UInt64) (w : World) :
    Calls Try.prog 28 #[.int .u64 ((x).toNat : Int)] w fun e w' => e = .returned (.string (str (wb x))) ∧ Below w.heap.size w w' := by
  go_enter Try.func28, Try.ntmps28
  go_wp2
  go_loopw [3, 4] (fun v i wr => ∃ k : Nat, k ≤ 8 ∧ i = .int .i64 (7 - (k : Int)) ∧ wr.ownsRow w.heap.size 5 1 v ((wb x).take k).length (bv ((wb x).take k)) ∧ Below w.heap.size w wr) (fun _ i _ => (intOf i + 1).toNat)
  case atStart => exact ⟨0, by omega, rfl, World.ownsRow_lit _ _ 0 (Nat.le_refl _) (by unfold maxLen; omega) rfl, (Below.refl _ _).alloc (Nat.le_refl _) _⟩
  case round =>
    obtain ⟨k, hk, rfl, hown, hb⟩ := hrel
    have hk' : k = 0 ∨ k = 1 ∨ k = 2 ∨ k = 3 ∨ k = 4 ∨ k = 5 ∨ k = 6 ∨ k = 7 ∨ k = 8 := by omega
    clear hk
    rcases hk' with rfl | rfl | rfl | rfl | rfl | rfl | rfl | rfl | rfl
    · go_wp2_with (at_builtin; refine wpList_append_byte rfl _ _ rfl w.heap.size _ [] (by8 x 56) rfl (hown.alloc _) ⟨wr.heap.size, 0, none⟩ rfl ?c1 ?c2 ?c3 ?_)
      case c1 => simp [go_sem, v56]
      case c2 => simp
      case c3 => have := hb.size; simp; omega
      intro v' w1 hown' hgrow
      go_wp2_with fail
      go_roundw
      case rel => exact ⟨1, by omega, by go_num, hown', (hb.alloc hb.size _).grown hgrow (by have := hb.size; simp; omega) (fun j hj => (hown.lt j hj).1)⟩
      case measure => simp [intOf]
    · go_wp2_with (at_builtin; refine wpList_append_byte rfl _ _ rfl w.heap.size _ [by8 x 56] (by8 x 48) rfl (hown.alloc _) ⟨wr.heap.size, 0, none⟩ rfl ?c1 ?c2 ?c3 ?_)
      case c1 => simp [go_sem, v48]
      case c2 => simp
      case c3 => have := hb.size; simp; omega
      intro v' w1 hown' hgrow
      go_wp2_with fail
      go_roundw
      case rel => exact ⟨2, by omega, by go_num, hown', (hb.alloc hb.size _).grown hgrow (by have := hb.size; simp; omega) (fun j hj => (hown.lt j hj).1)⟩
      case measure => simp [intOf]
    · go_wp2_with (at_builtin; refine wpList_append_byte rfl _ _ rfl w.heap.size _ [by8 x 56, by8 x 48] (by8 x 40) rfl (hown.alloc _) ⟨wr.heap.size, 0, none⟩ rfl ?c1 ?c2 ?c3 ?_)
      case c1 => simp [go_sem, v40]
      case c2 => simp
      case c3 => have := hb.size; simp; omega
      intro v' w1 hown' hgrow
      go_wp2_with fail
      go_roundw
      case rel => exact ⟨3, by omega, by go_num, hown', (hb.alloc hb.size _).grown hgrow (by have := hb.size; simp; omega) (fun j hj => (hown.lt j hj).1)⟩
      case measure => simp [intOf]
    · go_wp2_with (at_builtin; refine wpList_append_byte rfl _ _ rfl w.heap.size _ [by8 x 56, by8 x 48, by8 x 40] (by8 x 32) rfl (hown.alloc _) ⟨wr.heap.size, 0, none⟩ rfl ?c1 ?c2 ?c3 ?_)
      case c1 => simp [go_sem, v32]
      case c2 => simp
      case c3 => have := hb.size; simp; omega
      intro v' w1 hown' hgrow
      go_wp2_with fail
      go_roundw
      case rel => exact ⟨4, by omega, by go_num, hown', (hb.alloc hb.size _).grown hgrow (by have := hb.size; simp; omega) (fun j hj => (hown.lt j hj).1)⟩
      case measure => simp [intOf]
    · go_wp2_with (at_builtin; refine wpList_append_byte rfl _ _ rfl w.heap.size _ [by8 x 56, by8 x 48, by8 x 40, by8 x 32] (by8 x 24) rfl (hown.alloc _) ⟨wr.heap.size, 0, none⟩ rfl ?c1 ?c2 ?c3 ?_)
      case c1 => simp [go_sem, v24]
      case c2 => simp
      case c3 => have := hb.size; simp; omega
      intro v' w1 hown' hgrow
      go_wp2_with fail
      go_roundw
      case rel => exact ⟨5, by omega, by go_num, hown', (hb.alloc hb.size _).grown hgrow (by have := hb.size; simp; omega) (fun j hj => (hown.lt j hj).1)⟩
      case measure => simp [intOf]
    · go_wp2_with (at_builtin; refine wpList_append_byte rfl _ _ rfl w.heap.size _ [by8 x 56, by8 x 48, by8 x 40, by8 x 32, by8 x 24] (by8 x 16) rfl (hown.alloc _) ⟨wr.heap.size, 0, none⟩ rfl ?c1 ?c2 ?c3 ?_)
      case c1 => simp [go_sem, v16]
      case c2 => simp
      case c3 => have := hb.size; simp; omega
      intro v' w1 hown' hgrow
      go_wp2_with fail
      go_roundw
      case rel => exact ⟨6, by omega, by go_num, hown', (hb.alloc hb.size _).grown hgrow (by have := hb.size; simp; omega) (fun j hj => (hown.lt j hj).1)⟩
      case measure => simp [intOf]
    · go_wp2_with (at_builtin; refine wpList_append_byte rfl _ _ rfl w.heap.size _ [by8 x 56, by8 x 48, by8 x 40, by8 x 32, by8 x 24, by8 x 16] (by8 x 8) rfl (hown.alloc _) ⟨wr.heap.size, 0, none⟩ rfl ?c1 ?c2 ?c3 ?_)
      case c1 => simp [go_sem, v8]
      case c2 => simp
      case c3 => have := hb.size; simp; omega
      intro v' w1 hown' hgrow
      go_wp2_with fail
      go_roundw
      case rel => exact ⟨7, by omega, by go_num, hown', (hb.alloc hb.size _).grown hgrow (by have := hb.size; simp; omega) (fun j hj => (hown.lt j hj).1)⟩
      case measure => simp [intOf]
    · go_wp2_with (at_builtin; refine wpList_append_byte rfl _ _ rfl w.heap.size _ [by8 x 56, by8 x 48, by8 x 40, by8 x 32, by8 x 24, by8 x 16, by8 x 8] (by8 x 0) rfl (hown.alloc _) ⟨wr.heap.size, 0, none⟩ rfl ?c1 ?c2 ?c3 ?_)
      case c1 => simp [go_sem, v0]
      case c2 => simp
      case c3 => have := hb.size; simp; omega
      intro v' w1 hown' hgrow
      go_wp2_with fail
      go_roundw
      case rel => exact ⟨8, by omega, by go_num, hown', (hb.alloc hb.size _).grown hgrow (by have := hb.size; simp; omega) (fun j hj => (hown.lt j hj).1)⟩
      case measure => simp [intOf]
    · have hcv := run_str_own (P := Try.prog) wr w.heap.size _ (wb x) hown Try.underlying22 Try.underlying5 Try.underlying9
      go_wp2
      go_ret
      exact ⟨rfl, hb⟩
end Go.Proofs.Ytepgmdgcappfpaa

/-
  l1Bare, l1Zeros: a text without its bytes 255; so many bytes 0.
-/
namespace Go.Proofs.Ytepgmdgcappfpaa
open Go.RowKit

/-- Without bytes 255. -/
def bare (l : List UInt8) : List UInt8 := l.filter (· != 255)
theorem bare_snoc (l : List UInt8) (x : UInt8) : bare (l ++ [x]) = bare l ++ (if x = 255 then [] else [x]) := by
  unfold bare
  rw [List.filter_append]
  by_cases h : x = 255 <;> simp [h]
theorem bare_le (l : List UInt8) : (bare l).length ≤ l.length := List.length_filter_le _ _
theorem take_snoc (s : ByteArray) (k : Nat) (h : k < s.size) : s.data.toList.take (k + 1) = s.data.toList.take k ++ [s[k]] := by
  rw [List.take_succ_eq_append_getElem (by simpa using h)]; rfl

set_option maxHeartbeats 1000000 in
theorem l1bare_is (s : ByteArray) (w : World) (hs : s.size ≤ 100000000) :
    Calls Try.prog 41 #[.string s] w fun e w' => e = .returned (.string (str (bare s.data.toList))) ∧ Below w.heap.size w w' := by
  go_enter Try.func41, Try.ntmps41
  go_wp2
  go_loopw [3, 4] (fun v i wr => ∃ k : Nat, k ≤ s.size ∧ i = .int .i64 (k : Int) ∧ wr.ownsRow w.heap.size 5 1 v (bare (s.data.toList.take k)).length (bv (bare (s.data.toList.take k))) ∧ Below w.heap.size w wr) (fun _ i _ => s.size - (intOf i).toNat)
  case atStart => exact ⟨0, by omega, rfl, World.ownsRow_lit _ _ 0 (Nat.le_refl _) (by unfold maxLen; omega) rfl, (Below.refl _ _).alloc (Nat.le_refl _) _⟩
  case round =>
    obtain ⟨k, hk, rfl, hown, hb⟩ := hrel
    by_cases hlt : k < s.size
    · have HL : Hid ((bare (s.data.toList.take k)).length < 1000000000) := by
        have h1 := bare_le (s.data.toList.take k)
        have h2 := List.length_take_le k s.data.toList
        show _ < _
        omega
      have HT : Hid (bare (s.data.toList.take (k + 1)) = bare (s.data.toList.take k) ++ (if s[k] = 255 then [] else [s[k]])) := by
        have := take_snoc s k hlt
        show _ = _
        rw [this]; exact bare_snoc _ _
      by_cases h255 : s[k] = 255
      · have hne : ((s[k].toNat : Int) != 255) = false := by rw [h255]; rfl
        have H5 : Hid (s[k] = 255) := h255
        clear h255
        go_wp2
        go_roundw
        case rel => exact ⟨k + 1, by omega, by go_num, by rw [HT.out, if_pos H5.out, List.append_nil]; exact hown, hb⟩
        case measure => simp [intOf]; omega
      · have hne : ((s[k].toNat : Int) != 255) = true := by
          rw [bne_iff_ne]
          intro e
          have h5 : (255 : UInt8).toNat = 255 := rfl
          exact h255 (UInt8.toNat.inj (by omega))
        have H5 : Hid (¬ s[k] = 255) := h255
        clear h255
        go_wp2_with (at_builtin; refine wpList_append_byte rfl _ _ rfl w.heap.size _ (bare (s.data.toList.take k)) s[k] rfl (hown.alloc _) ⟨wr.heap.size, 0, none⟩ rfl ?c1 ?c2 ?c3 ?_)
        case c1 => simp [go_sem]
        case c2 => exact HL.out
        case c3 => have := hb.size; simp; omega
        intro v' w1 hown' hgrow
        go_wp2_with fail
        go_roundw
        case rel => exact ⟨k + 1, by omega, by go_num, by rw [HT.out, if_neg H5.out, List.length_append, List.length_singleton]; exact hown', (hb.alloc hb.size _).grown hgrow (by have := hb.size; simp; omega) (fun j hj => (hown.lt j hj).1)⟩
        case measure => simp [intOf]; omega
    · have hk' : s.data.toList.take k = s.data.toList := List.take_of_length_le (by have : s.size = s.data.size := rfl; simp; omega)
      rw [hk'] at hown
      have hcv := run_str_own (P := Try.prog) wr w.heap.size _ (bare s.data.toList) hown Try.underlying22 Try.underlying5 Try.underlying9
      clear hk'
      go_wp2
      go_ret
      exact ⟨rfl, hb⟩

set_option maxHeartbeats 1000000 in
theorem l1zeros_is (n : Nat) (w : World) (hn : n ≤ 1000) :
    Calls Try.prog 42 #[.int .i64 (n : Int)] w fun e w' => e = .returned (.string (str (List.replicate n 0))) ∧ Below w.heap.size w w' := by
  go_enter Try.func42, Try.ntmps42
  go_wp2
  go_loopw [3, 4] (fun v i wr => ∃ k : Nat, k ≤ n ∧ i = .int .i64 (k : Int) ∧ wr.ownsRow w.heap.size 5 1 v (List.replicate k (0 : UInt8)).length (bv (List.replicate k 0)) ∧ Below w.heap.size w wr) (fun _ i _ => n - (intOf i).toNat)
  case atStart => exact ⟨0, by omega, rfl, World.ownsRow_lit _ _ 0 (Nat.le_refl _) (by unfold maxLen; omega) rfl, (Below.refl _ _).alloc (Nat.le_refl _) _⟩
  case round =>
    obtain ⟨k, hk, rfl, hown, hb⟩ := hrel
    by_cases hlt : k < n
    · have HT : Hid (List.replicate (k + 1) (0 : UInt8) = List.replicate k 0 ++ [0]) := List.replicate_succ'
      go_wp2_with (at_builtin; refine wpList_append_byte rfl _ _ rfl w.heap.size _ (List.replicate k 0) 0 rfl (hown.alloc _) ⟨wr.heap.size, 0, none⟩ rfl ?c1 ?c2 ?c3 ?_)
      case c1 => simp [go_sem]
      case c2 => simp; omega
      case c3 => have := hb.size; simp; omega
      intro v' w1 hown' hgrow
      go_wp2_with fail
      go_roundw
      case rel => exact ⟨k + 1, by omega, by go_num, by rw [HT.out, List.length_append, List.length_singleton, List.length_replicate]; exact hown', (hb.alloc hb.size _).grown hgrow (by have := hb.size; simp; omega) (fun j hj => (hown.lt j hj).1)⟩
      case measure => simp [intOf]; omega
    · have hkn : k = n := by omega
      subst hkn
      have hcv := run_str_own (P := Try.prog) wr w.heap.size _ (List.replicate k 0) hown Try.underlying22 Try.underlying5 Try.underlying9
      go_wp2
      go_ret
      exact ⟨rfl, hb⟩
end Go.Proofs.Ytepgmdgcappfpaa
