/-
  l1Word: eight bytes of a text as a word.
-/
import Derived.Test.YteaaaojafipllaaDoorRows
import Derived.Test.YteaaaojafipllaaDoorJoinB6
import Derived.Test.YteaaaojafipllaaDoorJoinB7
import Derived.Deep.QuietTactic
import Derived.BigQuiet
import Derived.Deep.RegionWith
import Derived.Deep.RegionHeld3
import Derived.Deep.CutRange
import Derived.Deep.DeepCutAuto
import Derived.Deep.CutBlock
import Derived.Laws.Tables
namespace Go.Proofs.YteaaaojafipllaaDoor
open Go.RowKit

/-- The k bytes of a text from place n on. -/
def seg (s : ByteArray) (n k : Nat) : List UInt8 := (s.data.toList.drop n).take k
theorem seg_snoc (s : ByteArray) (n k : Nat) (h : n + k < s.size) : seg s n (k + 1) = seg s n k ++ [s[n + k]] := by
  unfold seg
  rw [List.take_succ_eq_append_getElem (by simp; have : s.size = s.data.size := rfl; omega)]
  congr 1
  simp [List.getElem_drop]
  rfl
theorem bw_snoc (l : List UInt8) (x : UInt8) : bw (l ++ [x]) = bstep (bw l) x := by simp [bw]

set_option maxHeartbeats 1000000 in
theorem l1w_is (s : ByteArray) (n : Nat) (w : World) (hs : s.size ≤ 9223372036854775000) (h8 : n + 8 ≤ s.size) :
    Calls Tryd.prog 33 #[.string s, .int .i64 (n : Int)] w fun e w' => e = .returned (.int .u64 ((bw (seg s n 8)).toNat : Int)) ∧ w' = w := by
  go_enter Tryd.func33, Tryd.ntmps33
  go_wp2
  go_loop [5, 6] (fun v i => ∃ k : Nat, k ≤ 8 ∧ i = .int .i64 ((n + k : Nat) : Int) ∧ v = .int .u64 ((bw (seg s n k)).toNat : Int)) (fun _ i => n + 8 - (intOf i).toNat)
  case atStart => exact ⟨0, by omega, by simp, rfl⟩
  case round =>
    obtain ⟨k, hk, rfl, rfl⟩ := hrel
    by_cases hlt : k < 8
    · have hlt' : n + k < s.size := by omega
      have hsn := seg_snoc s n k hlt'
      have HS : Hid (bw (seg s n (k + 1)) = bstep (bw (seg s n k)) s[n + k]) := by rw [hsn]; exact bw_snoc _ _
      clear hsn
      go_wp2
      go_round
      case rel => exact ⟨k + 1, by omega, by go_num, by rw [HS.out, w_bstep]⟩
      case measure => simp [intOf]; omega
    · have hk8 : k = 8 := by omega
      subst hk8
      go_wp2
      go_ret
      exact ⟨rfl, rfl⟩

/-- 32 bytes as a digest, by places. -/
theorem bd_seg (s : ByteArray) (n : Nat) : bd (seg s n 32) = { a := bw (seg s n 8), b := bw (seg s (n + 8) 8), c := bw (seg s (n + 16) 8), d := bw (seg s (n + 24) 8) } := by
  unfold bd seg
  simp [List.take_take, List.drop_take, List.drop_drop]

end Go.Proofs.YteaaaojafipllaaDoor

/-
  l1Bare, l1Zeros: a text without its bytes 255; so many bytes 0.
-/
namespace Go.Proofs.YteaaaojafipllaaDoor
open Go.RowKit

/-- Without bytes 255. -/
def bare (l : List UInt8) : List UInt8 := l.filter (· != 255)
theorem bare_snoc (l : List UInt8) (x : UInt8) : bare (l ++ [x]) = bare l ++ (if x = 255 then [] else [x]) := by
  unfold bare
  rw [List.filter_append]
  by_cases h : x = 255 <;> simp [h]
theorem bare_le (l : List UInt8) : (bare l).length ≤ l.length := List.length_filter_le _ _
theorem take_snoc (s : ByteArray) (k : Nat) (h : k < s.size) : s.data.toList.take (k + 1) = s.data.toList.take k ++ [s[k]] := by
  rw [List.take_succ_eq_append_getElem (by simpa using h)]; rfl

set_option maxHeartbeats 1000000 in
theorem l1bare_is (s : ByteArray) (w : World) (hs : s.size ≤ 100000000) :
    Calls Tryd.prog 29 #[.string s] w fun e w' => e = .returned (.string (str (bare s.data.toList))) ∧ Below w.heap.size w w' := by
  go_enter Tryd.func29, Tryd.ntmps29
  go_wp2
  go_loopw [3, 4] (fun v i wr => ∃ k : Nat, k ≤ s.size ∧ i = .int .i64 (k : Int) ∧ wr.ownsRow w.heap.size 5 1 v (bare (s.data.toList.take k)).length (bv (bare (s.data.toList.take k))) ∧ Below w.heap.size w wr) (fun _ i _ => s.size - (intOf i).toNat)
  case atStart => exact ⟨0, by omega, rfl, World.ownsRow_lit _ _ 0 (Nat.le_refl _) (by unfold maxLen; omega) rfl, (Below.refl _ _).alloc (Nat.le_refl _) _⟩
  case round =>
    obtain ⟨k, hk, rfl, hown, hb⟩ := hrel
    by_cases hlt : k < s.size
    · have HL : Hid ((bare (s.data.toList.take k)).length < 1000000000) := by
        have h1 := bare_le (s.data.toList.take k)
        have h2 := List.length_take_le k s.data.toList
        show _ < _
        omega
      have HT : Hid (bare (s.data.toList.take (k + 1)) = bare (s.data.toList.take k) ++ (if s[k] = 255 then [] else [s[k]])) := by
        have := take_snoc s k hlt
        show _ = _
        rw [this]; exact bare_snoc _ _
      by_cases h255 : s[k] = 255
      · have hne : ((s[k].toNat : Int) != 255) = false := by rw [h255]; rfl
        have H5 : Hid (s[k] = 255) := h255
        clear h255
        go_wp2
        go_roundw
        case rel => exact ⟨k + 1, by omega, by go_num, by rw [HT.out, if_pos H5.out, List.append_nil]; exact hown, hb⟩
        case measure => simp [intOf]; omega
      · have hne : ((s[k].toNat : Int) != 255) = true := by
          rw [bne_iff_ne]
          intro e
          have h5 : (255 : UInt8).toNat = 255 := rfl
          exact h255 (UInt8.toNat.inj (by omega))
        have H5 : Hid (¬ s[k] = 255) := h255
        clear h255
        go_wp2_with (at_builtin; refine wpList_append_byte rfl _ _ rfl w.heap.size _ (bare (s.data.toList.take k)) s[k] rfl (hown.alloc _) ⟨wr.heap.size, 0, none⟩ rfl ?c1 ?c2 ?c3 ?_)
        case c1 => simp [go_sem]
        case c2 => exact HL.out
        case c3 => have := hb.size; simp; omega
        intro v' w1 hown' hgrow
        go_wp2_with fail
        go_roundw
        case rel => exact ⟨k + 1, by omega, by go_num, by rw [HT.out, if_neg H5.out, List.length_append, List.length_singleton]; exact hown', (hb.alloc hb.size _).grown hgrow (by have := hb.size; simp; omega) (fun j hj => (hown.lt j hj).1)⟩
        case measure => simp [intOf]; omega
    · have hk' : s.data.toList.take k = s.data.toList := List.take_of_length_le (by have : s.size = s.data.size := rfl; simp; omega)
      rw [hk'] at hown
      have hcv := run_str_own (P := Tryd.prog) wr w.heap.size _ (bare s.data.toList) hown Tryd.underlying76 Tryd.underlying5 Tryd.underlying9
      clear hk'
      go_wp2
      go_ret
      exact ⟨rfl, hb⟩

set_option maxHeartbeats 1000000 in
theorem l1zeros_is (n : Nat) (w : World) (hn : n ≤ 1000) :
    Calls Tryd.prog 30 #[.int .i64 (n : Int)] w fun e w' => e = .returned (.string (str (List.replicate n 0))) ∧ Below w.heap.size w w' := by
  go_enter Tryd.func30, Tryd.ntmps30
  go_wp2
  go_loopw [3, 4] (fun v i wr => ∃ k : Nat, k ≤ n ∧ i = .int .i64 (k : Int) ∧ wr.ownsRow w.heap.size 5 1 v (List.replicate k (0 : UInt8)).length (bv (List.replicate k 0)) ∧ Below w.heap.size w wr) (fun _ i _ => n - (intOf i).toNat)
  case atStart => exact ⟨0, by omega, rfl, World.ownsRow_lit _ _ 0 (Nat.le_refl _) (by unfold maxLen; omega) rfl, (Below.refl _ _).alloc (Nat.le_refl _) _⟩
  case round =>
    obtain ⟨k, hk, rfl, hown, hb⟩ := hrel
    by_cases hlt : k < n
    · have HT : Hid (List.replicate (k + 1) (0 : UInt8) = List.replicate k 0 ++ [0]) := List.replicate_succ'
      go_wp2_with (at_builtin; refine wpList_append_byte rfl _ _ rfl w.heap.size _ (List.replicate k 0) 0 rfl (hown.alloc _) ⟨wr.heap.size, 0, none⟩ rfl ?c1 ?c2 ?c3 ?_)
      case c1 => simp [go_sem]
      case c2 => simp; omega
      case c3 => have := hb.size; simp; omega
      intro v' w1 hown' hgrow
      go_wp2_with fail
      go_roundw
      case rel => exact ⟨k + 1, by omega, by go_num, by rw [HT.out, List.length_append, List.length_singleton, List.length_replicate]; exact hown', (hb.alloc hb.size _).grown hgrow (by have := hb.size; simp; omega) (fun j hj => (hown.lt j hj).1)⟩
      case measure => simp [intOf]; omega
    · have hkn : k = n := by omega
      subst hkn
      have hcv := run_str_own (P := Tryd.prog) wr w.heap.size _ (List.replicate k 0) hown Tryd.underlying76 Tryd.underlying5 Tryd.underlying9
      go_wp2
      go_ret
      exact ⟨rfl, hb⟩
end Go.Proofs.YteaaaojafipllaaDoor
