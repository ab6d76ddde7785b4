/-
  l1Bytes: a word in eight bytes.
-/
import Derived.Test.YteaaaojafipllaaDoorRows
import Derived.Test.YteaaaojafipllaaDoorJoinB6
import Derived.Test.YteaaaojafipllaaDoorJoinB7
namespace Go.Proofs.YteaaaojafipllaaDoor
open Go.RowKit

set_option maxHeartbeats 2000000 in
theorem l1b_is (x : UInt64) (w : World) :
    Calls Tryd.prog 31 #[.int .u64 ((x).toNat : Int)] w fun e w' => e = .returned (.string (str (wb x))) ∧ Below w.heap.size w w' := by
  go_enter Tryd.func31, Tryd.ntmps31
  go_wp2
  go_loopw [3, 4] (fun v i wr => ∃ k : Nat, k ≤ 8 ∧ i = .int .i64 (7 - (k : Int)) ∧ wr.ownsRow w.heap.size 5 1 v ((wb x).take k).length (bv ((wb x).take k)) ∧ Below w.heap.size w wr) (fun _ i _ => (intOf i + 1).toNat)
  case atStart => exact ⟨0, by omega, rfl, World.ownsRow_lit _ _ 0 (Nat.le_refl _) (by unfold maxLen; omega) rfl, (Below.refl _ _).alloc (Nat.le_refl _) _⟩
  case round =>
    obtain ⟨k, hk, rfl, hown, hb⟩ := hrel
    have hk' : k = 0 ∨ k = 1 ∨ k = 2 ∨ k = 3 ∨ k = 4 ∨ k = 5 ∨ k = 6 ∨ k = 7 ∨ k = 8 := by omega
    clear hk
    rcases hk' with rfl | rfl | rfl | rfl | rfl | rfl | rfl | rfl | rfl
    · go_wp2_with (at_builtin; refine wpList_append_byte rfl _ _ rfl w.heap.size _ [] (by8 x 56) rfl (hown.alloc _) ⟨wr.heap.size, 0, none⟩ rfl ?c1 ?c2 ?c3 ?_)
      case c1 => simp [go_sem, v56]
      case c2 => simp
      case c3 => have := hb.size; simp; omega
      intro v' w1 hown' hgrow
      go_wp2_with fail
      go_roundw
      case rel => exact ⟨1, by omega, by go_num, hown', (hb.alloc hb.size _).grown hgrow (by have := hb.size; simp; omega) (fun j hj => (hown.lt j hj).1)⟩
      case measure => simp [intOf]
    · go_wp2_with (at_builtin; refine wpList_append_byte rfl _ _ rfl w.heap.size _ [by8 x 56] (by8 x 48) rfl (hown.alloc _) ⟨wr.heap.size, 0, none⟩ rfl ?c1 ?c2 ?c3 ?_)
      case c1 => simp [go_sem, v48]
      case c2 => simp
      case c3 => have := hb.size; simp; omega
      intro v' w1 hown' hgrow
      go_wp2_with fail
      go_roundw
      case rel => exact ⟨2, by omega, by go_num, hown', (hb.alloc hb.size _).grown hgrow (by have := hb.size; simp; omega) (fun j hj => (hown.lt j hj).1)⟩
      case measure => simp [intOf]
    · go_wp2_with (at_builtin; refine wpList_append_byte rfl _ _ rfl w.heap.size _ [by8 x 56, by8 x 48] (by8 x 40) rfl (hown.alloc _) ⟨wr.heap.size, 0, none⟩ rfl ?c1 ?c2 ?c3 ?_)
      case c1 => simp [go_sem, v40]
      case c2 => simp
      case c3 => have := hb.size; simp; omega
      intro v' w1 hown' hgrow
      go_wp2_with fail
      go_roundw
      case rel => exact ⟨3, by omega, by go_num, hown', (hb.alloc hb.size _).grown hgrow (by have := hb.size; simp; omega) (fun j hj => (hown.lt j hj).1)⟩
      case measure => simp [intOf]
    · go_wp2_with (at_builtin; refine wpList_append_byte rfl _ _ rfl w.heap.size _ [by8 x 56, by8 x 48, by8 x 40] (by8 x 32) rfl (hown.alloc _) ⟨wr.heap.size, 0, none⟩ rfl ?c1 ?c2 ?c3 ?_)
      case c1 => simp [go_sem, v32]
      case c2 => simp
      case c3 => have := hb.size; simp; omega
      intro v' w1 hown' hgrow
      go_wp2_with fail
      go_roundw
      case rel => exact ⟨4, by omega, by go_num, hown', (hb.alloc hb.size _).grown hgrow (by have := hb.size; simp; omega) (fun j hj => (hown.lt j hj).1)⟩
      case measure => simp [intOf]
    · go_wp2_with (at_builtin; refine wpList_append_byte rfl _ _ rfl w.heap.size _ [by8 x 56, by8 x 48, by8 x 40, by8 x 32] (by8 x 24) rfl (hown.alloc _) ⟨wr.heap.size, 0, none⟩ rfl ?c1 ?c2 ?c3 ?_)
      case c1 => simp [go_sem, v24]
      case c2 => simp
      case c3 => have := hb.size; simp; omega
      intro v' w1 hown' hgrow
      go_wp2_with fail
      go_roundw
      case rel => exact ⟨5, by omega, by go_num, hown', (hb.alloc hb.size _).grown hgrow (by have := hb.size; simp; omega) (fun j hj => (hown.lt j hj).1)⟩
      case measure => simp [intOf]
    · go_wp2_with (at_builtin; refine wpList_append_byte rfl _ _ rfl w.heap.size _ [by8 x 56, by8 x 48, by8 x 40, by8 x 32, by8 x 24] (by8 x 16) rfl (hown.alloc _) ⟨wr.heap.size, 0, none⟩ rfl ?c1 ?c2 ?c3 ?_)
      case c1 => simp [go_sem, v16]
      case c2 => simp
      case c3 => have := hb.size; simp; omega
      intro v' w1 hown' hgrow
      go_wp2_with fail
      go_roundw
      case rel => exact ⟨6, by omega, by go_num, hown', (hb.alloc hb.size _).grown hgrow (by have := hb.size; simp; omega) (fun j hj => (hown.lt j hj).1)⟩
      case measure => simp [intOf]
    · go_wp2_with (at_builtin; refine wpList_append_byte rfl _ _ rfl w.heap.size _ [by8 x 56, by8 x 48, by8 x 40, by8 x 32, by8 x 24, by8 x 16] (by8 x 8) rfl (hown.alloc _) ⟨wr.heap.size, 0, none⟩ rfl ?c1 ?c2 ?c3 ?_)
      case c1 => simp [go_sem, v8]
      case c2 => simp
      case c3 => have := hb.size; simp; omega
      intro v' w1 hown' hgrow
      go_wp2_with fail
      go_roundw
      case rel => exact ⟨7, by omega, by go_num, hown', (hb.alloc hb.size _).grown hgrow (by have := hb.size; simp; omega) (fun j hj => (hown.lt j hj).1)⟩
      case measure => simp [intOf]
    · go_wp2_with (at_builtin; refine wpList_append_byte rfl _ _ rfl w.heap.size _ [by8 x 56, by8 x 48, by8 x 40, by8 x 32, by8 x 24, by8 x 16, by8 x 8] (by8 x 0) rfl (hown.alloc _) ⟨wr.heap.size, 0, none⟩ rfl ?c1 ?c2 ?c3 ?_)
      case c1 => simp [go_sem, v0]
      case c2 => simp
      case c3 => have := hb.size; simp; omega
      intro v' w1 hown' hgrow
      go_wp2_with fail
      go_roundw
      case rel => exact ⟨8, by omega, by go_num, hown', (hb.alloc hb.size _).grown hgrow (by have := hb.size; simp; omega) (fun j hj => (hown.lt j hj).1)⟩
      case measure => simp [intOf]
    · have hcv := run_str_own (P := Tryd.prog) wr w.heap.size _ (wb x) hown Tryd.underlying76 Tryd.underlying5 Tryd.underlying9
      go_wp2
      go_ret
      exact ⟨rfl, hb⟩
end Go.Proofs.YteaaaojafipllaaDoor
