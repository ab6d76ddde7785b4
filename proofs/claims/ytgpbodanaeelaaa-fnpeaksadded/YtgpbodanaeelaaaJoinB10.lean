/-
  The walks of HashBlock, on both sides: each comes to the plain function HB.
-/
import Derived.Test.YtgpbodanaeelaaaRows
import Derived.Test.YtgpbodanaeelaaaJoinB5
import Derived.Handy
import Derived.Deep.QuietTactic
import Derived.BigQuiet
import Derived.WalkLawsBesides
import Derived.Test.YtgpbodanaeelaaaJoinB4
namespace Go.Proofs.Ytgpbodanaeelaaa
open Go.RowKit

set_option maxHeartbeats 1000000 in
theorem hb_spec (s b : Qd) (w : World) :
    Calls Try.prog 63 #[.agg #[.int .u64 ((s).a.toNat : Int), .int .u64 ((s).b.toNat : Int), .int .u64 ((s).c.toNat : Int), .int .u64 ((s).d.toNat : Int)], .agg #[.int .u64 ((b).a.toNat : Int), .int .u64 ((b).b.toNat : Int), .int .u64 ((b).c.toNat : Int), .int .u64 ((b).d.toNat : Int)]] w fun e w' => e = .returned (.agg #[.int .u64 ((HB s b).a.toNat : Int), .int .u64 ((HB s b).b.toNat : Int), .int .u64 ((HB s b).c.toNat : Int), .int .u64 ((HB s b).d.toNat : Int)]) ∧ Below w.heap.size w w' := by
  go_enter Try.func63, Try.ntmps63
  go_wp2
  simp only [w_xor]
  go_loop [5, 6, 7, 8, 9, 10] (fun a b' c d k i => ∃ n : Nat, n ≤ 10 ∧ i = .int .i64 n ∧ k = .int .u64 ((kk n).toNat : Int) ∧ a = .int .u64 (((it n (xq s b)).a).toNat : Int) ∧ b' = .int .u64 (((it n (xq s b)).b).toNat : Int) ∧ c = .int .u64 (((it n (xq s b)).c).toNat : Int) ∧ d = .int .u64 (((it n (xq s b)).d).toNat : Int)) (fun _ _ _ _ _ i => 10 - (intOf i).toNat)
  case atStart => exact ⟨0, by omega, rfl, rfl, rfl, rfl, rfl, rfl⟩
  case round =>
    obtain ⟨n, hn, rfl, rfl, rfl, rfl, rfl, rfl⟩ := hrel
    by_cases hlt : n < 10
    · go_wp2
      go_round
      case rel =>
        simp only [w_addk, w_add, w_xor, w_rl39, w_rl21, UInt64.add_assoc]
        exact ⟨n + 1, by omega, by go_num, rfl, rfl, rfl, rfl, rfl⟩
      case measure => simp [intOf]; omega
    · have hn10 : n = 10 := by omega
      subst hn10
      go_wp2
      simp only [w_xor]
      exact bodyPost_ret (v := .agg #[.int .u64 ((HB s b).a.toNat : Int), .int .u64 ((HB s b).b.toNat : Int), .int .u64 ((HB s b).c.toNat : Int), .int .u64 ((HB s b).d.toNat : Int)]) (by simp [results, Try.results63, go_sem, HB, xq]) rfl ⟨rfl, (by repeat' (first | (with_reducible exact Below.refl _ _) | (with_reducible assumption) | (with_reducible refine below_drewN ?_ _) | (with_reducible refine Below.setCell ?_ ?_ _) | (with_reducible refine Below.alloc ?_ ?_ _) | (with_reducible refine Below.drew ?_) | go_size))⟩

end Go.Proofs.Ytgpbodanaeelaaa

/-
  l1Bytes: a word in eight bytes.
-/
namespace Go.Proofs.Ytgpbodanaeelaaa
open Go.RowKit

set_option maxHeartbeats 2000000 in
theorem l1b_is (x : UInt64) (w : World) :
    Calls Try.prog 62 #[.int .u64 ((x).toNat : Int)] w fun e w' => e = .returned (.string (str (wb x))) ∧ Below w.heap.size w w' := by
  go_enter Try.func62, Try.ntmps62
  go_wp2
  go_loopw [3, 4] (fun v i wr => ∃ k : Nat, k ≤ 8 ∧ i = .int .i64 (7 - (k : Int)) ∧ wr.ownsRow w.heap.size 5 1 v ((wb x).take k).length (bv ((wb x).take k)) ∧ Below w.heap.size w wr) (fun _ i _ => (intOf i + 1).toNat)
  case atStart => exact ⟨0, by omega, rfl, World.ownsRow_lit _ _ 0 (Nat.le_refl _) (by unfold maxLen; omega) rfl, (Below.refl _ _).alloc (Nat.le_refl _) _⟩
  case round =>
    obtain ⟨k, hk, rfl, hown, hb⟩ := hrel
    have hk' : k = 0 ∨ k = 1 ∨ k = 2 ∨ k = 3 ∨ k = 4 ∨ k = 5 ∨ k = 6 ∨ k = 7 ∨ k = 8 := by omega
    clear hk
    rcases hk' with rfl | rfl | rfl | rfl | rfl | rfl | rfl | rfl | rfl
    · go_wp2_with (at_builtin; refine wpList_append_byte rfl _ _ rfl w.heap.size _ [] (by8 x 56) rfl (hown.alloc _) ⟨wr.heap.size, 0, none⟩ rfl ?c1 ?c2 ?c3 ?_)
      case c1 => simp [go_sem, v56]
      case c2 => simp
      case c3 => have := hb.size; simp; omega
      intro v' w1 hown' hgrow
      go_wp2_with fail
      go_roundw
      case rel => exact ⟨1, by omega, by go_num, hown', (hb.alloc hb.size _).grown hgrow (by have := hb.size; simp; omega) (fun j hj => (hown.lt j hj).1)⟩
      case measure => simp [intOf]
    · go_wp2_with (at_builtin; refine wpList_append_byte rfl _ _ rfl w.heap.size _ [by8 x 56] (by8 x 48) rfl (hown.alloc _) ⟨wr.heap.size, 0, none⟩ rfl ?c1 ?c2 ?c3 ?_)
      case c1 => simp [go_sem, v48]
      case c2 => simp
      case c3 => have := hb.size; simp; omega
      intro v' w1 hown' hgrow
      go_wp2_with fail
      go_roundw
      case rel => exact ⟨2, by omega, by go_num, hown', (hb.alloc hb.size _).grown hgrow (by have := hb.size; simp; omega) (fun j hj => (hown.lt j hj).1)⟩
      case measure => simp [intOf]
    · go_wp2_with (at_builtin; refine wpList_append_byte rfl _ _ rfl w.heap.size _ [by8 x 56, by8 x 48] (by8 x 40) rfl (hown.alloc _) ⟨wr.heap.size, 0, none⟩ rfl ?c1 ?c2 ?c3 ?_)
      case c1 => simp [go_sem, v40]
      case c2 => simp
      case c3 => have := hb.size; simp; omega
      intro v' w1 hown' hgrow
      go_wp2_with fail
      go_roundw
      case rel => exact ⟨3, by omega, by go_num, hown', (hb.alloc hb.size _).grown hgrow (by have := hb.size; simp; omega) (fun j hj => (hown.lt j hj).1)⟩
      case measure => simp [intOf]
    · go_wp2_with (at_builtin; refine wpList_append_byte rfl _ _ rfl w.heap.size _ [by8 x 56, by8 x 48, by8 x 40] (by8 x 32) rfl (hown.alloc _) ⟨wr.heap.size, 0, none⟩ rfl ?c1 ?c2 ?c3 ?_)
      case c1 => simp [go_sem, v32]
      case c2 => simp
      case c3 => have := hb.size; simp; omega
      intro v' w1 hown' hgrow
      go_wp2_with fail
      go_roundw
      case rel => exact ⟨4, by omega, by go_num, hown', (hb.alloc hb.size _).grown hgrow (by have := hb.size; simp; omega) (fun j hj => (hown.lt j hj).1)⟩
      case measure => simp [intOf]
    · go_wp2_with (at_builtin; refine wpList_append_byte rfl _ _ rfl w.heap.size _ [by8 x 56, by8 x 48, by8 x 40, by8 x 32] (by8 x 24) rfl (hown.alloc _) ⟨wr.heap.size, 0, none⟩ rfl ?c1 ?c2 ?c3 ?_)
      case c1 => simp [go_sem, v24]
      case c2 => simp
      case c3 => have := hb.size; simp; omega
      intro v' w1 hown' hgrow
      go_wp2_with fail
      go_roundw
      case rel => exact ⟨5, by omega, by go_num, hown', (hb.alloc hb.size _).grown hgrow (by have := hb.size; simp; omega) (fun j hj => (hown.lt j hj).1)⟩
      case measure => simp [intOf]
    · go_wp2_with (at_builtin; refine wpList_append_byte rfl _ _ rfl w.heap.size _ [by8 x 56, by8 x 48, by8 x 40, by8 x 32, by8 x 24] (by8 x 16) rfl (hown.alloc _) ⟨wr.heap.size, 0, none⟩ rfl ?c1 ?c2 ?c3 ?_)
      case c1 => simp [go_sem, v16]
      case c2 => simp
      case c3 => have := hb.size; simp; omega
      intro v' w1 hown' hgrow
      go_wp2_with fail
      go_roundw
      case rel => exact ⟨6, by omega, by go_num, hown', (hb.alloc hb.size _).grown hgrow (by have := hb.size; simp; omega) (fun j hj => (hown.lt j hj).1)⟩
      case measure => simp [intOf]
    · go_wp2_with (at_builtin; refine wpList_append_byte rfl _ _ rfl w.heap.size _ [by8 x 56, by8 x 48, by8 x 40, by8 x 32, by8 x 24, by8 x 16] (by8 x 8) rfl (hown.alloc _) ⟨wr.heap.size, 0, none⟩ rfl ?c1 ?c2 ?c3 ?_)
      case c1 => simp [go_sem, v8]
      case c2 => simp
      case c3 => have := hb.size; simp; omega
      intro v' w1 hown' hgrow
      go_wp2_with fail
      go_roundw
      case rel => exact ⟨7, by omega, by go_num, hown', (hb.alloc hb.size _).grown hgrow (by have := hb.size; simp; omega) (fun j hj => (hown.lt j hj).1)⟩
      case measure => simp [intOf]
    · go_wp2_with (at_builtin; refine wpList_append_byte rfl _ _ rfl w.heap.size _ [by8 x 56, by8 x 48, by8 x 40, by8 x 32, by8 x 24, by8 x 16, by8 x 8] (by8 x 0) rfl (hown.alloc _) ⟨wr.heap.size, 0, none⟩ rfl ?c1 ?c2 ?c3 ?_)
      case c1 => simp [go_sem, v0]
      case c2 => simp
      case c3 => have := hb.size; simp; omega
      intro v' w1 hown' hgrow
      go_wp2_with fail
      go_roundw
      case rel => exact ⟨8, by omega, by go_num, hown', (hb.alloc hb.size _).grown hgrow (by have := hb.size; simp; omega) (fun j hj => (hown.lt j hj).1)⟩
      case measure => simp [intOf]
    · have hcv := run_str_own (P := Try.prog) wr w.heap.size _ (wb x) hown Try.underlying22 Try.underlying5 Try.underlying9
      go_wp2
      go_ret
      exact ⟨rfl, hb⟩
end Go.Proofs.Ytgpbodanaeelaaa
