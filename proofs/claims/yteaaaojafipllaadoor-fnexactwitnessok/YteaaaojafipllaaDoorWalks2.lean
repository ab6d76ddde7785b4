/-
  The walks of HashBlock, on both sides: each comes to the plain function HB.
-/
import Derived.Test.YteaaaojafipllaaDoorRows
import Derived.Test.YteaaaojafipllaaDoorPlain
import Derived.Handy
import Derived.Deep.QuietTactic
import Derived.BigQuiet
import Derived.WalkLawsBesides
namespace Go.Proofs.YteaaaojafipllaaDoor
open Go.RowKit

set_option maxHeartbeats 1000000 in
theorem hb_spec (s b : Qd) (w : World) :
    Calls Tryd.prog 32 #[.agg #[.int .u64 ((s).a.toNat : Int), .int .u64 ((s).b.toNat : Int), .int .u64 ((s).c.toNat : Int), .int .u64 ((s).d.toNat : Int)], .agg #[.int .u64 ((b).a.toNat : Int), .int .u64 ((b).b.toNat : Int), .int .u64 ((b).c.toNat : Int), .int .u64 ((b).d.toNat : Int)]] w fun e w' => e = .returned (.agg #[.int .u64 ((HB s b).a.toNat : Int), .int .u64 ((HB s b).b.toNat : Int), .int .u64 ((HB s b).c.toNat : Int), .int .u64 ((HB s b).d.toNat : Int)]) ∧ Below w.heap.size w w' := by
  go_enter Tryd.func32, Tryd.ntmps32
  go_wp2
  simp only [w_xor]
  go_loop [5, 6, 7, 8, 9, 10] (fun a b' c d k i => ∃ n : Nat, n ≤ 10 ∧ i = .int .i64 n ∧ k = .int .u64 ((kk n).toNat : Int) ∧ a = .int .u64 (((it n (xq s b)).a).toNat : Int) ∧ b' = .int .u64 (((it n (xq s b)).b).toNat : Int) ∧ c = .int .u64 (((it n (xq s b)).c).toNat : Int) ∧ d = .int .u64 (((it n (xq s b)).d).toNat : Int)) (fun _ _ _ _ _ i => 10 - (intOf i).toNat)
  case atStart => exact ⟨0, by omega, rfl, rfl, rfl, rfl, rfl, rfl⟩
  case round =>
    obtain ⟨n, hn, rfl, rfl, rfl, rfl, rfl, rfl⟩ := hrel
    by_cases hlt : n < 10
    · go_wp2
      go_round
      case rel =>
        simp only [w_addk, w_add, w_xor, w_rl39, w_rl21, UInt64.add_assoc]
        exact ⟨n + 1, by omega, by go_num, rfl, rfl, rfl, rfl, rfl⟩
      case measure => simp [intOf]; omega
    · have hn10 : n = 10 := by omega
      subst hn10
      go_wp2
      simp only [w_xor]
      exact bodyPost_ret (v := .agg #[.int .u64 ((HB s b).a.toNat : Int), .int .u64 ((HB s b).b.toNat : Int), .int .u64 ((HB s b).c.toNat : Int), .int .u64 ((HB s b).d.toNat : Int)]) (by simp [results, Tryd.results32, go_sem, HB, xq]) rfl ⟨rfl, (by repeat' (first | (with_reducible exact Below.refl _ _) | (with_reducible assumption) | (with_reducible refine below_drewN ?_ _) | (with_reducible refine Below.setCell ?_ ?_ _) | (with_reducible refine Below.alloc ?_ ?_ _) | (with_reducible refine Below.drew ?_) | go_size))⟩

set_option maxHeartbeats 400000 in
theorem eqd_same (q : Qd) (w : World) :
    Calls Tryd.prog 40 #[.agg #[.int .u64 ((q).a.toNat : Int), .int .u64 ((q).b.toNat : Int), .int .u64 ((q).c.toNat : Int), .int .u64 ((q).d.toNat : Int)], .agg #[.int .u64 ((q).a.toNat : Int), .int .u64 ((q).b.toNat : Int), .int .u64 ((q).c.toNat : Int), .int .u64 ((q).d.toNat : Int)]] w fun e w' => e = .returned (.bool true) ∧ Below w.heap.size w w' := by
  go_enter Tryd.func40, Tryd.ntmps40
  go_wp2
  go_ret
  exact ⟨rfl, (by repeat' (first | (with_reducible exact Below.refl _ _) | (with_reducible assumption) | (with_reducible refine below_drewN ?_ _) | (with_reducible refine Below.setCell ?_ ?_ _) | (with_reducible refine Below.alloc ?_ ?_ _) | (with_reducible refine Below.drew ?_) | go_size))⟩
end Go.Proofs.YteaaaojafipllaaDoor
