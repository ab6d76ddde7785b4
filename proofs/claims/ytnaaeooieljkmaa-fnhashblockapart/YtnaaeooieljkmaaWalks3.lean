/-
  Words and bytes.
-/
import Derived.Test.YtnaaeooieljkmaaRows
import Derived.Test.YtnaaeooieljkmaaPlain2
import Derived.Test.YtnaaeooieljkmaaKit
import Derived.Deep.QuietTactic
import Derived.BigQuiet
namespace Go.Proofs.Ytnaaeooieljkmaa
open Go.RowKit

set_option maxHeartbeats 1000000 in
/-- bytesOfWord. -/
theorem bow_is (x : UInt64) (w : World) :
    Calls Try.prog 26 #[.int .u64 ((x).toNat : Int)] w fun e w' => e = .returned (.agg #[Value.int IntKind.u8 ((by8 x 56).toNat : Int), Value.int IntKind.u8 ((by8 x 48).toNat : Int), Value.int IntKind.u8 ((by8 x 40).toNat : Int), Value.int IntKind.u8 ((by8 x 32).toNat : Int), Value.int IntKind.u8 ((by8 x 24).toNat : Int), Value.int IntKind.u8 ((by8 x 16).toNat : Int), Value.int IntKind.u8 ((by8 x 8).toNat : Int), Value.int IntKind.u8 ((by8 x 0).toNat : Int)]) ∧ w' = (w.alloc (.cells #[Value.int IntKind.u8 ((by8 x 56).toNat : Int), Value.int IntKind.u8 ((by8 x 48).toNat : Int), Value.int IntKind.u8 ((by8 x 40).toNat : Int), Value.int IntKind.u8 ((by8 x 32).toNat : Int), Value.int IntKind.u8 ((by8 x 24).toNat : Int), Value.int IntKind.u8 ((by8 x 16).toNat : Int), Value.int IntKind.u8 ((by8 x 8).toNat : Int), Value.int IntKind.u8 ((by8 x 0).toNat : Int)] 52)).alloc (.cells #[Value.int IntKind.u8 ((by8 x 56).toNat : Int), Value.int IntKind.u8 ((by8 x 48).toNat : Int), Value.int IntKind.u8 ((by8 x 40).toNat : Int), Value.int IntKind.u8 ((by8 x 32).toNat : Int), Value.int IntKind.u8 ((by8 x 24).toNat : Int), Value.int IntKind.u8 ((by8 x 16).toNat : Int), Value.int IntKind.u8 ((by8 x 8).toNat : Int), Value.int IntKind.u8 ((by8 x 0).toNat : Int)] 52) := by
  go_enter Try.func26, Try.ntmps26
  go_wp2
  go_rounds 9
  simp only [v56, v48, v40, v32, v24, v16, v8, v0]
  exact bodyPost_ret (v := .agg #[Value.int IntKind.u8 ((by8 x 56).toNat : Int), Value.int IntKind.u8 ((by8 x 48).toNat : Int), Value.int IntKind.u8 ((by8 x 40).toNat : Int), Value.int IntKind.u8 ((by8 x 32).toNat : Int), Value.int IntKind.u8 ((by8 x 24).toNat : Int), Value.int IntKind.u8 ((by8 x 16).toNat : Int), Value.int IntKind.u8 ((by8 x 8).toNat : Int), Value.int IntKind.u8 ((by8 x 0).toNat : Int)]) (by simp [results, Try.results26, go_sem]) rfl ⟨rfl, rfl⟩

set_option maxHeartbeats 1000000 in
/-- wordOfBytes. -/
theorem wob_is (x0 x1 x2 x3 x4 x5 x6 x7 : UInt8) (w : World) :
    Calls Try.prog 25 #[.agg #[Value.int IntKind.u8 (x0.toNat : Int), Value.int IntKind.u8 (x1.toNat : Int), Value.int IntKind.u8 (x2.toNat : Int), Value.int IntKind.u8 (x3.toNat : Int), Value.int IntKind.u8 (x4.toNat : Int), Value.int IntKind.u8 (x5.toNat : Int), Value.int IntKind.u8 (x6.toNat : Int), Value.int IntKind.u8 (x7.toNat : Int)]] w fun e w' => e = .returned (.int .u64 ((bw [x0, x1, x2, x3, x4, x5, x6, x7]).toNat : Int)) ∧ w' = w.alloc (.cells #[Value.int IntKind.u8 (x0.toNat : Int), Value.int IntKind.u8 (x1.toNat : Int), Value.int IntKind.u8 (x2.toNat : Int), Value.int IntKind.u8 (x3.toNat : Int), Value.int IntKind.u8 (x4.toNat : Int), Value.int IntKind.u8 (x5.toNat : Int), Value.int IntKind.u8 (x6.toNat : Int), Value.int IntKind.u8 (x7.toNat : Int)] 52) := by
  go_enter Try.func25, Try.ntmps25
  go_wp2
  go_rounds 9
  simp only [w_bstep0, w_bstep]
  go_ret
  exact ⟨rfl, rfl⟩

end Go.Proofs.Ytnaaeooieljkmaa
