/-
  copy of a text into a row of bytes made last; digestOfBytes at any 32 bytes.
-/
import Derived.Test.YtjmfegfkigaabaaRows
import Derived.Test.YtjmfegfkigaabaaPlain2
import Derived.Test.YtjmfegfkigaabaaJoinB17
import Derived.Test.YtjmfegfkigaabaaWalks4
import Derived.Test.YtjmfegfkigaabaaJoinB1
import Derived.Handy
import Derived.Deep.QuietTactic
import Derived.BigQuiet
import Derived.WalkLawsBesides
namespace Go.Proofs.Ytjmfegfkigaabaa
open Go.RowKit

theorem run_copy_str (W : World) (ty t : TypeId) (cur : Array Value) (s : ByteArray) (n : Nat) (hn : s.size = n) (hc : cur.size = n) :
    (Builtin.copy_ #[43, 9] ty #[.slice (some ⟨W.heap.size, 0, none⟩) n n, .string s]).run Try.prog (W.alloc (.cells cur t)) = .ok (goInt n) (W.alloc (.cells (bv s.data.toList).toArray t)) := by
  have hsd : s.data.size = n := hn
  have hst := run_storeCells_at Try.prog W.heap.size 0 t (bv s.data.toList) 0 cur (W.alloc (.cells cur t)) (heap_alloc_last W _) (by simp [bv, hsd, hc]) (by simp [bv, Value.oneCell'])
  have hi : (Try.prog.info? 5).map (·.size) = some 1 := by kernel_rfl
  cases hq : Try.prog.info? 5 with
  | none => simp [hq] at hi
  | some i =>
    have hm : Nat.min s.size n = n := by rw [hn]; simp
    have hk : List.take n (List.map (fun b : UInt8 => Value.int IntKind.u8 (b.toNat : Int)) s.data.toList) = bv s.data.toList := by
      rw [List.take_of_length_le (by simp [hsd])]; rfl
    have he : (List.take (0 + 0) cur.toList ++ bv s.data.toList ++ List.drop (0 + 0 + (bv s.data.toList).length) cur.toList).toArray = (bv s.data.toList).toArray := by
      rw [List.drop_of_length_le (by simp [bv, hsd, hc])]; simp
    rw [he, World.setRow_alloc_new] at hst
    simp [Builtin.copy_, Builtin.lenOf, Builtin.firstCells, sizeOf, typeInfo, run_underlying Try.underlying43, hq, hm, hk, hst]

/-- digestOfBytes, at any 32 bytes. -/
theorem dob_any (l : List UInt8) (hl : l.length = 32) (w : World) :
    Calls Try.prog 74 #[.agg (bv l).toArray] w fun e w' => e = .returned (.agg #[.int .u64 ((bd l).a.toNat : Int), .int .u64 ((bd l).b.toNat : Int), .int .u64 ((bd l).c.toNat : Int), .int .u64 ((bd l).d.toNat : Int)]) ∧ Below w.heap.size w w' := by
  obtain ⟨x0, x1, x2, x3, x4, x5, x6, x7, x8, x9, x10, x11, x12, x13, x14, x15, x16, x17, x18, x19, x20, x21, x22, x23, x24, x25, x26, x27, x28, x29, x30, x31, rfl⟩ := list32 l hl
  exact dob_is x0 x1 x2 x3 x4 x5 x6 x7 x8 x9 x10 x11 x12 x13 x14 x15 x16 x17 x18 x19 x20 x21 x22 x23 x24 x25 x26 x27 x28 x29 x30 x31 w
end Go.Proofs.Ytjmfegfkigaabaa

/-
  The walks of HashBlock, on both sides: each comes to the plain function HB.
-/
namespace Go.Proofs.Ytjmfegfkigaabaa
open Go.RowKit

set_option maxHeartbeats 1000000 in
theorem hb_spec (s b : Qd) (w : World) :
    Calls Try.prog 52 #[.agg #[.int .u64 ((s).a.toNat : Int), .int .u64 ((s).b.toNat : Int), .int .u64 ((s).c.toNat : Int), .int .u64 ((s).d.toNat : Int)], .agg #[.int .u64 ((b).a.toNat : Int), .int .u64 ((b).b.toNat : Int), .int .u64 ((b).c.toNat : Int), .int .u64 ((b).d.toNat : Int)]] w fun e w' => e = .returned (.agg #[.int .u64 ((HB s b).a.toNat : Int), .int .u64 ((HB s b).b.toNat : Int), .int .u64 ((HB s b).c.toNat : Int), .int .u64 ((HB s b).d.toNat : Int)]) ∧ Below w.heap.size w w' := by
  go_enter Try.func52, Try.ntmps52
  go_wp2
  simp only [w_xor]
  go_loop [5, 6, 7, 8, 9, 10] (fun a b' c d k i => ∃ n : Nat, n ≤ 10 ∧ i = .int .i64 n ∧ k = .int .u64 ((kk n).toNat : Int) ∧ a = .int .u64 (((it n (xq s b)).a).toNat : Int) ∧ b' = .int .u64 (((it n (xq s b)).b).toNat : Int) ∧ c = .int .u64 (((it n (xq s b)).c).toNat : Int) ∧ d = .int .u64 (((it n (xq s b)).d).toNat : Int)) (fun _ _ _ _ _ i => 10 - (intOf i).toNat)
  case atStart => exact ⟨0, by omega, rfl, rfl, rfl, rfl, rfl, rfl⟩
  case round =>
    obtain ⟨n, hn, rfl, rfl, rfl, rfl, rfl, rfl⟩ := hrel
    by_cases hlt : n < 10
    · go_wp2
      go_round
      case rel =>
        simp only [w_addk, w_add, w_xor, w_rl39, w_rl21, UInt64.add_assoc]
        exact ⟨n + 1, by omega, by go_num, rfl, rfl, rfl, rfl, rfl⟩
      case measure => simp [intOf]; omega
    · have hn10 : n = 10 := by omega
      subst hn10
      go_wp2
      simp only [w_xor]
      exact bodyPost_ret (v := .agg #[.int .u64 ((HB s b).a.toNat : Int), .int .u64 ((HB s b).b.toNat : Int), .int .u64 ((HB s b).c.toNat : Int), .int .u64 ((HB s b).d.toNat : Int)]) (by simp [results, Try.results52, go_sem, HB, xq]) rfl ⟨rfl, (by repeat' (first | (with_reducible exact Below.refl _ _) | (with_reducible assumption) | (with_reducible refine below_drewN ?_ _) | (with_reducible refine Below.setCell ?_ ?_ _) | (with_reducible refine Below.alloc ?_ ?_ _) | (with_reducible refine Below.drew ?_) | go_size))⟩

end Go.Proofs.Ytjmfegfkigaabaa
