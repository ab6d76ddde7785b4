/-
  Letters: whether one is ok, by both; a letter measured and copied.
-/
import Derived.Test.YteaaaojafipllaaDoorInts
import Derived.Test.YteaaaojafipllaaDoorRows
import Derived.Test.YteaaaojafipllaaDoorPlain
import Derived.Handy
import Derived.Deep.QuietTactic
import Derived.BigQuiet
import Derived.WalkLawsBesides
namespace Go.Proofs.YteaaaojafipllaaDoor
open Go.RowKit

/-- A letter that is ok: between the nodes f and t, of n bytes. -/
def letOk (f t : Int) (n : Nat) : Bool := decide (0 ≤ f ∧ f ≤ 20) && decide (0 ≤ t ∧ t ≤ 20) && decide (n ≤ 600)

theorem node_is (n : Int) (w : World) : Calls Tryd.prog 39 #[.int .i64 n] w fun e w' => e = .returned (.bool (decide (0 ≤ n ∧ n ≤ 20))) ∧ w' = w := by
  by_cases h1 : 0 ≤ n
  · have e : decide (0 ≤ n ∧ n ≤ 20) = decide (n ≤ 20) := by simp [h1]
    rw [e]
    clear e
    go_enter Tryd.func39, Tryd.ntmps39
    go_wp2
    go_ret
    exact ⟨rfl, rfl⟩
  · have e : decide (0 ≤ n ∧ n ≤ 20) = false := by simp [h1]
    rw [e]
    clear e
    go_enter Tryd.func39, Tryd.ntmps39
    go_wp2
    go_ret
    exact ⟨rfl, rfl⟩
theorem in20_is (n : Int) (w : World) : Calls Tryd.prog 11 #[.int .i64 n, .int .i64 0, .int .i64 20] w fun e w' => e = .returned (.bool (decide (0 ≤ n ∧ n ≤ 20))) ∧ w' = w := by
  have := in_is n 0 20 w
  rwa [← Bool.decide_and] at this
/-- A letter in the block B. -/
def Le (B : Nat) (f t : Int) (s : ByteArray) (W : World) : Prop := B < W.heap.size ∧ W.cell? ⟨B, 0, none⟩ = some (.int .i64 f) ∧ W.cell? ⟨B, 1, none⟩ = some (.int .i64 t) ∧ W.cell? ⟨B, 2, none⟩ = some (.string s)
theorem Le.new (W : World) (f t : Int) (s : ByteArray) (y : TypeId) : Le W.heap.size f t s (W.alloc (.cells #[.int .i64 f, .int .i64 t, .string s] y)) := by
  refine ⟨by simp, ?_, ?_, ?_⟩ <;> simp [go_sem]
theorem Le.call {B : Nat} {f t : Int} {s : ByteArray} {W W' : World} (h : Le B f t s W) (hb : Below W.heap.size W W') : Le B f t s W' :=
  ⟨Nat.lt_of_lt_of_le h.1 hb.size, (hb.cell h.1).trans h.2.1, (hb.cell h.1).trans h.2.2.1, (hb.cell h.1).trans h.2.2.2⟩
end Go.Proofs.YteaaaojafipllaaDoor

/-
  The walks of HashBlock, on both sides: each comes to the plain function HB.
-/
namespace Go.Proofs.YteaaaojafipllaaDoor
open Go.RowKit

set_option maxHeartbeats 400000 in
/-- toDigest: the world is told to the block. -/
theorem toD_is (q : Qd) (w : World) :
    Calls Tryd.prog 34 #[.agg #[.int .u64 ((q).a.toNat : Int), .int .u64 ((q).b.toNat : Int), .int .u64 ((q).c.toNat : Int), .int .u64 ((q).d.toNat : Int)]] w fun e w' => e = .returned (.agg #[.int .u64 ((q).a.toNat : Int), .int .u64 ((q).b.toNat : Int), .int .u64 ((q).c.toNat : Int), .int .u64 ((q).d.toNat : Int)]) ∧ w' = ((w.alloc (.cells #[Value.int IntKind.u64 ((q).a.toNat : Int), Value.int IntKind.u64 ((q).b.toNat : Int), Value.int IntKind.u64 ((q).c.toNat : Int), Value.int IntKind.u64 ((q).d.toNat : Int)] 24)).alloc (.cells #[Value.int IntKind.u64 ((q).a.toNat : Int), Value.int IntKind.u64 ((q).b.toNat : Int), Value.int IntKind.u64 ((q).c.toNat : Int), Value.int IntKind.u64 ((q).d.toNat : Int)] 34)).alloc (.cells #[Value.int IntKind.u64 ((q).a.toNat : Int), Value.int IntKind.u64 ((q).b.toNat : Int), Value.int IntKind.u64 ((q).c.toNat : Int), Value.int IntKind.u64 ((q).d.toNat : Int)] 34) := by
  go_enter Tryd.func34, Tryd.ntmps34
  go_wp2
  exact bodyPost_ret (v := .agg #[.int .u64 ((q).a.toNat : Int), .int .u64 ((q).b.toNat : Int), .int .u64 ((q).c.toNat : Int), .int .u64 ((q).d.toNat : Int)]) (by simp [results, Tryd.results34, go_sem]) rfl ⟨rfl, rfl⟩

set_option maxHeartbeats 1000000 in
theorem hb_impl (s b : Qd) (w : World) :
    Calls Tryd.prog 62 #[.agg #[.int .u64 ((s).a.toNat : Int), .int .u64 ((s).b.toNat : Int), .int .u64 ((s).c.toNat : Int), .int .u64 ((s).d.toNat : Int)], .agg #[.int .u64 ((b).a.toNat : Int), .int .u64 ((b).b.toNat : Int), .int .u64 ((b).c.toNat : Int), .int .u64 ((b).d.toNat : Int)]] w fun e w' => e = .returned (.agg #[.int .u64 ((HB s b).a.toNat : Int), .int .u64 ((HB s b).b.toNat : Int), .int .u64 ((HB s b).c.toNat : Int), .int .u64 ((HB s b).d.toNat : Int)]) ∧ Below w.heap.size w w' := by
  have h39 := b_39
  have h21 := b_21
  go_enter Tryd.func62, Tryd.ntmps62
  go_wp2
  go_quiet (fail)
  go_wp2
  go_quiet (fail)
  go_wp2
  simp only [w_xor]
  go_loop [5, 6, 7, 8, 9, 32] (fun a b' c d k i => ∃ n : Nat, n ≤ 10 ∧ i = .int .i64 n ∧ k = .int .u64 ((kk n).toNat : Int) ∧ a = .int .u64 (((it n (xq s b)).a).toNat : Int) ∧ b' = .int .u64 (((it n (xq s b)).b).toNat : Int) ∧ c = .int .u64 (((it n (xq s b)).c).toNat : Int) ∧ d = .int .u64 (((it n (xq s b)).d).toNat : Int)) (fun _ _ _ _ _ i => 10 - (intOf i).toNat)
  case atStart => exact ⟨0, by omega, rfl, rfl, rfl, rfl, rfl, rfl⟩
  case round =>
    obtain ⟨n, hn, rfl, rfl, rfl, rfl, rfl, rfl⟩ := hrel
    by_cases hlt : n < 10
    · go_wp2
      go_round
      case rel =>
        simp only [w_addk, w_add, w_xor, w_rl39, w_rl21]
        exact ⟨_, _, _, _, _, _, _, _, ⟨n + 1, by omega, by go_num, rfl, rfl, rfl, rfl, rfl⟩, rfl, rfl, rfl, rfl, rfl, rfl, rfl, rfl⟩
      case measure => simp [intOf]; omega
    · have hn10 : n = 10 := by omega
      subst hn10
      go_wp2
      simp only [w_xor]
      exact bodyPost_ret (v := .agg #[.int .u64 ((HB s b).a.toNat : Int), .int .u64 ((HB s b).b.toNat : Int), .int .u64 ((HB s b).c.toNat : Int), .int .u64 ((HB s b).d.toNat : Int)]) (by simp [results, Tryd.results62, go_sem, HB, xq]) rfl ⟨rfl, (by repeat' (first | (with_reducible exact Below.refl _ _) | (with_reducible assumption) | (with_reducible refine below_drewN ?_ _) | (with_reducible refine Below.setCell ?_ ?_ _) | (with_reducible refine Below.alloc ?_ ?_ _) | (with_reducible refine Below.drew ?_) | go_size))⟩

end Go.Proofs.YteaaaojafipllaaDoor
