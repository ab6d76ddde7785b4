/-
  Each of these writes one word of a slot.
-/
import Derived.Test.YtjmfegfkigaabaaDWs3
namespace Go.Proofs.Ytjmfegfkigaabaa
open Go.RowKit

set_option maxRecDepth 20000 in
set_option maxHeartbeats 1000000 in
theorem lay0_is (B o : Nat) (x : UInt64) (W : World) (u : Value) (hc : W.cell? ⟨B, o + 0, none⟩ = some u) (hf : W.frozen? ⟨B, o + 0, none⟩ = false) :
    Calls Try.prog 54 #[.pointer (some ⟨B, o, none⟩), .int .u64 ((x).toNat : Int)] W fun e w' => e = .returned (.tuple #[]) ∧ W.setCell ⟨B, o + 0, none⟩ (.int .u64 ((x).toNat : Int)) = w' := by
  simp only [Nat.add_zero] at hc hf ⊢
  go_enter Try.func54, Try.ntmps54
  go_wp2
  go_end0
  exact ⟨rfl, rfl⟩
set_option maxRecDepth 20000 in
set_option maxHeartbeats 1000000 in
theorem lay1_is (B o : Nat) (x : UInt64) (W : World) (u : Value) (hc : W.cell? ⟨B, o + 1, none⟩ = some u) (hf : W.frozen? ⟨B, o + 1, none⟩ = false) :
    Calls Try.prog 55 #[.pointer (some ⟨B, o, none⟩), .int .u64 ((x).toNat : Int)] W fun e w' => e = .returned (.tuple #[]) ∧ W.setCell ⟨B, o + 1, none⟩ (.int .u64 ((x).toNat : Int)) = w' := by
  skip
  go_enter Try.func55, Try.ntmps55
  go_wp2
  go_end0
  exact ⟨rfl, rfl⟩
set_option maxRecDepth 20000 in
set_option maxHeartbeats 1000000 in
theorem lay2_is (B o : Nat) (x : UInt64) (W : World) (u : Value) (hc : W.cell? ⟨B, o + 2, none⟩ = some u) (hf : W.frozen? ⟨B, o + 2, none⟩ = false) :
    Calls Try.prog 56 #[.pointer (some ⟨B, o, none⟩), .int .u64 ((x).toNat : Int)] W fun e w' => e = .returned (.tuple #[]) ∧ W.setCell ⟨B, o + 2, none⟩ (.int .u64 ((x).toNat : Int)) = w' := by
  skip
  go_enter Try.func56, Try.ntmps56
  go_wp2
  go_end0
  exact ⟨rfl, rfl⟩
set_option maxRecDepth 20000 in
set_option maxHeartbeats 1000000 in
theorem lay3_is (B o : Nat) (x : UInt64) (W : World) (u : Value) (hc : W.cell? ⟨B, o + 3, none⟩ = some u) (hf : W.frozen? ⟨B, o + 3, none⟩ = false) :
    Calls Try.prog 57 #[.pointer (some ⟨B, o, none⟩), .int .u64 ((x).toNat : Int)] W fun e w' => e = .returned (.tuple #[]) ∧ W.setCell ⟨B, o + 3, none⟩ (.int .u64 ((x).toNat : Int)) = w' := by
  skip
  go_enter Try.func57, Try.ntmps57
  go_wp2
  go_end0
  exact ⟨rfl, rfl⟩
set_option maxRecDepth 20000 in
set_option maxHeartbeats 1000000 in
theorem lay4_is (B o : Nat) (x : UInt64) (W : World) (u : Value) (hc : W.cell? ⟨B, o + 4, none⟩ = some u) (hf : W.frozen? ⟨B, o + 4, none⟩ = false) :
    Calls Try.prog 58 #[.pointer (some ⟨B, o, none⟩), .int .u64 ((x).toNat : Int)] W fun e w' => e = .returned (.tuple #[]) ∧ W.setCell ⟨B, o + 4, none⟩ (.int .u64 ((x).toNat : Int)) = w' := by
  skip
  go_enter Try.func58, Try.ntmps58
  go_wp2
  go_end0
  exact ⟨rfl, rfl⟩
set_option maxRecDepth 20000 in
set_option maxHeartbeats 1000000 in
theorem lay5_is (B o : Nat) (x : UInt64) (W : World) (u : Value) (hc : W.cell? ⟨B, o + 5, none⟩ = some u) (hf : W.frozen? ⟨B, o + 5, none⟩ = false) :
    Calls Try.prog 59 #[.pointer (some ⟨B, o, none⟩), .int .u64 ((x).toNat : Int)] W fun e w' => e = .returned (.tuple #[]) ∧ W.setCell ⟨B, o + 5, none⟩ (.int .u64 ((x).toNat : Int)) = w' := by
  skip
  go_enter Try.func59, Try.ntmps59
  go_wp2
  go_end0
  exact ⟨rfl, rfl⟩
set_option maxRecDepth 20000 in
set_option maxHeartbeats 1000000 in
theorem lay6_is (B o : Nat) (x : UInt64) (W : World) (u : Value) (hc : W.cell? ⟨B, o + 6, none⟩ = some u) (hf : W.frozen? ⟨B, o + 6, none⟩ = false) :
    Calls Try.prog 60 #[.pointer (some ⟨B, o, none⟩), .int .u64 ((x).toNat : Int)] W fun e w' => e = .returned (.tuple #[]) ∧ W.setCell ⟨B, o + 6, none⟩ (.int .u64 ((x).toNat : Int)) = w' := by
  skip
  go_enter Try.func60, Try.ntmps60
  go_wp2
  go_end0
  exact ⟨rfl, rfl⟩
set_option maxRecDepth 20000 in
set_option maxHeartbeats 1000000 in
theorem pslot_is (B : Nat) (n : Int) (W : World) :
    Calls Try.prog 43 #[.pointer (some ⟨B, 0, none⟩), .int .i64 n] W fun e w' => e = .returned (.pointer (if n = 1 then some ⟨B, 0, none⟩ else if n = 2 then some ⟨B, 7, none⟩ else none)) ∧ W = w' := by
  by_cases h1 : n = 1
  · rw [if_pos h1]
    subst h1
    go_enter Try.func43, Try.ntmps43
    go_wp2
    go_ret
    exact ⟨rfl, rfl⟩
  rw [if_neg h1]
  have g1 : (n == 1) = false := beq_eq_false_iff_ne.2 h1
  by_cases h2 : n = 2
  · rw [if_pos h2]
    subst h2
    go_enter Try.func43, Try.ntmps43
    go_wp2
    go_ret
    exact ⟨rfl, rfl⟩
  rw [if_neg h2]
  have g2 : (n == 2) = false := beq_eq_false_iff_ne.2 h2
  go_enter Try.func43, Try.ntmps43
  go_wp2
  go_ret
  exact ⟨rfl, rfl⟩
set_option maxRecDepth 20000 in
theorem agg_lays : AggTy 64 7 := ⟨⟨_, Try.underlying64, rfl⟩, by kernel_rfl⟩
set_option maxRecDepth 20000 in
set_option maxHeartbeats 1000000 in
theorem layers_is (W : World) :
    Calls Try.prog 40 #[] W fun e w' => e = .returned (.agg #[Value.func (.func 54) #[] #[], Value.func (.func 55) #[] #[], Value.func (.func 56) #[] #[], Value.func (.func 57) #[] #[], Value.func (.func 58) #[] #[], Value.func (.func 59) #[] #[], Value.func (.func 60) #[] #[]]) ∧ Below W.heap.size W w' := by
  go_enter Try.func40, Try.ntmps40
  have HR := Room.new W #[Value.nilFunc, Value.nilFunc, Value.nilFunc, Value.nilFunc, Value.nilFunc, Value.nilFunc, Value.nilFunc] 64 7 rfl
  go_wp2_with (first
    | (with_reducible refine wpl_build #[Value.func (.func 54) #[] #[], Value.func (.func 55) #[] #[], Value.func (.func 56) #[] #[], Value.func (.func 57) #[] #[], Value.func (.func 58) #[] #[], Value.func (.func 59) #[] #[], Value.func (.func 60) #[] #[]] (by kernel_rfl) ?_)
    | (with_reducible refine wpl_store agg_lays W.heap.size 0 [Value.func (.func 54) #[] #[], Value.func (.func 55) #[] #[], Value.func (.func 56) #[] #[], Value.func (.func 57) #[] #[], Value.func (.func 58) #[] #[], Value.func (.func 59) #[] #[], Value.func (.func 60) #[] #[]] (by kernel_rfl) (by kernel_rfl) (by kernel_rfl) (by kernel_rfl) HR ?_; have HL := Lies.sc (vs := [Value.func (.func 54) #[] #[], Value.func (.func 55) #[] #[], Value.func (.func 56) #[] #[], Value.func (.func 57) #[] #[], Value.func (.func 58) #[] #[], Value.func (.func 59) #[] #[], Value.func (.func 60) #[] #[]]) (by kernel_rfl) HR; have HB := Below.sc (B := W.heap.size) (a := W) W.heap.size (Nat.le_refl _) [Value.func (.func 54) #[] #[], Value.func (.func 55) #[] #[], Value.func (.func 56) #[] #[], Value.func (.func 57) #[] #[], Value.func (.func 58) #[] #[], Value.func (.func 59) #[] #[], Value.func (.func 60) #[] #[]] 0 _ ((Below.refl _ W).alloc (Nat.le_refl _) (.cells #[Value.nilFunc, Value.nilFunc, Value.nilFunc, Value.nilFunc, Value.nilFunc, Value.nilFunc, Value.nilFunc] 64)); generalize (W.alloc (.cells #[Value.nilFunc, Value.nilFunc, Value.nilFunc, Value.nilFunc, Value.nilFunc, Value.nilFunc, Value.nilFunc] 64)).setCells W.heap.size 0 [Value.func (.func 54) #[] #[], Value.func (.func 55) #[] #[], Value.func (.func 56) #[] #[], Value.func (.func 57) #[] #[], Value.func (.func 58) #[] #[], Value.func (.func 59) #[] #[], Value.func (.func 60) #[] #[]] = wz at HL HB ⊢))
  exact bodyPost_ret (v := .agg #[Value.func (.func 54) #[] #[], Value.func (.func 55) #[] #[], Value.func (.func 56) #[] #[], Value.func (.func 57) #[] #[], Value.func (.func 58) #[] #[], Value.func (.func 59) #[] #[], Value.func (.func 60) #[] #[]]) (res_cells agg_lays Try.results40 _ _ W.heap.size 0 [Value.func (.func 54) #[] #[], Value.func (.func 55) #[] #[], Value.func (.func 56) #[] #[], Value.func (.func 57) #[] #[], Value.func (.func 58) #[] #[], Value.func (.func 59) #[] #[], Value.func (.func 60) #[] #[]] (by kernel_rfl) (by kernel_rfl) HL) rfl ⟨rfl, HB⟩
end Go.Proofs.Ytjmfegfkigaabaa
