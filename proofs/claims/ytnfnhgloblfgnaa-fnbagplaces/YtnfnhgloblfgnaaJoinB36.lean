/-
  l1Many, walked.
-/
import Derived.Test.YtnfnhgloblfgnaaRd2
import Derived.Test.YtnfnhgloblfgnaaJoinB5
import Derived.Laws.OwnMore
namespace Go.Proofs.Ytnfnhgloblfgnaa
open Go.RowKit

theorem add_ok2 (x y : ByteArray) (hx : x.size ≤ 1000000) (hy : y.size ≤ 1000000) (W : World) : (Op.stringOp .add x y).run Try.prog W = .ok (.string (x ++ y)) W := run_string_add_sum W x y (by omega)
theorem half_sum (n s o N : Nat) (h : o + n * s = N) (hm : n % 2 = 1) : (o + s) + n / 2 * (s + s) = N := by
  have e : n = 2 * (n / 2) + 1 := by omega
  rw [e, Nat.add_mul, Nat.one_mul] at h
  rw [← h, Nat.mul_add, Nat.mul_comm 2 (n / 2), Nat.mul_assoc, Nat.two_mul, Nat.mul_add]
  omega
theorem half_sum0 (n s o N : Nat) (h : o + n * s = N) (hm : n % 2 = 0) : o + n / 2 * (s + s) = N := by
  have e : n = 2 * (n / 2) := by omega
  rw [e] at h
  rw [← h, Nat.mul_add, Nat.mul_comm 2 (n / 2), Nat.mul_assoc, Nat.two_mul, Nat.mul_add]

set_option maxRecDepth 20000 in
set_option maxHeartbeats 1000000 in
theorem many_is (s0 : ByteArray) (h1 : s0.size = 1) (N : Nat) (hN : N ≤ 100000) (W : World) :
    Calls Try.prog 44 #[.string s0, .int .i64 (N : Int)] W fun e w' => ∃ S : ByteArray, S.size ≤ 100000 ∧ e = .returned (.string S) ∧ w' = W := by
  go_enter Try.func44, Try.ntmps44
  go_wp2_with fail
  go_loopw [0, 1, 5] (fun s n o wr => ∃ (x y : ByteArray) (k : Nat), s = .string x ∧ n = .int .i64 (k : Int) ∧ o = .string y ∧ Hid (y.size + k * x.size = N ∧ 1 ≤ x.size ∧ x.size ≤ 200000) ∧ k ≤ 100000 ∧ Hid (W = wr)) (fun _ n _ _ => (intOf n).toNat)
  case atStart => exact ⟨s0, ByteArray.mk #[], N, rfl, rfl, rfl, ⟨by rw [h1]; show 0 + N * 1 = N; omega, by omega, by omega⟩, hN, rfl⟩
  case round =>
    obtain ⟨x, y, k, rfl, rfl, rfl, HI, hk, HW⟩ := hrel
    have hw := HW.out
    subst hw
    by_cases hlt : 0 < k
    · have hltI : (0 : Int) < (k : Int) := by omega
      obtain ⟨i1, i2, i3⟩ := HI.out
      have hxk : x.size ≤ k * x.size := Nat.le_mul_of_pos_left _ hlt
      have a2 := fun W : World => add_ok2 x x (by omega) (by omega) W
      have a1 := fun W : World => add_ok2 y x (by omega) (by omega) W
      have hdd : (x ++ x).size = x.size + x.size := ByteArray.size_append
      have hyy : (y ++ x).size = y.size + x.size := ByteArray.size_append
      have hdiv : (k : Int).tdiv 2 = ((k / 2 : Nat) : Int) := by rw [Int.tdiv_eq_ediv_of_nonneg (by omega)]; omega
      by_cases hm : k % 2 = 1
      · have hmI : ((k : Int).tmod 2 == 1) = true := by rw [Int.tmod_eq_emod_of_nonneg (by omega)]; rw [beq_iff_eq]; omega
        have hmI2 : ((k : Int) % 2 == 1) = true := by rw [beq_iff_eq]; omega
        have HN : Hid ((y ++ x).size + k / 2 * (x ++ x).size = N ∧ 1 ≤ (x ++ x).size ∧ (x ++ x).size ≤ 200000) := by
          refine ⟨?_, by omega, by omega⟩
          rw [hyy, hdd]
          exact half_sum k x.size y.size N i1 hm
        clear i1 i2 i3 hxk hdd hyy
        go_wp2_with fail
        go_roundw
        case rel => exact ⟨x ++ x, y ++ x, k / 2, rfl, congrArg (Value.int IntKind.i64) (by omega), rfl, HN, by omega, trivial⟩
        case measure => simp only [intOf]; omega
      · have hmI : ((k : Int).tmod 2 == 1) = false := by rw [Int.tmod_eq_emod_of_nonneg (by omega)]; rw [beq_eq_false_iff_ne]; omega
        have hmI2 : ((k : Int) % 2 == 1) = false := by rw [beq_eq_false_iff_ne]; omega
        have HN : Hid (y.size + k / 2 * (x ++ x).size = N ∧ 1 ≤ (x ++ x).size ∧ (x ++ x).size ≤ 200000) := by
          refine ⟨?_, by omega, by omega⟩
          rw [hdd]
          exact half_sum0 k x.size y.size N i1 (by omega)
        clear i1 i2 i3 hxk hdd hyy
        go_wp2_with fail
        go_roundw
        case rel => exact ⟨x ++ x, y, k / 2, rfl, congrArg (Value.int IntKind.i64) (by omega), rfl, HN, by omega, trivial⟩
        case measure => simp only [intOf]; omega
    · have hge : ¬ (0 : Int) < (k : Int) := by omega
      have HZ : Hid (y.size ≤ 100000) := by
        have := HI.out.1
        show _ ≤ _
        omega
      go_wp2
      go_ret
      exact ⟨y, HZ.out, rfl, rfl⟩
end Go.Proofs.Ytnfnhgloblfgnaa

/-
  Drawn leaves.
-/
namespace Go.Proofs.Ytnfnhgloblfgnaa
open Go.RowKit

/-- Texts as values. -/
def tcs (S : List ByteArray) : List Value := S.map Value.string
theorem tcs_len (S : List ByteArray) : (tcs S).length = S.length * 1 := by simp [tcs]
theorem tcs_append (S : List ByteArray) (s : ByteArray) : tcs (S ++ [s]) = tcs S ++ [.string s] := by simp [tcs]
theorem owt_len {W : World} {base n : Nat} {v : Value} {xs : List Value} (h : W.ownsRow base 9 1 v n xs) : ∃ a cap, v = .slice a n cap := by
  rcases h.2 with ⟨rfl, rfl⟩ | ⟨g, cap, cur, rfl, _⟩
  · exact ⟨none, 0, rfl⟩
  · exact ⟨_, cap, rfl⟩
theorem own_txt {W : World} {base : Nat} {v : Value} {S : List ByteArray} (h : W.ownsRow base 9 1 v S.length (tcs S)) : Txt W v S := by
  rcases id h.2 with ⟨rfl, h0⟩ | ⟨g, cap, cur, rfl, hg, hh, hn, hm, hs, ht⟩
  · exact .inl ⟨rfl, List.length_eq_zero_iff.1 h0⟩
  · refine .inr ⟨⟨g, 0, none⟩, cap, rfl, hn, hm, fun _ => (h.lt g rfl).2, fun i hi => ?_⟩
    rw [Addr.add_mid, Nat.zero_add, h.cellAt i (by omega)]
    simp [tcs]
theorem own_call9 {W W' : World} {base n : Nat} {v : Value} {xs : List Value} (h : W.ownsRow base 9 1 v n xs) (hb : Below W.heap.size W W') : W'.ownsRow base 9 1 v n xs :=
  h.kept (w' := W') (row := none) ⟨hb.os, hb.tape, hb.output, hb.size, fun k hk _ => hb.block k hk⟩ (by
    cases hv : v.ownBlock with
    | none => exact .inl rfl
    | some k => exact .inr (fun e => by cases e))
/-- A reader of leaves in the block X, over a reader in the block B. -/
def LRd (X B : Nat) (v : Value) (L : List UInt8) (p : Nat) (W : World) : Prop := RdAt B v L p W ∧ B < X ∧ X < W.heap.size ∧ W.cell? ⟨X, 0, none⟩ = some (.pointer (some ⟨B, 0, none⟩))
theorem LRd.next {X B p p' : Nat} {v : Value} {L : List UInt8} {W W' : World} (h : LRd X B v L p W) (h' : RdAt B v L p' W') (hg : W.grownBy W' (some B)) : LRd X B v L p' W' :=
  ⟨h', h.2.1, Nat.lt_of_lt_of_le h.2.2.1 hg.size, hg.cell h.2.2.2 (fun e => by have e' : X = B := (by injection e); have := h.2.1; omega)⟩
theorem grown_two {W W1 W2 : World} {r : Option Nat} (h : W.grownBy W1 r) (h' : W1.grownBy W2 r) : W.grownBy W2 r :=
  ⟨h'.os.trans h.os, h'.tape.trans h.tape, h'.output.trans h.output, Nat.le_trans h.size h'.size, fun k hk hne => (h'.block k (Nat.lt_of_lt_of_le hk h.size) hne).trans (h.block k hk hne)⟩
/-- What was handed in stands, but for the block B; what is new lies behind. -/
theorem grown_row {W W1 W2 : World} {B : Nat} {r : Option Nat} (h : W.grownBy W1 (some B)) (h' : W1.grownBy W2 r) (hr : ∀ k, r = some k → W.heap.size ≤ k) : W.grownBy W2 (some B) :=
  ⟨h'.os.trans h.os, h'.tape.trans h.tape, h'.output.trans h.output, Nat.le_trans h.size h'.size, fun k hk hne => (h'.block k (Nat.lt_of_lt_of_le hk h.size) (fun e => by have := hr k e.symm; omega)).trans (h.block k hk hne)⟩
theorem RdAt.row {B : Nat} {v : Value} {L : List UInt8} {p : Nat} {W W' : World} {r : Option Nat} (h : RdAt B v L p W) (g : W.grownBy W' r) (hr : ∀ k, r = some k → B < k) : RdAt B v L p W' := by
  obtain ⟨h0, h1, h2, h3, h4, h5⟩ := h
  have nB : some B ≠ r := fun e => by have := hr B e.symm; omega
  refine ⟨Nat.lt_of_lt_of_le h0 g.size, g.cell h1 nB, g.cell h2 nB, (World.frozen?_of_block (a := ⟨B, 1, none⟩) (g.block B h0 nB)).trans h3, h4, ?_⟩
  rcases h5 with h5 | ⟨a, cap, hv, hl, hb, hc⟩
  · exact .inl h5
  · exact .inr ⟨a, cap, hv, hl, hb, fun i hi => g.cell (hc i hi) (fun e => by
      have e2 : (a.add i).block = a.block := add_block a i
      have := hr _ e.symm
      omega)⟩
theorem LRd.row {X B p : Nat} {v : Value} {L : List UInt8} {W W' : World} {r : Option Nat} (h : LRd X B v L p W) (g : W.grownBy W' r) (hr : ∀ k, r = some k → X < k) : LRd X B v L p W' :=
  ⟨h.1.row g (fun k e => Nat.lt_trans h.2.1 (hr k e)), h.2.1, Nat.lt_of_lt_of_le h.2.2.1 g.size, g.cell h.2.2.2 (fun e => by have := hr X e.symm; omega)⟩
/-- What stands ahead of each round of leaves. -/
def LV (W : World) (X B : Nat) (v : Value) (L : List UInt8) (p : Nat) (u : Value) (S : List ByteArray) (wr : World) : Prop :=
  wr.ownsRow W.heap.size 9 1 u S.length (tcs S) ∧ LRd X B v L p wr ∧ W.grownBy wr (some B) ∧ ∀ s ∈ S, s.size ≤ 100000
end Go.Proofs.Ytnfnhgloblfgnaa
