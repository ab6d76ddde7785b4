/-
  The reader of a code: what it holds; pick, walked.
-/
import Derived.Test.YtepgmdgcappfpaaRows
import Derived.Test.YtepgmdgcappfpaaJoinB2
import Derived.Deep.QuietTactic
import Derived.BigQuiet
import Derived.Deep.RegionWith
import Derived.Deep.RegionHeld3
import Derived.Deep.CutRange
import Derived.Deep.DeepCutAuto
import Derived.Deep.CutBlock
import Derived.Maps.AppendAt
import Derived.Deep.AppendLies
import Derived.Laws.BitsAllLaws
namespace Go.Proofs.Ytepgmdgcappfpaa
open Go.RowKit Go.BigFrame

theorem add_block' (a : Addr) (i : Nat) : (a.add i).block = a.block := by
  unfold Addr.add
  split <;> rfl
/-- A reader in the block B: its bytes L, p of them read. -/
def RdAt (B : Nat) (v : Value) (L : List UInt8) (p : Nat) (W : World) : Prop :=
  B < W.heap.size ∧ W.cell? ⟨B, 0, none⟩ = some v ∧ W.cell? ⟨B, 1, none⟩ = some (.int .i64 (p : Int)) ∧ W.frozen? ⟨B, 1, none⟩ = false ∧ L.length ≤ 2000 ∧
  ((∃ a cap, v = .slice a 0 cap ∧ L = []) ∨ ∃ (a : Addr) (cap : Nat), v = .slice (some a) L.length cap ∧ 0 < L.length ∧ a.block < B ∧ ∀ (i : Nat) (h : i < L.length), W.cell? (a.add i) = some (.int .u8 (L[i].toNat : Int)))
theorem RdAt.grown {B : Nat} {v : Value} {L : List UInt8} {p : Nat} {W W' : World} (h : RdAt B v L p W) (g : W.grownBy W' none) : RdAt B v L p W' := by
  obtain ⟨h0, h1, h2, h3, h4, h5⟩ := h
  refine ⟨Nat.lt_of_lt_of_le h0 g.size, g.cell h1 (by simp), g.cell h2 (by simp), (g.frozen_far _ h0 (by simp)).trans h3, h4, ?_⟩
  rcases h5 with h5 | ⟨a, cap, hv, hl, hb, hc⟩
  · exact .inl h5
  · exact .inr ⟨a, cap, hv, hl, hb, fun i hi => g.cell (hc i hi) (by simp)⟩
theorem RdAt.drew {B : Nat} {v : Value} {L : List UInt8} {p : Nat} {W : World} (h : RdAt B v L p W) : RdAt B v L p W.drew := h
theorem RdAt.step {B : Nat} {v : Value} {L : List UInt8} {p : Nat} {W : World} (h : RdAt B v L p W) (p' : Nat) : RdAt B v L p' (W.setCell ⟨B, 1, none⟩ (.int .i64 (p' : Int))) := by
  obtain ⟨h0, h1, h2, h3, h4, h5⟩ := h
  refine ⟨by simp only [World.size_setCell]; exact h0, ?_, ?_, by rw [World.frozen?_setCell]; exact h3, h4, ?_⟩
  · rw [set_off (by omega)]; exact h1
  · exact set_same (by rw [h2]; rfl)
  · rcases h5 with h5 | ⟨a, cap, hv, hl, hb, hc⟩
    · exact .inl h5
    · exact .inr ⟨a, cap, hv, hl, hb, fun i hi => c_set (hc i hi) (by show B ≠ _; rw [add_block']; omega)⟩
theorem grownR_set (W : World) (B o : Nat) (x : Value) : W.grownBy (W.setCell ⟨B, o, none⟩ x) (some B) :=
  ⟨rfl, rfl, rfl, by simp, fun i _ hne => heap_setCell_other _ _ _ _ (fun e => hne (by rw [e]))⟩
theorem grown_drew {W W' : World} {r : Option Nat} (h : W.grownBy W' r) : W.grownBy W'.drew r := ⟨h.os, h.tape, h.output, h.size, h.block⟩

theorem wrap_small (p : Nat) (h : p ≤ 100000000) : IntKind.i64.wrap (p : Int) = (p : Int) ∧ wrap64 (p : Int) = (p : Int) := by
  refine ⟨IntWalk.i64_in _ (by omega), ?_⟩
  unfold wrap64
  omega

set_option maxRecDepth 20000 in
set_option maxHeartbeats 1000000 in
theorem pick_none (B : Nat) (v : Value) (p : Nat) (W : World) (h : RdAt B v [] p W) (hp : p ≤ 100000000) (n : Int) :
    Calls Try.prog 30 #[.pointer (some ⟨B, 0, none⟩), .int .i64 n] W fun e w' => e = .returned (.int .i64 0) ∧ RdAt B v [] (p + 1) w' ∧ W.grownBy w' (some B) := by
  have HS : Hid (RdAt B v [] (p + 1) (W.setCell ⟨B, 1, none⟩ (.int .i64 ((p : Int) + 1)))) := h.step (p + 1)
  obtain ⟨h0, h1, h2, h3, h4, h5⟩ := h
  obtain ⟨a, cap, rfl⟩ : ∃ a cap, v = .slice a 0 cap := by
    rcases h5 with ⟨a, cap, rfl, _⟩ | ⟨a, cap, _, hl, _⟩
    · exact ⟨a, cap, rfl⟩
    · simp at hl
  have hw1 : IntKind.i64.wrap ((p : Int) + 1) = (p : Int) + 1 := IntWalk.i64_in _ (by omega)
  clear h4 h5
  go_enter Try.func30, Try.ntmps30
  go_wp2_with fail
  all_goals go_ret
  all_goals (exact ⟨rfl, HS.out, grownR_set _ _ _ _⟩)

set_option maxRecDepth 20000 in
set_option maxHeartbeats 1000000 in
theorem pick_in (B : Nat) (v : Value) (L : List UInt8) (p : Nat) (W : World) (h : RdAt B v L p W) (hp : p < L.length) (n : Int) (hn : 1 ≤ n) (hn2 : n ≤ 1000000000) :
    Calls Try.prog 30 #[.pointer (some ⟨B, 0, none⟩), .int .i64 n] W fun e w' => ∃ r : Nat, (r : Int) < n ∧ e = .returned (.int .i64 (r : Int)) ∧ RdAt B v L (p + 1) w' ∧ W.grownBy w' (some B) := by
  have HS : Hid (RdAt B v L (p + 1) (W.setCell ⟨B, 1, none⟩ (.int .i64 ((p : Int) + 1)))) := h.step (p + 1)
  obtain ⟨h0, h1, h2, h3, h4, h5⟩ := h
  rcases h5 with ⟨a, cap, rfl, hL⟩ | ⟨a, cap, rfl, hl, hb, hc⟩
  · rw [hL] at hp; simp at hp
  have hp8 : p ≤ 100000000 := Nat.le_trans (Nat.le_of_lt hp) (Nat.le_trans h4 (by decide))
  obtain ⟨x, hx⟩ : ∃ x, x = L[p] := ⟨_, rfl⟩
  have hcp := hc p hp
  rw [← hx] at hcp
  have hx256 := x.toNat_lt
  obtain ⟨X, hX⟩ : ∃ X : Int, X = (x.toNat : Int) := ⟨_, rfl⟩
  rw [← hX] at hcp
  have hX0 : 0 ≤ X := by omega
  have hX1 : X < 256 := by omega
  have hcs : (W.setCell ⟨B, 1, none⟩ (.int .i64 ((p : Int) + 1))).cell? (a.add p) = some (.int .u8 X) := c_set hcp (by show B ≠ _; rw [add_block']; omega)
  have hw1 : IntKind.i64.wrap ((p : Int) + 1) = (p : Int) + 1 := IntWalk.i64_in _ (by omega)
  have hwX : IntKind.i64.wrap X = X := IntWalk.i64_in _ (by omega)
  have hn1 : ¬ n < 1 := by omega
  have hne : ((L.length : Int) == 0) = false := by rw [beq_eq_false_iff_ne]; omega
  have hpl : (p : Int) < (L.length : Int) := by omega
  have hp0 : (0 : Int) ≤ (p : Int) := by omega
  obtain ⟨r, hr⟩ : ∃ r : Int, r = X % n := ⟨_, rfl⟩
  have hrm : X.tmod n = r := by rw [hr]; exact Int.tmod_eq_emod_of_nonneg hX0
  have hr0 : 0 ≤ r := by rw [hr]; exact Int.emod_nonneg _ (by omega)
  have hr1 : r < n := by rw [hr]; exact Int.emod_lt_of_pos _ (by omega)
  have hr2 : X % n = r := hr.symm
  have hwr : IntKind.i64.wrap r = r := IntWalk.i64_in _ (by omega)
  have hnz : (n == 0) = false := by rw [beq_eq_false_iff_ne]; omega
  have hnz' : n ≠ 0 := by omega
  have hL2 : (L.length : Int) ≤ 2000 := by omega
  have hwp := (wrap_small p hp8).2
  have hwp2 := (wrap_small p hp8).1
  clear h4 hc hx hX hx256 hr hcp
  have HE : Hid (Ending.returned (Value.int IntKind.i64 r) = Ending.returned (Value.int IntKind.i64 (r.toNat : Int))) := by
    show _ = _
    rw [Int.toNat_of_nonneg hr0]
  go_enter Try.func30, Try.ntmps30
  go_wp2_with fail
  go_ret
  exact ⟨r.toNat, by omega, HE.out, HS.out, grownR_set _ _ _ _⟩

theorem i64_xor_nat (a b : Nat) (ha : a < 4611686018427387904) (hb : b < 4611686018427387904) : bits .xor .i64 (a : Int) (b : Int) = ((a ^^^ b : Nat) : Int) := by
  have hx : a ^^^ b < 2 ^ 62 := Nat.xor_lt_two_pow (by omega) (by omega)
  show IntKind.i64.wrap ((BitVec.ofInt 64 (a : Int) ^^^ BitVec.ofInt 64 (b : Int)).toNat : Int) = _
  rw [BitVec.toNat_xor, ofInt_u64 a (by omega), ofInt_u64 b (by omega)]
  exact IntWalk.i64_in _ (by omega)
set_option maxRecDepth 20000 in
set_option maxHeartbeats 1000000 in
theorem pick_past (B : Nat) (v : Value) (L : List UInt8) (p : Nat) (W : World) (h : RdAt B v L p W) (hp : L.length ≤ p) (h0l : 0 < L.length) (hp8 : p ≤ 1000000) (n : Int) (hn : 1 ≤ n) (hn2 : n ≤ 1000000000) :
    Calls Try.prog 30 #[.pointer (some ⟨B, 0, none⟩), .int .i64 n] W fun e w' => ∃ r : Nat, (r : Int) < n ∧ e = .returned (.int .i64 (r : Int)) ∧ RdAt B v L (p + 1) w' ∧ W.grownBy w' (some B) := by
  have HS : Hid (RdAt B v L (p + 1) (W.setCell ⟨B, 1, none⟩ (.int .i64 ((p : Int) + 1)))) := h.step (p + 1)
  obtain ⟨h0, h1, h2, h3, h4, h5⟩ := h
  rcases h5 with ⟨a, cap, rfl, hL⟩ | ⟨a, cap, rfl, hl, hb, hc⟩
  · rw [hL] at h0l; simp at h0l
  obtain ⟨N, hN⟩ : ∃ N, N = L.length := ⟨_, rfl⟩
  obtain ⟨m1, hm1⟩ : ∃ m1, m1 = p % N := ⟨_, rfl⟩
  obtain ⟨m2, hm2⟩ : ∃ m2, m2 = (p * 7 + 3) % N := ⟨_, rfl⟩
  obtain ⟨d, hd⟩ : ∃ d, d = p / N := ⟨_, rfl⟩
  have hN0 : 0 < N := by omega
  have l1 : m1 < N := by rw [hm1]; exact Nat.mod_lt _ hN0
  have l2 : m2 < N := by rw [hm2]; exact Nat.mod_lt _ hN0
  have ld : d ≤ p := by rw [hd]; exact Nat.div_le_self _ _
  have t1 : (p : Int).tmod (N : Int) = (m1 : Int) := by rw [hm1, Int.tmod_eq_emod_of_nonneg (by omega)]; simp
  have t2 : ((p : Int) * 7 + 3).tmod (N : Int) = (m2 : Int) := by rw [hm2, Int.tmod_eq_emod_of_nonneg (by omega)]; simp
  have t3 : (p : Int).tdiv (N : Int) = (d : Int) := by rw [hd, Int.tdiv_eq_ediv_of_nonneg (by omega)]; simp
  have t1' : (p : Int) % (N : Int) = (m1 : Int) := by rw [hm1]; simp
  have t2' : ((p : Int) * 7 + 3) % (N : Int) = (m2 : Int) := by rw [hm2]; simp
  have t3' : (p : Int) / (N : Int) = (d : Int) := by rw [hd]; simp
  obtain ⟨x, hx⟩ : ∃ x, x = L[m1]'(by omega) := ⟨_, rfl⟩
  obtain ⟨y, hy⟩ : ∃ y, y = L[m2]'(by omega) := ⟨_, rfl⟩
  have hc1 := hc m1 (by omega)
  have hc2 := hc m2 (by omega)
  rw [← hx] at hc1
  rw [← hy] at hc2
  have hx256 := x.toNat_lt
  have hy256 := y.toNat_lt
  obtain ⟨X, hX⟩ : ∃ X : Int, X = (x.toNat : Int) := ⟨_, rfl⟩
  obtain ⟨Y, hY⟩ : ∃ Y : Int, Y = (y.toNat : Int) := ⟨_, rfl⟩
  rw [← hX] at hc1
  rw [← hY] at hc2
  have hX0 : 0 ≤ X := by omega
  have hX1 : X < 256 := by omega
  have hY0 : 0 ≤ Y := by omega
  have hY1 : Y < 256 := by omega
  have hcs1 : (W.setCell ⟨B, 1, none⟩ (.int .i64 ((p : Int) + 1))).cell? (a.add m1) = some (.int .u8 X) := c_set hc1 (by show B ≠ _; rw [add_block']; omega)
  have hcs2 : (W.setCell ⟨B, 1, none⟩ (.int .i64 ((p : Int) + 1))).cell? (a.add m2) = some (.int .u8 Y) := c_set hc2 (by show B ≠ _; rw [add_block']; omega)
  have g0 : (W.setCell ⟨B, 1, none⟩ (.int .i64 ((p : Int) + 1))).cell? ⟨B, 0, none⟩ = some (.slice (some a) N cap) := by rw [set_off (by omega), hN]; exact h1
  have w1 : IntKind.i64.wrap ((p : Int) + 1) = (p : Int) + 1 := IntWalk.i64_in _ (by omega)
  have w2 : IntKind.i64.wrap (p : Int) = (p : Int) := IntWalk.i64_in _ (by omega)
  have w4 : IntKind.i64.wrap ((p : Int) * 7) = (p : Int) * 7 := IntWalk.i64_in _ (by omega)
  have w5 : IntKind.i64.wrap ((p : Int) * 7 + 3) = (p : Int) * 7 + 3 := IntWalk.i64_in _ (by omega)
  have w6 : IntKind.i64.wrap (m1 : Int) = (m1 : Int) := IntWalk.i64_in _ (by omega)
  have w7 : IntKind.i64.wrap (m2 : Int) = (m2 : Int) := IntWalk.i64_in _ (by omega)
  have w8 : IntKind.i64.wrap (d : Int) = (d : Int) := IntWalk.i64_in _ (by omega)
  have w9 : IntKind.i64.wrap X = X := IntWalk.i64_in _ (by omega)
  have w10 : IntKind.i64.wrap Y = Y := IntWalk.i64_in _ (by omega)
  have w11 : IntKind.i64.wrap (X * 131) = X * 131 := IntWalk.i64_in _ (by omega)
  have w12 : IntKind.i64.wrap (Y * 1117) = Y * 1117 := IntWalk.i64_in _ (by omega)
  have w13 : IntKind.i64.wrap (X * 131 + Y * 1117) = X * 131 + Y * 1117 := IntWalk.i64_in _ (by omega)
  have w14 : IntKind.i64.wrap ((p : Int) * 29) = (p : Int) * 29 := IntWalk.i64_in _ (by omega)
  have w15 : IntKind.i64.wrap (X * 131 + Y * 1117 + (p : Int) * 29) = X * 131 + Y * 1117 + (p : Int) * 29 := IntWalk.i64_in _ (by omega)
  have w16 : IntKind.i64.wrap ((d : Int) * 53) = (d : Int) * 53 := IntWalk.i64_in _ (by omega)
  obtain ⟨T, hT⟩ : ∃ T : Int, T = X * 131 + Y * 1117 + (p : Int) * 29 + (d : Int) * 53 := ⟨_, rfl⟩
  have hT0 : 0 ≤ T := by omega
  have hT1 : T ≤ 1000000000 := by omega
  have w17 : IntKind.i64.wrap (X * 131 + Y * 1117 + (p : Int) * 29 + (d : Int) * 53) = T := by rw [← hT]; exact IntWalk.i64_in _ (by omega)
  have w18 : X * 131 + Y * 1117 + (p : Int) * 29 + (d : Int) * 53 = T := hT.symm
  have hn1 : ¬ n < 1 := by omega
  have hne : ((N : Int) == 0) = false := by rw [beq_eq_false_iff_ne]; omega
  have hnz : (N : Int) ≠ 0 := by omega
  have hnz2 : ¬ N = 0 := by omega
  have hpl : ¬ (p : Int) < (N : Int) := by omega
  have m10 : (0 : Int) ≤ (m1 : Int) := by omega
  have m11 : (m1 : Int) < (N : Int) := by omega
  have m20 : (0 : Int) ≤ (m2 : Int) := by omega
  have m21 : (m2 : Int) < (N : Int) := by omega
  have hnn : n ≠ 0 := by omega
  obtain ⟨Z, hZ⟩ : ∃ Z : Nat, Z = (T.toNat ^^^ (T / 64).toNat) := ⟨_, rfl⟩
  have hxor : bits .xor .i64 T (T / 64) = (Z : Int) := by
    have e := i64_xor_nat T.toNat (T / 64).toNat (by omega) (by omega)
    rw [Int.toNat_of_nonneg hT0, Int.toNat_of_nonneg (by omega)] at e
    rw [e, hZ]
  obtain ⟨r, hr⟩ : ∃ r : Int, r = (Z : Int) % n := ⟨_, rfl⟩
  have hr0 : 0 ≤ r := by rw [hr]; exact Int.emod_nonneg _ hnn
  have hr1 : r < n := by rw [hr]; exact Int.emod_lt_of_pos _ (by omega)
  have hrm : ((Z : Nat) : Int).tmod n = r := by rw [hr]; exact Int.tmod_eq_emod_of_nonneg (by omega)
  have hrm2 : ((Z : Nat) : Int) % n = r := hr.symm
  have hwr : IntKind.i64.wrap r = r := IntWalk.i64_in _ (by omega)
  have HE : Hid (Ending.returned (Value.int IntKind.i64 r) = Ending.returned (Value.int IntKind.i64 (r.toNat : Int))) := by
    show _ = _
    rw [Int.toNat_of_nonneg hr0]
  clear hZ hr
  rw [← hN] at h1
  clear hc hx hy hX hY hx256 hy256 hc1 hc2 hT hd hm1 hm2 ld h4 hp hl h0l hN
  go_enter Try.func30, Try.ntmps30
  go_wp2_with fail
  go_quiet (fail)
  go_wp2_with fail
  go_ret
  exact ⟨r.toNat, by omega, HE.out, HS.out, ⟨rfl, rfl, rfl, (grownR_set W B 1 _).size, (grownR_set W B 1 _).block⟩⟩

/-- pick, whatever the reader. -/
theorem pick_is (B : Nat) (v : Value) (L : List UInt8) (p : Nat) (W : World) (h : RdAt B v L p W) (hp8 : p ≤ 1000000) (n : Int) (hn : 1 ≤ n) (hn2 : n ≤ 1000000000) :
    Calls Try.prog 30 #[.pointer (some ⟨B, 0, none⟩), .int .i64 n] W fun e w' => ∃ r : Nat, (r : Int) < n ∧ e = .returned (.int .i64 (r : Int)) ∧ RdAt B v L (p + 1) w' ∧ W.grownBy w' (some B) := by
  by_cases h0 : L.length = 0
  · have : L = [] := List.length_eq_zero_iff.1 h0
    subst this
    exact (pick_none B v p W h (by omega) n).mono fun e w' ⟨he, h1, h2⟩ => ⟨0, by omega, he, h1, h2⟩
  · by_cases h1 : p < L.length
    · exact pick_in B v L p W h h1 n hn hn2
    · exact pick_past B v L p W h (by omega) (by omega) hp8 n hn hn2
end Go.Proofs.Ytepgmdgcappfpaa
