/-
  Sets of witnesses: the program's side.
-/
import Derived.Test.YtdpbgcilkidbaaaDoorCl5
namespace Go.Proofs.YtdpbgcilkidbaaaDoor
open Go.RowKit

theorem with_is (s n : Nat) (hs : s < 256) (h1 : 1 ≤ n) (h7 : n ≤ 7) (w : World) : Calls Tryd.prog 31 #[.int .u64 (s : Int), .int .i64 (n : Int)] w fun e w' => e = .returned (.int .u64 ((s ||| 2 ^ n : Nat) : Int)) ∧ w' = w := by
  obtain rfl | rfl | rfl | rfl | rfl | rfl | rfl : n = 1 ∨ n = 2 ∨ n = 3 ∨ n = 4 ∨ n = 5 ∨ n = 6 ∨ n = 7 := by omega
  all_goals
    go_enter Tryd.func31, Tryd.ntmps31
    generalize hy : (s : Int) = y
    have HY : Hid ((s : Int) = y) := hy
    clear hy h1 h7
    go_wp2_with fail
    go_ret
    refine ⟨congrArg Ending.returned (congrArg (Value.int IntKind.u64) ?_), rfl⟩
    have hy := HY.out
    subst hy
    clear HY
    revert hs
    revert s
    decide +kernel
theorem wsz_is (s : Nat) (hs : s ≤ 256) (w : World) : Calls Tryd.prog 29 #[.int .u64 (s : Int)] w fun e w' => e = .returned (.int .i64 (pc s : Int)) ∧ w' = w := by
  go_enter Tryd.func29, Tryd.ntmps29
  go_wp2_with (go_at_call 32; refine (ones_is s hs _).mono ?_; rintro e w1 ⟨rfl, rfl⟩)
  go_ret
  exact ⟨rfl, rfl⟩
theorem pc_more : ∀ n, n < 8 → ∀ s, s < 2 ^ n → pc (s ||| 2 ^ n) = pc s + 1 := by decide +kernel
theorem or_more : ∀ n, n < 8 → ∀ s, s < 2 ^ n → s ||| 2 ^ n = s + 2 ^ n := by decide +kernel
/-- The set s is of the first k numbers. -/
def SetOf (X : List Int) (k s : Nat) : Prop := pc s = k ∧ s < 256 ∧ (k = 0 → s = 0) ∧ ∀ h : k - 1 < X.length, 0 < k → 2 ^ X[k - 1].toNat ≤ s ∧ s < 2 ^ (X[k - 1].toNat + 1)
theorem SetOf.zero (X : List Int) : SetOf X 0 0 := ⟨rfl, by omega, fun _ => rfl, fun _ h => by omega⟩
theorem pow_mono {a b : Nat} (h : a ≤ b) : 2 ^ a ≤ 2 ^ b := Nat.pow_le_pow_right (by omega) h
/-- A number above all of the set is not in what is left of it; any other is. -/
theorem SetOf.above {m : Int} {X : List Int} {k s : Nat} (h : SetOf X k s) (ha : Asc m X k) (hk : k < X.length) (h1 : 1 ≤ X[k]) : s < 2 ^ X[k].toNat ↔ ∀ _ : 0 < k, X[k - 1] < X[k] := by
  obtain ⟨-, -, h0, hs⟩ := h
  by_cases hk0 : k = 0
  · subst hk0
    rw [h0 rfl]
    exact ⟨fun _ h => absurd h (by omega), fun _ => Nat.pow_pos (by omega)⟩
  · have hp := hs (by omega) (by omega)
    have hb := (ha (k - 1) (by omega) (by omega)).1
    constructor
    · intro h _
      by_cases hlt : X[k - 1] < X[k]
      · exact hlt
      · have := pow_mono (show X[k].toNat ≤ X[k - 1].toNat by omega)
        omega
    · intro h
      have := pow_mono (show X[k - 1].toNat + 1 ≤ X[k].toNat by have := h (by omega); omega)
      omega
theorem SetOf.step {X : List Int} {k s : Nat} (h : SetOf X k s) (hk : k < X.length) (h7 : X[k].toNat < 8) (hs : s < 2 ^ X[k].toNat) : SetOf X (k + 1) (s ||| 2 ^ X[k].toNat) := by
  have e := or_more _ h7 s hs
  have hp : 2 ^ X[k].toNat ≤ 2 ^ 7 := pow_mono (by omega)
  refine ⟨by rw [pc_more _ h7 s hs, h.1], by rw [e]; omega, fun h => by omega, fun _ _ => ?_⟩
  show 2 ^ X[k].toNat ≤ _ ∧ _ < 2 ^ (X[k].toNat + 1)
  rw [e, Nat.pow_succ]
  omega
set_option maxRecDepth 20000 in
set_option maxHeartbeats 4000000 in
theorem wof_is (W : World) (m : Int) (hm : 1 ≤ m ∧ m ≤ 7) (v : Value) (X : List Int) (h : Its W v X) :
    Calls Tryd.prog 28 #[v, .int .i64 m] W fun e w' => ∃ (s : Nat) (b : Bool), e = .returned (.tuple #[.int .u64 (s : Int), .bool b]) ∧ w' = W ∧ (b = true ↔ Asc m X X.length) ∧ (b = true → s < 256 ∧ pc s = X.length) := by
  obtain ⟨oa, cap, rfl, hl⟩ := h.len
  have H : Hid (Its W (.slice oa X.length cap) X) := h
  clear h
  go_enter Tryd.func28, Tryd.ntmps28
  go_wp2_with fail
  go_loopw [6, 11] (fun s i wr => ∃ k t : Nat, k ≤ X.length ∧ s = .int .u64 (t : Int) ∧ i = .int .i64 (k : Int) ∧ wr = W ∧ Hid (Asc m X k ∧ SetOf X k t)) (fun _ i _ => X.length - (intOf i).toNat)
  case atStart => exact ⟨0, 0, by omega, rfl, rfl, rfl, Asc.zero _ _, SetOf.zero _⟩
  case round =>
    obtain ⟨k, t, hkx, rfl, rfl, rfl, HK⟩ := hrel
    obtain ⟨hA, hS⟩ := HK.out
    clear HK
    by_cases hlt : k < X.length
    · have hkI : (k : Int) < (X.length : Int) := by omega
      obtain ⟨a, rfl, hcell⟩ : ∃ a, oa = some a ∧ ∀ i, ∀ h : i < X.length, wr.cell? (a.add i) = some (.int .i64 X[i]) := by
        rcases H.out with ⟨_, h0⟩ | ⟨a, cap', hv, _, _, _, hc⟩
        · rw [h0] at hlt; exact absurd hlt (Nat.not_lt_zero _)
        · injection hv with e1
          exact ⟨a, e1, hc⟩
      have hd := hcell k hlt
      have hab := hS.above hA hlt
      have hst := hS.step hlt
      have hAs := hA.step hlt
      have hfail : ∀ (_ : Asc m X X.length), 1 ≤ X[k] ∧ X[k] ≤ m ∧ ∀ _ : 0 < k, X[k - 1] < X[k] := fun h => h k hlt hlt
      have ht := hS.2.1
      clear hcell hA hS
      generalize X[k] = y at hd hab hst hAs hfail
      by_cases h1 : 1 ≤ y
      · by_cases h2 : y ≤ m
        · obtain ⟨n, hn⟩ : ∃ n : Nat, y = (n : Int) := ⟨y.toNat, by omega⟩
          subst hn
          rw [Int.toNat_natCast] at hab hst
          by_cases h3 : t < 2 ^ n
          · have HN : Hid (Asc m X (k + 1) ∧ SetOf X (k + 1) (t ||| 2 ^ n)) := ⟨hAs h1 h2 ((hab h1).1 h3), hst (by omega) h3⟩
            clear hab hst hAs hfail
            have cw := fun V : World => with_is t n ht (by omega) (by omega) V
            generalize (t ||| 2 ^ n : Nat) = t2 at HN cw
            obtain rfl | rfl | rfl | rfl | rfl | rfl | rfl : n = 1 ∨ n = 2 ∨ n = 3 ∨ n = 4 ∨ n = 5 ∨ n = 6 ∨ n = 7 := by omega
            · have h4 : (t : Int) / 2 = 0 := by omega
              go_wp2_with (go_at_call 31; refine (cw _).mono ?_; rintro e w1 ⟨rfl, hw1⟩; subst hw1)
              exact ⟨⟨k + 1, t2, by omega, rfl, by go_num, trivial, HN⟩, by simp [intOf]; omega⟩
            · have h4 : (t : Int) / 4 = 0 := by omega
              go_wp2_with (go_at_call 31; refine (cw _).mono ?_; rintro e w1 ⟨rfl, hw1⟩; subst hw1)
              exact ⟨⟨k + 1, t2, by omega, rfl, by go_num, trivial, HN⟩, by simp [intOf]; omega⟩
            · have h4 : (t : Int) / 8 = 0 := by omega
              go_wp2_with (go_at_call 31; refine (cw _).mono ?_; rintro e w1 ⟨rfl, hw1⟩; subst hw1)
              exact ⟨⟨k + 1, t2, by omega, rfl, by go_num, trivial, HN⟩, by simp [intOf]; omega⟩
            · have h4 : (t : Int) / 16 = 0 := by omega
              go_wp2_with (go_at_call 31; refine (cw _).mono ?_; rintro e w1 ⟨rfl, hw1⟩; subst hw1)
              exact ⟨⟨k + 1, t2, by omega, rfl, by go_num, trivial, HN⟩, by simp [intOf]; omega⟩
            · have h4 : (t : Int) / 32 = 0 := by omega
              go_wp2_with (go_at_call 31; refine (cw _).mono ?_; rintro e w1 ⟨rfl, hw1⟩; subst hw1)
              exact ⟨⟨k + 1, t2, by omega, rfl, by go_num, trivial, HN⟩, by simp [intOf]; omega⟩
            · have h4 : (t : Int) / 64 = 0 := by omega
              go_wp2_with (go_at_call 31; refine (cw _).mono ?_; rintro e w1 ⟨rfl, hw1⟩; subst hw1)
              exact ⟨⟨k + 1, t2, by omega, rfl, by go_num, trivial, HN⟩, by simp [intOf]; omega⟩
            · have h4 : (t : Int) / 128 = 0 := by omega
              go_wp2_with (go_at_call 31; refine (cw _).mono ?_; rintro e w1 ⟨rfl, hw1⟩; subst hw1)
              exact ⟨⟨k + 1, t2, by omega, rfl, by go_num, trivial, HN⟩, by simp [intOf]; omega⟩
          · have hno : ¬ Asc m X X.length := fun h => h3 ((hab h1).2 (hfail h).2.2)
            clear hab hst hAs hfail
            obtain rfl | rfl | rfl | rfl | rfl | rfl | rfl : n = 1 ∨ n = 2 ∨ n = 3 ∨ n = 4 ∨ n = 5 ∨ n = 6 ∨ n = 7 := by omega
            · have h4 : ((t : Int) / 2 != 0) = true := by rw [bne, beq_eq_false_iff_ne.2 (by omega)]; rfl
              go_wp2_with fail
              go_ret2
              first
                | exact ⟨0, false, rfl, rfl, no_of hno, fun h => by cases h⟩
                | exact ⟨⟨0, rfl⟩, rfl⟩
            · have h4 : ((t : Int) / 4 != 0) = true := by rw [bne, beq_eq_false_iff_ne.2 (by omega)]; rfl
              go_wp2_with fail
              go_ret2
              first
                | exact ⟨0, false, rfl, rfl, no_of hno, fun h => by cases h⟩
                | exact ⟨⟨0, rfl⟩, rfl⟩
            · have h4 : ((t : Int) / 8 != 0) = true := by rw [bne, beq_eq_false_iff_ne.2 (by omega)]; rfl
              go_wp2_with fail
              go_ret2
              first
                | exact ⟨0, false, rfl, rfl, no_of hno, fun h => by cases h⟩
                | exact ⟨⟨0, rfl⟩, rfl⟩
            · have h4 : ((t : Int) / 16 != 0) = true := by rw [bne, beq_eq_false_iff_ne.2 (by omega)]; rfl
              go_wp2_with fail
              go_ret2
              first
                | exact ⟨0, false, rfl, rfl, no_of hno, fun h => by cases h⟩
                | exact ⟨⟨0, rfl⟩, rfl⟩
            · have h4 : ((t : Int) / 32 != 0) = true := by rw [bne, beq_eq_false_iff_ne.2 (by omega)]; rfl
              go_wp2_with fail
              go_ret2
              first
                | exact ⟨0, false, rfl, rfl, no_of hno, fun h => by cases h⟩
                | exact ⟨⟨0, rfl⟩, rfl⟩
            · have h4 : ((t : Int) / 64 != 0) = true := by rw [bne, beq_eq_false_iff_ne.2 (by omega)]; rfl
              go_wp2_with fail
              go_ret2
              first
                | exact ⟨0, false, rfl, rfl, no_of hno, fun h => by cases h⟩
                | exact ⟨⟨0, rfl⟩, rfl⟩
            · have h4 : ((t : Int) / 128 != 0) = true := by rw [bne, beq_eq_false_iff_ne.2 (by omega)]; rfl
              go_wp2_with fail
              go_ret2
              first
                | exact ⟨0, false, rfl, rfl, no_of hno, fun h => by cases h⟩
                | exact ⟨⟨0, rfl⟩, rfl⟩
        · have hno : ¬ Asc m X X.length := fun h => h2 (hfail h).2.1
          clear hab hst hAs hfail
          go_wp2_with fail
          go_ret2
          first
            | exact ⟨0, false, rfl, rfl, no_of hno, fun h => by cases h⟩
            | exact ⟨⟨0, rfl⟩, rfl⟩
      · have hno : ¬ Asc m X X.length := fun h => h1 (hfail h).1
        clear hab hst hAs hfail
        go_wp2_with fail
        go_ret2
        first
          | exact ⟨0, false, rfl, rfl, no_of hno, fun h => by cases h⟩
          | exact ⟨⟨0, rfl⟩, rfl⟩
    · have hkk : k = X.length := by omega
      subst hkk
      have hyes : Asc m X X.length := hA
      have hp := hS.1
      have ht := hS.2.1
      clear hA hS
      go_wp2_with fail
      go_ret2
      first
        | exact ⟨t, true, rfl, rfl, yes_of hyes, fun _ => ⟨ht, hp⟩⟩
        | exact ⟨t, rfl, ht, hp⟩
        | exact ⟨⟨t, rfl⟩, ht, hp⟩
        | exact ⟨⟨t, rfl⟩, rfl⟩
        | exact ⟨t, rfl⟩
end Go.Proofs.YtdpbgcilkidbaaaDoor
