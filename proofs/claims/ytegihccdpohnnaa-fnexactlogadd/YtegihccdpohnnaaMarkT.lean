/-
  A mark's text, as a function of its number.
-/
import Derived.Test.YtegihccdpohnnaaMarkS
namespace Go.Proofs.Ytegihccdpohnnaa
open Go.RowKit

def dgt (k : Nat) : UInt8 := UInt8.ofNat (48 + k % 10)
theorem dgt_is (k : Nat) : ((dgt k).toNat : Int) = 48 + ((k % 10 : Nat) : Int) := by
  unfold dgt
  rw [UInt8.toNat_ofNat', Nat.mod_eq_of_lt (by omega)]
  omega
/-- The digits of k ahead of s. -/
def mtF (k : Nat) (s : ByteArray) : ByteArray := if _h : k = 0 then s else mtF (k / 10) (str [dgt k] ++ s)
termination_by k
decreasing_by omega
theorem mtF_zero (s : ByteArray) : mtF 0 s = s := by unfold mtF; rw [dif_pos rfl]
theorem mtF_step (k : Nat) (s : ByteArray) (h : k ≠ 0) : mtF k s = mtF (k / 10) (str [dgt k] ++ s) := by
  rw [mtF, dif_neg h]
def mkT (k : Nat) : ByteArray := if k = 0 then ByteArray.mk #[109, 48] else ByteArray.mk #[109] ++ mtF k ByteArray.empty

set_option maxRecDepth 20000 in
set_option maxHeartbeats 1000000 in
theorem markT_is (k : Nat) (hk : k ≤ 16777216) (W : World) : Calls Try.prog 25 #[.int .i64 (k : Int)] W fun e w' => e = .returned (.string (mkT k)) ∧ Below W.heap.size W w' := by
  by_cases h0 : k = 0
  · subst h0
    go_enter Try.func25, Try.ntmps25
    go_wp2
    go_ret
    exact ⟨rfl, Below.refl _ _⟩
  have hkI : ¬ (k : Int) ≤ 0 := by omega
  have hT : mkT k = ByteArray.mk #[109] ++ mtF k ByteArray.empty := by unfold mkT; rw [if_neg h0]
  rw [hT]
  obtain ⟨T, hTT⟩ : ∃ T, T = mtF k ByteArray.empty := ⟨_, rfl⟩
  rw [← hTT]
  have HT0 : Hid (mtF k ByteArray.empty = T) := hTT.symm
  clear hT hTT
  go_enter Try.func25, Try.ntmps25
  go_wp2
  go_loopw [0, 3] (fun r o wr => ∃ (m : Nat) (s : ByteArray), r = .int .i64 (m : Int) ∧ o = .string s ∧ m + s.size ≤ 16777216 ∧ Hid (mtF m s = T) ∧ Hid (Below W.heap.size W wr)) (fun r _ _ => (intOf r).toNat)
  case atStart => exact ⟨k, ByteArray.empty, rfl, rfl, by show k + 0 ≤ _; omega, HT0, Below.refl _ _⟩
  case round =>
    obtain ⟨m, s, rfl, rfl, hm, HF, HB⟩ := hrel
    have lw : W.heap.size ≤ wr.heap.size := HB.out.size
    by_cases hp : m = 0
    · subst hp
      have hsT : s = T := by have := HF.out; rwa [mtF_zero] at this
      subst hsT
      have ha : ∀ V : World, (Op.stringOp .add (ByteArray.mk #[109]) s).run Try.prog V = .ok (.string (ByteArray.mk #[109] ++ s)) V := fun V => run_string_add_sum V _ _ (by show 1 + s.size ≤ _; omega)
      clear HF HT0
      go_wp2
      go_ret
      exact ⟨rfl, HB.out⟩
    · have hpI : 0 < (m : Int) := by omega
      have HF2 : Hid (mtF (m / 10) (str [dgt m] ++ s) = T) := by have := HF.out; rwa [mtF_step m s hp] at this
      have hx := dgt_is m
      obtain ⟨x, hxx⟩ : ∃ x, x = dgt m := ⟨_, rfl⟩
      rw [← hxx] at hx HF2
      obtain ⟨d, hd⟩ : ∃ d, d = m % 10 := ⟨_, rfl⟩
      rw [← hd] at hx
      have hd9 : d ≤ 9 := by omega
      have hmod : (m : Int).tmod 10 = (d : Int) := by rw [Int.tmod_eq_emod_of_nonneg (by omega)]; omega
      have hdiv : (m : Int).tdiv 10 = ((m / 10 : Nat) : Int) := by rw [Int.tdiv_eq_ediv_of_nonneg (by omega)]; omega
      have hw : IntKind.i64.wrap (48 + (d : Int)) = 48 + (d : Int) := IntWalk.i64_in _ (by omega)
      have hu : IntKind.u8.wrap (48 + (d : Int)) = (x.toNat : Int) := by rw [hx]; exact IntWalk.u8_in _ (by omega)
      have hcv : ∀ (V : World) (b : Nat), V.cell? ⟨b, 0, none⟩ = some (.int .u8 (x.toNat : Int)) → (convert 45 9 (.slice (some ⟨b, 0, none⟩) 1 1)).run Try.prog V = .ok (.string (str [x])) V := fun V b h => run_str_one V b x h
      have ha : ∀ V : World, (Op.stringOp .add (str [x]) s).run Try.prog V = .ok (.string (str [x] ++ s)) V := fun V => run_string_add_sum V _ _ (by show 1 + s.size ≤ _; omega)
      obtain ⟨y, hy⟩ : ∃ y, y = str [x] ++ s := ⟨_, rfl⟩
      rw [← hy] at ha HF2
      have hys : y.size = 1 + s.size := by rw [hy]; show (str [x] ++ s).size = _; rw [ByteArray.size_append]; rfl
      have HQ : Hid (m / 10 + y.size ≤ 16777216 ∧ m / 10 < m) := ⟨by omega, by omega⟩
      clear hy hys hx hd hxx HF HT0
      go_wp2
      refine ⟨⟨m / 10, y, ?_, rfl, HQ.out.1, HF2, HB.out.alloc lw _⟩, ?_⟩
      · first | rfl | rw [hdiv]
      · have := HQ.out.2
        simp only [intOf]; first | omega | (rw [hdiv]; omega)
end Go.Proofs.Ytegihccdpohnnaa
