/-
  A list of texts is marked.
-/
import Derived.Test.YtnfnhgloblfgnaaJoinB5
import Derived.Test.YtnfnhgloblfgnaaJoinB12
import Derived.Test.YtnfnhgloblfgnaaJoinB14
namespace Go.Proofs.Ytnfnhgloblfgnaa
open Go.RowKit

/-- The block B has n places that may be written. -/
def SR (B n : Nat) (W : World) : Prop := B < W.heap.size ∧ ∀ i, i < n → (W.cell? ⟨B, i, none⟩).isSome = true ∧ W.frozen? ⟨B, i, none⟩ = false
theorem SR.call {B n : Nat} {W W' : World} (h : SR B n W) (hb : Below W.heap.size W W') : SR B n W' :=
  ⟨Nat.lt_of_lt_of_le h.1 hb.size, fun i hi => ⟨by rw [hb.cell (p := ⟨B, i, none⟩) h.1]; exact (h.2 i hi).1, (hb.frozen (p := ⟨B, i, none⟩) h.1).trans (h.2 i hi).2⟩⟩
theorem SR.set {B n : Nat} {W : World} (h : SR B n W) (j : Nat) (x : Value) : SR B n (W.setCell ⟨B, j, none⟩ x) := by
  refine ⟨by simp only [World.size_setCell]; exact h.1, fun i hi => ⟨?_, by rw [World.frozen?_setCell]; exact (h.2 i hi).2⟩⟩
  by_cases e : j = i
  · subst e; rw [set_same (h.2 j hi).1]; rfl
  · rw [set_off e]; exact (h.2 i hi).1
set_option maxRecDepth 20000 in
set_option maxHeartbeats 1000000 in
theorem markText_is (k : Nat) (hk : k ≤ 16777216) (W : World) : Calls Try.prog 42 #[.int .i64 (k : Int)] W fun e w' => ∃ s, e = .returned (.string s) ∧ Below W.heap.size W w' := by
  by_cases h0 : k = 0
  · subst h0
    go_enter Try.func42, Try.ntmps42
    go_wp2
    go_ret
    exact ⟨_, rfl, Below.refl _ _⟩
  have hkI : ¬ (k : Int) ≤ 0 := by omega
  go_enter Try.func42, Try.ntmps42
  go_wp2
  go_loopw [0, 3] (fun r o wr => ∃ (m : Nat) (s : ByteArray), r = .int .i64 (m : Int) ∧ o = .string s ∧ m + s.size ≤ 16777216 ∧ Hid (Below W.heap.size W wr)) (fun r _ _ => (intOf r).toNat)
  case atStart => exact ⟨k, ByteArray.empty, rfl, rfl, by show k + 0 ≤ _; omega, Below.refl _ _⟩
  case round =>
    obtain ⟨m, s, rfl, rfl, hm, HB⟩ := hrel
    have lw : W.heap.size ≤ wr.heap.size := HB.out.size
    by_cases hp : m = 0
    · subst hp
      have ha : ∀ V : World, (Op.stringOp .add (ByteArray.mk #[109]) s).run Try.prog V = .ok (.string (ByteArray.mk #[109] ++ s)) V := fun V => run_string_add_sum V _ _ (by show 1 + s.size ≤ _; omega)
      go_wp2
      go_ret
      exact ⟨_, rfl, HB.out⟩
    · have hpI : 0 < (m : Int) := by omega
      obtain ⟨d, hd⟩ : ∃ d, d = m % 10 := ⟨_, rfl⟩
      have hd9 : d ≤ 9 := by omega
      have hmod : (m : Int).tmod 10 = (d : Int) := by rw [Int.tmod_eq_emod_of_nonneg (by omega)]; omega
      have hdiv : (m : Int).tdiv 10 = ((m / 10 : Nat) : Int) := by rw [Int.tdiv_eq_ediv_of_nonneg (by omega)]; omega
      have hw : IntKind.i64.wrap (48 + (d : Int)) = 48 + (d : Int) := IntWalk.i64_in _ (by omega)
      obtain ⟨x, hx⟩ : ∃ x : UInt8, (x.toNat : Int) = 48 + (d : Int) := ⟨UInt8.ofNat (48 + d), by rw [UInt8.toNat_ofNat', Nat.mod_eq_of_lt (by omega)]; omega⟩
      have hu : IntKind.u8.wrap (48 + (d : Int)) = (x.toNat : Int) := by rw [hx]; exact IntWalk.u8_in _ (by omega)
      have hcv : ∀ (V : World) (b : Nat), V.cell? ⟨b, 0, none⟩ = some (.int .u8 (x.toNat : Int)) → (convert 22 9 (.slice (some ⟨b, 0, none⟩) 1 1)).run Try.prog V = .ok (.string (str [x])) V := fun V b h => run_str_one V b x h
      have ha : ∀ V : World, (Op.stringOp .add (str [x]) s).run Try.prog V = .ok (.string (str [x] ++ s)) V := fun V => run_string_add_sum V _ _ (by show 1 + s.size ≤ _; omega)
      obtain ⟨y, hy⟩ : ∃ y, y = str [x] ++ s := ⟨_, rfl⟩
      rw [← hy] at ha
      have hys : y.size = 1 + s.size := by rw [hy]; show (str [x] ++ s).size = _; rw [ByteArray.size_append]; rfl
      have HQ : Hid (m / 10 + y.size ≤ 16777216 ∧ m / 10 < m) := ⟨by omega, by omega⟩
      clear hy hys hx hd
      go_wp2
      refine ⟨⟨m / 10, y, ?_, rfl, HQ.out.1, HB.out.alloc lw _⟩, ?_⟩
      · first | rfl | rw [hdiv]
      · have := HQ.out.2
        simp only [intOf]; first | omega | (rw [hdiv]; omega)
end Go.Proofs.Ytnfnhgloblfgnaa
