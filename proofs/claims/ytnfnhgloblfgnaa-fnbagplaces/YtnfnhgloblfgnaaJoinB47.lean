/-
  The laws' own helpers over a code: more (a byte ahead of it), bare (a text without bytes 255).
-/
import Derived.Test.YtnfnhgloblfgnaaDraw3
import Derived.Deep.RegionHeld3
import Derived.Test.YtnfnhgloblfgnaaJoinB21
import Derived.Test.YtnfnhgloblfgnaaJoinB28
import Derived.Deep.CutRange
import Derived.Deep.DeepCutAuto
namespace Go.Proofs.Ytnfnhgloblfgnaa
open Go.RowKit

theorem Byt.own {W : World} {base : Nat} {v : Value} {l : List UInt8} (h : W.ownsRow base 5 1 v l.length (bv l)) : Byt W v l := by
  have hh := h
  rcases h.2 with ⟨rfl, h0⟩ | ⟨g, cap, cur, rfl, hb, hg, hn, hc, hs, ht⟩
  · exact .inl ⟨rfl, List.eq_nil_of_length_eq_zero h0⟩
  · refine .inr ⟨_, cap, rfl, hn, hc, fun _ => (Array.getElem?_eq_some_iff.1 hg).1, fun i hi => ?_⟩
    exact hh.cells rfl i _ (by simp [bv, List.getElem?_eq_getElem hi])

/-- The bytes of a text that are not 255. -/
def bar (l : List UInt8) : List UInt8 := l.filter fun x => x != 255
theorem bar_le (l : List UInt8) : (bar l).length ≤ l.length := List.length_filter_le _ _
theorem str_one (s : ByteArray) (j : Nat) (h : j < s.size) : s.extract j (j + 1) = str [s[j]] := by
  apply ByteArray.ext
  have hj : j < s.data.size := h
  show (s.extract j (j + 1)).data = #[s[j]]
  rw [ByteArray.data_extract]
  apply Array.ext
  · simp; omega
  · intro i h1 h2
    have hi : i = 0 := by simp at h2; omega
    subst hi
    simp [ByteArray.getElem_eq_getElem_data]
theorem str_app (l m : List UInt8) : str l ++ str m = str (l ++ m) := by
  apply ByteArray.ext
  rw [ByteArray.data_append]
  simp
theorem bar_step (s : ByteArray) (j : Nat) (h : j < s.size) (hx : s[j] ≠ 255) : str (bar (s.data.toList.take j)) ++ s.extract j (j + 1) = str (bar (s.data.toList.take (j + 1))) := by
  have hj : j < s.data.toList.length := by simpa using h
  rw [str_one s j h, str_app, List.take_succ_eq_append_getElem hj]
  congr 1
  have e : s.data.toList[j] = s[j] := by simp [ByteArray.getElem_eq_getElem_data]
  simp [bar, e, hx]
theorem bar_skip (s : ByteArray) (j : Nat) (h : j < s.size) (hx : s[j] = 255) : bar (s.data.toList.take (j + 1)) = bar (s.data.toList.take j) := by
  have hj : j < s.data.toList.length := by simpa using h
  have e : s.data.toList[j] = 255 := by rw [← hx]; simp [ByteArray.getElem_eq_getElem_data]
  rw [List.take_succ_eq_append_getElem hj]
  simp [bar, e]

end Go.Proofs.Ytnfnhgloblfgnaa

/-
  DrawHashOf, walked: whatever it draws.
-/
namespace Go.Proofs.Ytnfnhgloblfgnaa
open Go.RowKit

set_option maxRecDepth 20000 in
set_option maxHeartbeats 1000000 in
theorem many2_is (s0 : ByteArray) (h1 : s0.size = 2) (N : Nat) (hN : N ≤ 50000) (W : World) :
    Calls Try.prog 44 #[.string s0, .int .i64 (N : Int)] W fun e w' => ∃ S : ByteArray, S.size ≤ 100000 ∧ e = .returned (.string S) ∧ w' = W := by
  go_enter Try.func44, Try.ntmps44
  go_wp2_with fail
  go_loopw [0, 1, 5] (fun s n o wr => ∃ (x y : ByteArray) (k : Nat), s = .string x ∧ n = .int .i64 (k : Int) ∧ o = .string y ∧ Hid (y.size + k * x.size = N * 2 ∧ 1 ≤ x.size ∧ x.size ≤ 200000) ∧ k ≤ 100000 ∧ Hid (W = wr)) (fun _ n _ _ => (intOf n).toNat)
  case atStart => exact ⟨s0, ByteArray.mk #[], N, rfl, rfl, rfl, ⟨by rw [h1]; show 0 + N * 2 = N * 2; omega, by omega, by omega⟩, by omega, rfl⟩
  case round =>
    obtain ⟨x, y, k, rfl, rfl, rfl, HI, hk, HW⟩ := hrel
    have hw := HW.out
    subst hw
    by_cases hlt : 0 < k
    · have hltI : (0 : Int) < (k : Int) := by omega
      obtain ⟨i1, i2, i3⟩ := HI.out
      have hxk : x.size ≤ k * x.size := Nat.le_mul_of_pos_left _ hlt
      have a2 := fun W : World => add_ok2 x x (by omega) (by omega) W
      have a1 := fun W : World => add_ok2 y x (by omega) (by omega) W
      have hdd : (x ++ x).size = x.size + x.size := ByteArray.size_append
      have hyy : (y ++ x).size = y.size + x.size := ByteArray.size_append
      have hdiv : (k : Int).tdiv 2 = ((k / 2 : Nat) : Int) := by rw [Int.tdiv_eq_ediv_of_nonneg (by omega)]; omega
      by_cases hm : k % 2 = 1
      · have hmI : ((k : Int).tmod 2 == 1) = true := by rw [Int.tmod_eq_emod_of_nonneg (by omega)]; rw [beq_iff_eq]; omega
        have hmI2 : ((k : Int) % 2 == 1) = true := by rw [beq_iff_eq]; omega
        have HN : Hid ((y ++ x).size + k / 2 * (x ++ x).size = N * 2 ∧ 1 ≤ (x ++ x).size ∧ (x ++ x).size ≤ 200000) := by
          refine ⟨?_, by omega, by omega⟩
          rw [hyy, hdd]
          exact half_sum k x.size y.size (N * 2) i1 hm
        clear i1 i2 i3 hxk hdd hyy
        go_wp2_with fail
        go_roundw
        case rel => exact ⟨x ++ x, y ++ x, k / 2, rfl, congrArg (Value.int IntKind.i64) (by omega), rfl, HN, by omega, trivial⟩
        case measure => simp only [intOf]; omega
      · have hmI : ((k : Int).tmod 2 == 1) = false := by rw [Int.tmod_eq_emod_of_nonneg (by omega)]; rw [beq_eq_false_iff_ne]; omega
        have hmI2 : ((k : Int) % 2 == 1) = false := by rw [beq_eq_false_iff_ne]; omega
        have HN : Hid (y.size + k / 2 * (x ++ x).size = N * 2 ∧ 1 ≤ (x ++ x).size ∧ (x ++ x).size ≤ 200000) := by
          refine ⟨?_, by omega, by omega⟩
          rw [hdd]
          exact half_sum0 k x.size y.size (N * 2) i1 (by omega)
        clear i1 i2 i3 hxk hdd hyy
        go_wp2_with fail
        go_roundw
        case rel => exact ⟨x ++ x, y, k / 2, rfl, congrArg (Value.int IntKind.i64) (by omega), rfl, HN, by omega, trivial⟩
        case measure => simp only [intOf]; omega
    · have hge : ¬ (0 : Int) < (k : Int) := by omega
      have HZ : Hid (y.size ≤ 100000) := by
        have := HI.out.1
        show _ ≤ _
        omega
      go_wp2
      go_ret
      exact ⟨y, HZ.out, rfl, rfl⟩

end Go.Proofs.Ytnfnhgloblfgnaa

/-
  The laws' at: a byte of a code.
-/
namespace Go.Proofs.Ytnfnhgloblfgnaa
open Go.RowKit

theorem u8_nat (z : Int) : ∃ x : Nat, x < 256 ∧ IntKind.u8.wrap z = (x : Int) := by
  refine ⟨(z % 256).toNat, by omega, ?_⟩
  rw [IntKind.wrap_u8]
  omega

end Go.Proofs.Ytnfnhgloblfgnaa

/-
  The laws' at, at every code and place.
-/
namespace Go.Proofs.Ytnfnhgloblfgnaa
open Go.RowKit

theorem u8_end7 (z : Int) : ∃ x : Nat, x < 256 ∧ Ending.returned (Value.int IntKind.u8 (IntKind.u8.wrap z)) = Ending.returned (Value.int IntKind.u8 (x : Int)) := by
  obtain ⟨x, hx, h⟩ := u8_nat z
  exact ⟨x, hx, by rw [h]⟩
end Go.Proofs.Ytnfnhgloblfgnaa

/-
  BagDouble of the program.
-/
namespace Go.Proofs.Ytnfnhgloblfgnaa
open Go.RowKit

/-- What BagDouble tells: the room, the letters, whether there is one more. -/
def bdbl (m : Int) (L : List Lt) (k : Int) : Int × List Lt × Bool :=
  if bagOk m L = true then (if h : 0 < L.length then (if (L.length : Int) < m then (m, L ++ [L[bpos k L.length]'(bpos_lt k _ h)], true) else (m, L, false)) else (m, L, false)) else (0, [], false)
/-- The boxes of the bag and of the answer. -/
def B2 (W : World) (m : Int) (v : Value) (w' : World) : Prop := C2 W.heap.size (.int .i64 m) v w' ∧ C2 (W.heap.size + 1) (.int .i64 0) (.slice none 0 0) w' ∧ Below W.heap.size W w'
theorem B2.call {W : World} {m : Int} {v : Value} {w1 w2 : World} (h : B2 W m v w1) (hb : Below w1.heap.size w1 w2) : B2 W m v w2 := ⟨h.1.call hb, h.2.1.call hb, below_after h.2.2 hb h.2.2.size⟩
theorem B2.grown {W : World} {m : Int} {v : Value} {w1 w2 : World} {N : Nat} (h : B2 W m v w1) (hg : w1.grownBy w2 (some N)) (hN : W.heap.size + 1 < N) : B2 W m v w2 :=
  ⟨h.1.grown hg (fun e => by injection e with e; omega), h.2.1.grown hg (fun e => by injection e with e; omega), h.2.2.grown hg h.2.2.size (fun k e => by injection e with e; omega)⟩
theorem B2.new (W : World) (m : Int) (v : Value) : B2 W m v ((W.alloc (.cells #[.int .i64 m, v] 25)).alloc (.cells #[.int .i64 0, .slice none 0 0] 25)) := by
  refine ⟨(C2.new W (.int .i64 m) v 25).alloc _, ?_, (by repeat' (first | (with_reducible exact Below.refl _ _) | (with_reducible assumption) | (with_reducible refine below_drewN ?_ _) | (with_reducible refine Below.setCell ?_ ?_ _) | (with_reducible refine Below.alloc ?_ ?_ _) | (with_reducible refine Below.drew ?_) | go_size))⟩
  have := C2.new (W.alloc (.cells #[.int .i64 m, v] 25)) (.int .i64 0) (.slice none 0 0) 25
  rwa [World.size_alloc] at this

end Go.Proofs.Ytnfnhgloblfgnaa

/-
  BagDouble of the document.
-/
namespace Go.Proofs.Ytnfnhgloblfgnaa
open Go.RowKit

end Go.Proofs.Ytnfnhgloblfgnaa

/-
  BagDouble of the document, where there is room.
-/
namespace Go.Proofs.Ytnfnhgloblfgnaa
open Go.RowKit

end Go.Proofs.Ytnfnhgloblfgnaa
