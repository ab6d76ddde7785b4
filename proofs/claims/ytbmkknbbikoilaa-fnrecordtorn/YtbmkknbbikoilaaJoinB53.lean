/-
  The laws' own helpers over a code: more (a byte ahead of it), bare (a text without bytes 255).
-/
import Derived.Test.YtbmkknbbikoilaaJoinB52
import Derived.Deep.RegionHeld3
namespace Go.Proofs.Ytbmkknbbikoilaa
open Go.RowKit

theorem Byt.own {W : World} {base : Nat} {v : Value} {l : List UInt8} (h : W.ownsRow base 5 1 v l.length (bv l)) : Byt W v l := by
  have hh := h
  rcases h.2 with ⟨rfl, h0⟩ | ⟨g, cap, cur, rfl, hb, hg, hn, hc, hs, ht⟩
  · exact .inl ⟨rfl, List.eq_nil_of_length_eq_zero h0⟩
  · refine .inr ⟨_, cap, rfl, hn, hc, fun _ => (Array.getElem?_eq_some_iff.1 hg).1, fun i hi => ?_⟩
    exact hh.cells rfl i _ (by simp [bv, List.getElem?_eq_getElem hi])

/-- The bytes of a text that are not 255. -/
def bar (l : List UInt8) : List UInt8 := l.filter fun x => x != 255
theorem bar_le (l : List UInt8) : (bar l).length ≤ l.length := List.length_filter_le _ _
theorem str_one (s : ByteArray) (j : Nat) (h : j < s.size) : s.extract j (j + 1) = str [s[j]] := by
  apply ByteArray.ext
  have hj : j < s.data.size := h
  show (s.extract j (j + 1)).data = #[s[j]]
  rw [ByteArray.data_extract]
  apply Array.ext
  · simp; omega
  · intro i h1 h2
    have hi : i = 0 := by simp at h2; omega
    subst hi
    simp [ByteArray.getElem_eq_getElem_data]
theorem str_app (l m : List UInt8) : str l ++ str m = str (l ++ m) := by
  apply ByteArray.ext
  rw [ByteArray.data_append]
  simp
theorem bar_step (s : ByteArray) (j : Nat) (h : j < s.size) (hx : s[j] ≠ 255) : str (bar (s.data.toList.take j)) ++ s.extract j (j + 1) = str (bar (s.data.toList.take (j + 1))) := by
  have hj : j < s.data.toList.length := by simpa using h
  rw [str_one s j h, str_app, List.take_succ_eq_append_getElem hj]
  congr 1
  have e : s.data.toList[j] = s[j] := by simp [ByteArray.getElem_eq_getElem_data]
  simp [bar, e, hx]
theorem bar_skip (s : ByteArray) (j : Nat) (h : j < s.size) (hx : s[j] = 255) : bar (s.data.toList.take (j + 1)) = bar (s.data.toList.take j) := by
  have hj : j < s.data.toList.length := by simpa using h
  have e : s.data.toList[j] = 255 := by rw [← hx]; simp [ByteArray.getElem_eq_getElem_data]
  rw [List.take_succ_eq_append_getElem hj]
  simp [bar, e]

end Go.Proofs.Ytbmkknbbikoilaa

/-
  DrawHashOf, walked: whatever it draws.
-/
namespace Go.Proofs.Ytbmkknbbikoilaa
open Go.RowKit

end Go.Proofs.Ytbmkknbbikoilaa

/-
  The laws' at: a byte of a code.
-/
namespace Go.Proofs.Ytbmkknbbikoilaa
open Go.RowKit

theorem u8_nat (z : Int) : ∃ x : Nat, x < 256 ∧ IntKind.u8.wrap z = (x : Int) := by
  refine ⟨(z % 256).toNat, by omega, ?_⟩
  rw [IntKind.wrap_u8]
  omega

set_option maxRecDepth 20000 in
set_option maxHeartbeats 400000 in
theorem at_none (W : World) (oa : Option Addr) (n cap : Nat) (hn : n = 0) (i : Nat) (hi : i ≤ 1000) :
    Calls Try.prog 21 #[.slice oa n cap, .int .i64 (i : Int)] W fun e w' => ∃ x : Nat, x < 256 ∧ e = .returned (.int .u8 (x : Int)) ∧ Below W.heap.size W w' := by
  subst hn
  have hw37 : IntKind.i64.wrap ((i : Int) * 37) = (i : Int) * 37 := IntWalk.i64_in _ (by omega)
  obtain ⟨z, hz, hzw⟩ := u8_nat ((i : Int) * 37)
  go_enter Try.func21, Try.ntmps21
  go_wp2_with fail
  go_ret
  exact ⟨z, hz, rfl, Below.refl _ _⟩

set_option maxRecDepth 20000 in
set_option maxHeartbeats 400000 in
theorem at_in (W : World) (a : Addr) (n cap : Nat) (i : Nat) (hi : i ≤ 1000) (h6 : i < n) (x : Nat) (hx : x < 256) (hc : W.cell? (a.add i) = some (.int .u8 (x : Int))) :
    Calls Try.prog 21 #[.slice (some a) n cap, .int .i64 (i : Int)] W fun e w' => ∃ x : Nat, x < 256 ∧ e = .returned (.int .u8 (x : Int)) ∧ Below W.heap.size W w' := by
  have h0I : ((n : Int) == 0) = false := by rw [beq_eq_false_iff_ne]; omega
  have hi0 : (0 : Int) ≤ (i : Int) := by omega
  have h6I : (i : Int) < (n : Int) := by omega
  have hwp := (wrap_small i (by omega)).2
  have hwp2 := (wrap_small i (by omega)).1
  go_enter Try.func21, Try.ntmps21
  go_wp2_with fail
  go_ret
  exact ⟨x, hx, rfl, Below.refl _ _⟩

end Go.Proofs.Ytbmkknbbikoilaa

/-
  The laws' at, at every code and place.
-/
namespace Go.Proofs.Ytbmkknbbikoilaa
open Go.RowKit

theorem u8_end7 (z : Int) : ∃ x : Nat, x < 256 ∧ Ending.returned (Value.int IntKind.u8 (IntKind.u8.wrap z)) = Ending.returned (Value.int IntKind.u8 (x : Int)) := by
  obtain ⟨x, hx, h⟩ := u8_nat z
  exact ⟨x, hx, by rw [h]⟩
set_option maxRecDepth 20000 in
set_option maxHeartbeats 1000000 in
theorem at_past7 (W : World) (a : Addr) (N cap : Nat) (hN0 : 0 < N) (hNm : N ≤ 1048576) (i : Nat) (hi : i ≤ 1000) (h6 : N ≤ i) (f : Nat → Nat) (hf : ∀ j, f j < 256) (hc : ∀ j, j < N → W.cell? (a.add j) = some (.int .u8 (f j : Int))) :
    Calls Try.prog 21 #[.slice (some a) N cap, .int .i64 (i : Int)] W fun e w' => ∃ x : Nat, x < 256 ∧ e = .returned (.int .u8 (x : Int)) ∧ Below W.heap.size W w' := by
  have h0I : ((N : Int) == 0) = false := by rw [beq_eq_false_iff_ne]; omega
  have hi0 : (0 : Int) ≤ (i : Int) := by omega
  have h6I : ¬ (i : Int) < (N : Int) := by omega
  obtain ⟨m1, hm1⟩ : ∃ m1, m1 = i % N := ⟨_, rfl⟩
  obtain ⟨m2, hm2⟩ : ∃ m2, m2 = (i * 5 + 1) % N := ⟨_, rfl⟩
  have l1 : m1 < N := by rw [hm1]; exact Nat.mod_lt _ hN0
  have l2 : m2 < N := by rw [hm2]; exact Nat.mod_lt _ hN0
  have t1 : (i : Int).tmod (N : Int) = (m1 : Int) := by rw [hm1, Int.tmod_eq_emod_of_nonneg (by omega)]; simp
  have t2 : ((i : Int) * 5 + 1).tmod (N : Int) = (m2 : Int) := by rw [hm2, Int.tmod_eq_emod_of_nonneg (by omega)]; simp
  have t1' : (i : Int) % (N : Int) = (m1 : Int) := by rw [hm1]; simp
  have t2' : ((i : Int) * 5 + 1) % (N : Int) = (m2 : Int) := by rw [hm2]; simp
  have c1 := hc m1 l1
  have c2 := hc m2 l2
  have y1 := hf m1
  have y2 := hf m2
  obtain ⟨x, hx⟩ : ∃ x, x = f m1 := ⟨_, rfl⟩
  obtain ⟨y, hy⟩ : ∃ y, y = f m2 := ⟨_, rfl⟩
  rw [← hx] at c1 y1
  rw [← hy] at c2 y2
  have a5 : IntKind.i64.wrap ((i : Int) * 5) = (i : Int) * 5 := IntWalk.i64_in _ (by omega)
  have a51 : IntKind.i64.wrap ((i : Int) * 5 + 1) = (i : Int) * 5 + 1 := IntWalk.i64_in _ (by omega)
  have hNn : ¬ N = 0 := by omega
  have hNnI : ¬ (N : Int) = 0 := by omega
  have n1 : (0 : Int) ≤ (m1 : Int) := by omega
  have n2 : (0 : Int) ≤ (m2 : Int) := by omega
  have l1I : (m1 : Int) < (N : Int) := by omega
  have l2I : (m2 : Int) < (N : Int) := by omega
  clear hc hf hm1 hm2 hx hy
  go_enter Try.func21, Try.ntmps21
  go_wp2_with fail
  go_region_held3 (fun w' => w'.cell? (a.add m1) = some (.int .u8 (x : Int)) ∧ w'.cell? (a.add m2) = some (.int .u8 (y : Int))) ((refine ⟨?_, ?_⟩ <;> assumption)) (fail)
  go_wp2_with fail
  go_ret
  obtain ⟨z, hz, e⟩ := u8_end7 (IntKind.u8.wrap (IntKind.u8.wrap ((x : Int) * 31) + (y : Int)) + (i : Int) % 256)
  exact ⟨z, hz, e, (Below.refl _ _).drew⟩
/-- A byte of a code, at whatever place. -/
theorem at_any (i : Nat) (hi : i ≤ 1000) (W : World) (v : Value) (L : List UInt8) (h : Byt W v L) (hL : L.length ≤ 1048576) :
    Calls Try.prog 21 #[v, .int .i64 (i : Int)] W fun e w' => ∃ x : Nat, x < 256 ∧ e = .returned (.int .u8 (x : Int)) ∧ Below W.heap.size W w' := by
  rcases h with ⟨rfl, rfl⟩ | ⟨a, cap, rfl, hl, hm, hb, hc⟩
  · exact at_none W none 0 0 rfl i hi
  · by_cases h0 : L.length = 0
    · exact at_none W (some a) L.length cap h0 i hi
    · by_cases h6 : i < L.length
      · have := at_in W a L.length cap i hi h6 (L[i]).toNat (L[i]).toNat_lt (hc i h6)
        exact this
      · exact at_past7 W a L.length cap (by omega) hL i hi (by omega) (fun j => (L.getD j 0).toNat) (fun j => (L.getD j 0).toNat_lt) (fun j hj => by
          have := hc j hj
          rw [this]
          simp [List.getD, List.getElem?_eq_getElem hj])
end Go.Proofs.Ytbmkknbbikoilaa
