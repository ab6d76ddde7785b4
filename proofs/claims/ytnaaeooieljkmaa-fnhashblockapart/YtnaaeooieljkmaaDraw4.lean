/-
  The laws' own helpers over a code: more (a byte ahead of it), bare (a text without bytes 255).
-/
import Derived.Test.YtnaaeooieljkmaaDraw3
namespace Go.Proofs.Ytnaaeooieljkmaa
open Go.RowKit

theorem Byt.own {W : World} {base : Nat} {v : Value} {l : List UInt8} (h : W.ownsRow base 5 1 v l.length (bv l)) : Byt W v l := by
  have hh := h
  rcases h.2 with ⟨rfl, h0⟩ | ⟨g, cap, cur, rfl, hb, hg, hn, hc, hs, ht⟩
  · exact .inl ⟨rfl, List.eq_nil_of_length_eq_zero h0⟩
  · refine .inr ⟨_, cap, rfl, hn, hc, fun _ => (Array.getElem?_eq_some_iff.1 hg).1, fun i hi => ?_⟩
    exact hh.cells rfl i _ (by simp [bv, List.getElem?_eq_getElem hi])

set_option maxRecDepth 20000 in
set_option maxHeartbeats 2000000 in
theorem more_is (W : World) (v : Value) (L : List UInt8) (k : UInt8) (h : Byt W v L) (hL : L.length ≤ 1048576) :
    Calls Try.prog 5 #[v, .int .u8 (k.toNat : Int)] W fun e w' => ∃ v', e = .returned v' ∧ Byt w' v' (k :: L) ∧ Below W.heap.size W w' := by
  have hO : (W.alloc (.cells #[Value.int IntKind.u8 (k.toNat : Int)] 5)).ownsRow W.heap.size 5 1 (.slice (some ⟨W.heap.size, 0, none⟩) 1 1) 1 (bv [k]) := World.ownsRow_lit W #[Value.int IntKind.u8 (k.toNat : Int)] 1 (Nat.le_refl _) (by unfold maxLen; omega) rfl
  obtain ⟨oa, cap, hv⟩ : ∃ a cap, v = .slice a L.length cap := by
    rcases h with ⟨rfl, rfl⟩ | ⟨a, cap, rfl, _⟩
    · exact ⟨none, 0, rfl⟩
    · exact ⟨some a, cap, rfl⟩
  have hY : ∀ wr : World, Below W.heap.size W wr → Byt wr v L := fun wr hb => h.call hb
  subst hv
  clear h
  go_enter Try.func5, Try.ntmps5
  go_wp2_with fail
  go_loopw [5, 6] (fun b i wr => ∃ (j : Nat), i = .int .i64 (j : Int) ∧ j ≤ L.length ∧ wr.ownsRow W.heap.size 5 1 b (k :: L.take j).length (bv (k :: L.take j)) ∧ Hid (Below W.heap.size W wr)) (fun _ i _ => L.length - (intOf i).toNat)
  case atStart => exact ⟨0, rfl, by omega, by simpa using hO, (Below.refl _ _).alloc (Nat.le_refl _) _⟩
  case round =>
    obtain ⟨j, rfl, hj, hown, HB⟩ := hrel
    by_cases hjl : j < L.length
    · have hjI : (j : Int) < (L.length : Int) := by omega
      have hj0 : (0 : Int) ≤ (j : Int) := by omega
      rcases hY wr HB.out with ⟨_, hnil⟩ | ⟨a, cap', hv', hl, hm, hbl, hc⟩
      · rw [hnil] at hjl; simp at hjl
      obtain ⟨rfl, rfl⟩ : oa = some a ∧ cap = cap' := by simpa using hv'
      clear hv' hY hO
      have hcj := hc j hjl
      obtain ⟨x, HX⟩ : ∃ x, Hid (x = L[j]) := ⟨L[j], (rfl : L[j] = L[j])⟩
      rw [← HX.out] at hcj
      clear hc
      have hw1 : IntKind.i64.wrap ((j : Int) + 1) = (j : Int) + 1 := IntWalk.i64_in _ (by omega)
      have hw2 : wrap64 (j : Int) = (j : Int) := (wrap_small j (by omega)).2
      have hsz := HB.out.size
      go_wp2_with (at_builtin; refine wpList_append_byte rfl _ _ rfl W.heap.size _ (k :: L.take j) x rfl (hown.alloc _) ⟨wr.heap.size, 0, none⟩ rfl ?c1 ?c2 ?c3 ?_)
      case c1 => simp [go_sem]
      case c2 => simp; omega
      case c3 => simp; omega
      intro v' w3 hown' hgrow
      have hlt : ∀ k, Value.ownBlock _ = some k → W.heap.size ≤ k := fun k hk => (hown.lt k hk).1
      have hB3 : Hid (Below W.heap.size W w3) := (HB.out.alloc HB.out.size _).grown hgrow (by simp; omega) hlt
      go_wp2_with fail
      go_roundw
      case rel => exact ⟨j + 1, rfl, by omega, by have e : (k :: (List.take j L ++ [x])).length = j + 1 + 1 := (by simp; omega); rw [List.take_succ_eq_append_getElem hjl, ← HX.out, e]; exact hown', hB3⟩
      case measure => simp [intOf]; omega
    · have hjI : ¬ (j : Int) < (L.length : Int) := by omega
      have ej : L.take j = L := List.take_of_length_le (by omega)
      rw [ej] at hown
      go_wp2_with fail
      go_ret
      exact ⟨_, rfl, Byt.own hown, HB.out⟩

/-- The bytes of a text that are not 255. -/
def bar (l : List UInt8) : List UInt8 := l.filter fun x => x != 255
theorem bar_le (l : List UInt8) : (bar l).length ≤ l.length := List.length_filter_le _ _
theorem str_one (s : ByteArray) (j : Nat) (h : j < s.size) : s.extract j (j + 1) = str [s[j]] := by
  apply ByteArray.ext
  have hj : j < s.data.size := h
  show (s.extract j (j + 1)).data = #[s[j]]
  rw [ByteArray.data_extract]
  apply Array.ext
  · simp; omega
  · intro i h1 h2
    have hi : i = 0 := by simp at h2; omega
    subst hi
    simp [ByteArray.getElem_eq_getElem_data]
theorem str_app (l m : List UInt8) : str l ++ str m = str (l ++ m) := by
  apply ByteArray.ext
  rw [ByteArray.data_append]
  simp
theorem bar_step (s : ByteArray) (j : Nat) (h : j < s.size) (hx : s[j] ≠ 255) : str (bar (s.data.toList.take j)) ++ s.extract j (j + 1) = str (bar (s.data.toList.take (j + 1))) := by
  have hj : j < s.data.toList.length := by simpa using h
  rw [str_one s j h, str_app, List.take_succ_eq_append_getElem hj]
  congr 1
  have e : s.data.toList[j] = s[j] := by simp [ByteArray.getElem_eq_getElem_data]
  simp [bar, e, hx]
theorem bar_skip (s : ByteArray) (j : Nat) (h : j < s.size) (hx : s[j] = 255) : bar (s.data.toList.take (j + 1)) = bar (s.data.toList.take j) := by
  have hj : j < s.data.toList.length := by simpa using h
  have e : s.data.toList[j] = 255 := by rw [← hx]; simp [ByteArray.getElem_eq_getElem_data]
  rw [List.take_succ_eq_append_getElem hj]
  simp [bar, e]

set_option maxRecDepth 20000 in
set_option maxHeartbeats 2000000 in
theorem bare_is (W : World) (s : ByteArray) (hs : s.size ≤ 200000) :
    Calls Try.prog 8 #[.string s] W fun e w' => e = .returned (.string (str (bar s.data.toList))) ∧ Below W.heap.size W w' := by
  have hss : s.data.toList.length = s.size := by rw [Array.length_toList]; rfl
  go_enter Try.func8, Try.ntmps8
  go_wp2_with fail
  go_loopw [3, 4] (fun b i wr => ∃ (j : Nat), i = .int .i64 (j : Int) ∧ j ≤ s.size ∧ b = .string (str (bar (s.data.toList.take j))) ∧ Hid (Below W.heap.size W wr)) (fun _ i _ => s.size - (intOf i).toNat)
  case atStart => exact ⟨0, rfl, by omega, by simp [bar, str], by first | exact Below.refl _ _ | exact (Below.refl _ _).alloc (Nat.le_refl _) _⟩
  case round =>
    obtain ⟨j, rfl, hj, rfl, HB⟩ := hrel
    by_cases hjl : j < s.size
    · have hjI : (j : Int) < (s.size : Int) := by omega
      have hj0 : (0 : Int) ≤ (j : Int) := by omega
      have hj1 : (j : Int) + 1 ≤ (s.size : Int) := by omega
      have hw1 : IntKind.i64.wrap ((j : Int) + 1) = (j : Int) + 1 := IntWalk.i64_in _ (by omega)
      have hw2 : wrap64 (j : Int) = (j : Int) := (wrap_small j (by omega)).2
      by_cases hx : s[j] = 255
      · have HS := bar_skip s j hjl hx
        have hn : (((s[j]).toNat : Int) != 255) = false := by rw [hx]; rfl
        have HS : Hid (bar (s.data.toList.take (j + 1)) = bar (s.data.toList.take j)) := HS
        clear hx
        go_wp2_with fail
        go_roundw
        case rel => exact ⟨j + 1, rfl, by omega, by rw [HS.out], HB⟩
        case measure => simp [intOf]; omega
      · have HS : Hid (_ = _) := bar_step s j hjl hx
        have hn : (((s[j]).toNat : Int) != 255) = true := by
          rw [bne_iff_ne]
          intro e
          exact hx (UInt8.toNat_inj.1 (by show (s[j]).toNat = 255; omega))
        have hsl := fun W' : World => run_slice_string (P := Try.prog) (w := W') 9 s .i64 .i64 (j : Int) ((j : Int) + 1) Try.underlying9 (by omega) (by omega) (by omega)
        have a1 := fun W' : World => add_ok2 (str (bar (s.data.toList.take j))) (s.extract j (j + 1)) (str_le _ _ (Nat.le_trans (bar_le _) (by rw [List.length_take]; omega))) (by rw [ByteArray.size_extract]; omega) W'
        clear hx
        go_wp2_with fail
        go_roundw
        case rel => exact ⟨j + 1, rfl, by omega, by rw [HS.out], HB⟩
        case measure => simp [intOf]; omega
    · have hjI : ¬ (j : Int) < (s.size : Int) := by omega
      have ej : s.data.toList.take j = s.data.toList := List.take_of_length_le (by omega)
      rw [ej]
      go_wp2_with fail
      go_ret
      exact ⟨rfl, HB.out⟩
end Go.Proofs.Ytnaaeooieljkmaa
