/-
  A slice of texts: what it holds; LeavesOk of both, szStringS, eqStringS: walked.
-/
import Derived.Test.YtegihccdpohnnaaRows
import Derived.Test.YtegihccdpohnnaaKit
import Derived.Deep.QuietTactic
import Derived.BigQuiet
import Derived.Deep.RegionWith
import Derived.Deep.RegionHeld3
import Derived.Deep.CutRange
import Derived.Deep.DeepCutAuto
import Derived.Deep.CutBlock
import Derived.Laws.MakeOwn
import Derived.Laws.CopyRow
import Derived.Deep.WholeRow
import Derived.Laws.AppendOwn
namespace Go.Proofs.Ytegihccdpohnnaa
open Go.RowKit

/-- The slice v holds the texts S. -/
def Txt (W : World) (v : Value) (S : List ByteArray) : Prop :=
  (v = .slice none 0 0 ∧ S = []) ∨ ∃ (a : Addr) (cap : Nat), v = .slice (some a) S.length cap ∧ S.length ≤ cap ∧ cap ≤ maxLen ∧ (0 < S.length → a.block < W.heap.size) ∧ ∀ (i : Nat) (h : i < S.length), W.cell? (a.add i) = some (.string S[i])
theorem add_block (a : Addr) (i : Nat) : (a.add i).block = a.block := by
  unfold Addr.add
  split <;> rfl
theorem Txt.below {W W' : World} {v : Value} {S : List ByteArray} {B : Nat} (h : Txt W v S) (hb : Below B W W') (hB : W.heap.size ≤ B) : Txt W' v S := by
  rcases h with h | ⟨a, cap, hv, hl, hm, hbl, hc⟩
  · exact .inl h
  · refine .inr ⟨a, cap, hv, hl, hm, fun h0 => Nat.lt_of_lt_of_le (hbl h0) hb.size, fun i hi => ?_⟩
    rw [hb.cell (p := a.add i) (by rw [add_block]; have := hbl (by omega); omega)]
    exact hc i hi
theorem Txt.call {W W' : World} {v : Value} {S : List ByteArray} (h : Txt W v S) (hb : Below W.heap.size W W') : Txt W' v S := h.below hb (Nat.le_refl _)

/-- Leaves that are ok. -/
def lok (S : List ByteArray) : Bool := decide (S.length ≤ 256) && S.all fun s => decide (s.size ≤ 40)

set_option maxRecDepth 20000 in
set_option maxHeartbeats 1000000 in
theorem lok_spec (W : World) (v : Value) (S : List ByteArray) (h : Txt W v S) :
    Calls Try.prog 12 #[v] W fun e w' => e = .returned (.bool (lok S)) ∧ w' = W := by
  rcases h with ⟨rfl, rfl⟩ | ⟨a, cap, rfl, hl, hm, hbl, hc⟩
  · go_enter Try.func12, Try.ntmps12
    go_wp2_with fail
    refine wp_loop_rounds 1 ?_
    rw [rounds_succ]
    go_wp2
    go_ret
    exact ⟨rfl, rfl⟩
  · by_cases hbig : 256 < S.length
    · have hbI : (256 : Int) < (S.length : Int) := by omega
      have HR : Hid (lok S = false) := by
        show _ = _
        unfold lok
        rw [decide_eq_false (by omega), Bool.false_and]
      go_enter Try.func12, Try.ntmps12
      go_wp2
      go_ret
      exact ⟨by rw [HR.out]; rfl, rfl⟩
    · have hbI : ¬ (256 : Int) < (S.length : Int) := by omega
      obtain ⟨R, hR⟩ : ∃ R, R = lok S := ⟨_, rfl⟩
      have HR : Hid (R = lok S) := hR
      rw [← hR]
      clear hR
      go_enter Try.func12, Try.ntmps12
      go_wp2_with fail
      go_loopw [3] (fun i wr => ∃ k : Nat, k ≤ S.length ∧ i = .int .i64 (k : Int) ∧ Hid ((S.take k).all (fun s => decide (s.size ≤ 40)) = true) ∧ Hid (W = wr)) (fun i _ => S.length - (intOf i).toNat)
      case atStart => exact ⟨0, by omega, rfl, rfl, rfl⟩
      case round =>
        obtain ⟨k, hk, rfl, HA, HW⟩ := hrel
        have hw := HW.out
        subst hw
        by_cases hlt : k < S.length
        · have hci := hc k hlt
          obtain ⟨s, hs⟩ : ∃ s, s = S[k] := ⟨_, rfl⟩
          rw [← hs] at hci
          have hmem : s ∈ S := by rw [hs]; exact List.getElem_mem _
          have HT : Hid (S.take (k + 1) = S.take k ++ [s]) := by
            show _ = _
            rw [List.take_succ_eq_append_getElem hlt, hs]
          clear hs hc
          by_cases h40 : 40 < s.size
          · have h40I : (40 : Int) < (s.size : Int) := by omega
            have HN : Hid (R = false) := by
              show _ = _
              rw [HR.out]
              unfold lok
              rw [Bool.and_eq_false_iff]
              right
              rw [List.all_eq_false]
              exact ⟨s, hmem, by simp; omega⟩
            go_wp2
            go_ret
            exact ⟨by rw [HN.out]; rfl, rfl⟩
          · have h40I : ¬ (40 : Int) < (s.size : Int) := by omega
            have HA2 : Hid ((S.take (k + 1)).all (fun s => decide (s.size ≤ 40)) = true) := by
              show _ = _
              rw [HT.out, List.all_append, HA.out]
              simp
              omega
            go_wp2
            exact ⟨⟨k + 1, by omega, by go_num, HA2, trivial⟩, by simp [intOf]; omega⟩
        · have HN : Hid (R = true) := by
            show _ = _
            have ht : S.take k = S := List.take_of_length_le (by omega)
            have := HA.out
            rw [ht] at this
            rw [HR.out]
            unfold lok
            rw [decide_eq_true (by omega), Bool.true_and]
            exact this
          go_wp2
          go_ret
          exact ⟨by rw [HN.out]; rfl, rfl⟩

set_option maxRecDepth 20000 in
set_option maxHeartbeats 1000000 in
theorem lok_impl (W : World) (v : Value) (S : List ByteArray) (h : Txt W v S) :
    Calls Try.prog 15 #[v] W fun e w' => e = .returned (.bool (lok S)) ∧ w' = W := by
  rcases h with ⟨rfl, rfl⟩ | ⟨a, cap, rfl, hl, hm, hbl, hc⟩
  · go_enter Try.func15, Try.ntmps15
    go_wp2_with fail
    refine wp_loop_rounds 1 ?_
    rw [rounds_succ]
    go_wp2
    go_ret
    exact ⟨rfl, rfl⟩
  · by_cases hbig : 256 < S.length
    · have hbI : (256 : Int) < (S.length : Int) := by omega
      have HR : Hid (lok S = false) := by
        show _ = _
        unfold lok
        rw [decide_eq_false (by omega), Bool.false_and]
      go_enter Try.func15, Try.ntmps15
      go_wp2
      go_ret
      exact ⟨by rw [HR.out]; rfl, rfl⟩
    · have hbI : ¬ (256 : Int) < (S.length : Int) := by omega
      obtain ⟨R, hR⟩ : ∃ R, R = lok S := ⟨_, rfl⟩
      have HR : Hid (R = lok S) := hR
      rw [← hR]
      clear hR
      go_enter Try.func15, Try.ntmps15
      go_wp2_with fail
      go_loopw [10] (fun i wr => ∃ k : Nat, k ≤ S.length ∧ i = .int .i64 (k : Int) ∧ Hid ((S.take k).all (fun s => decide (s.size ≤ 40)) = true) ∧ Hid (W = wr)) (fun i _ => S.length - (intOf i).toNat)
      case atStart => exact ⟨0, by omega, rfl, rfl, rfl⟩
      case round =>
        obtain ⟨k, hk, rfl, HA, HW⟩ := hrel
        have hw := HW.out
        subst hw
        by_cases hlt : k < S.length
        · have hci := hc k hlt
          obtain ⟨s, hs⟩ : ∃ s, s = S[k] := ⟨_, rfl⟩
          rw [← hs] at hci
          have hmem : s ∈ S := by rw [hs]; exact List.getElem_mem _
          have HT : Hid (S.take (k + 1) = S.take k ++ [s]) := by
            show _ = _
            rw [List.take_succ_eq_append_getElem hlt, hs]
          clear hs hc
          by_cases h40 : 40 < s.size
          · have h40I : (40 : Int) < (s.size : Int) := by omega
            have HN : Hid (R = false) := by
              show _ = _
              rw [HR.out]
              unfold lok
              rw [Bool.and_eq_false_iff]
              right
              rw [List.all_eq_false]
              exact ⟨s, hmem, by simp; omega⟩
            go_wp2
            go_ret
            exact ⟨by rw [HN.out]; rfl, rfl⟩
          · have h40I : ¬ (40 : Int) < (s.size : Int) := by omega
            have HA2 : Hid ((S.take (k + 1)).all (fun s => decide (s.size ≤ 40)) = true) := by
              show _ = _
              rw [HT.out, List.all_append, HA.out]
              simp
              omega
            go_wp2
            exact ⟨⟨k + 1, by omega, by go_num, HA2, trivial⟩, by simp [intOf]; omega⟩
        · have HN : Hid (R = true) := by
            show _ = _
            have ht : S.take k = S := List.take_of_length_le (by omega)
            have := HA.out
            rw [ht] at this
            rw [HR.out]
            unfold lok
            rw [decide_eq_true (by omega), Bool.true_and]
            exact this
          go_wp2
          go_ret
          exact ⟨by rw [HN.out]; rfl, rfl⟩


set_option maxRecDepth 20000 in
set_option maxHeartbeats 1000000 in
theorem sz_is (W : World) (v : Value) (S : List ByteArray) (h : Txt W v S) (hss : ∀ s ∈ S, s.size ≤ maxLen) (m : Nat) (hm : m ≤ 1048576) :
    Calls Try.prog 11 #[v, .int .i64 (m : Int)] W fun e w' => ∃ r : Int, e = .returned (.int .i64 r) ∧ w' = W ∧ (0 ≤ r → S.length ≤ m) := by
  have hm0 : ¬ (m : Int) < 0 := by omega
  rcases h with ⟨rfl, rfl⟩ | ⟨a, cap, rfl, hl, hcap, hbl, hc⟩
  · go_enter Try.func11, Try.ntmps11
    go_wp2_with fail
    refine wp_loop_rounds 1 ?_
    rw [rounds_succ]
    go_wp2
    go_ret
    exact ⟨_, rfl, rfl, fun _ => by simp⟩
  · have hcl : S.length ≤ 9223372036854775807 := by unfold maxLen at hcap; omega
    have hw1 : IntKind.i64.wrap ((m : Int) - (S.length : Int)) = (m : Int) - (S.length : Int) := IntWalk.i64_in _ (by omega)
    by_cases hbig : m < S.length
    · have hbI : (m : Int) - (S.length : Int) < 0 := by omega
      go_enter Try.func11, Try.ntmps11
      go_wp2
      go_ret
      exact ⟨-1, rfl, rfl, fun h => by omega⟩
    · have hbI : ¬ (m : Int) - (S.length : Int) < 0 := by omega
      obtain ⟨d, hd⟩ : ∃ d : Nat, d = m - S.length := ⟨_, rfl⟩
      have hdI : (m : Int) - (S.length : Int) = (d : Int) := by omega
      rw [hdI] at hw1 hbI
      have HD : Hid (S.length ≤ m ∧ d ≤ 1048576) := ⟨by omega, by omega⟩
      clear hd
      go_enter Try.func11, Try.ntmps11
      go_wp2_with fail
      go_loopw [1, 5] (fun l i wr => ∃ k b : Nat, k ≤ S.length ∧ i = .int .i64 (k : Int) ∧ l = .int .i64 (b : Int) ∧ b ≤ 1048576 ∧ Hid (W = wr)) (fun _ i _ => S.length - (intOf i).toNat)
      case atStart => exact ⟨0, d, by omega, rfl, rfl, HD.out.2, rfl⟩
      case round =>
        obtain ⟨k, b, hk, rfl, rfl, hb, HW⟩ := hrel
        have hw := HW.out
        subst hw
        by_cases hlt : k < S.length
        · have hci := hc k hlt
          obtain ⟨s, hs⟩ : ∃ s, s = S[k] := ⟨_, rfl⟩
          rw [← hs] at hci
          have hsz : s.size ≤ 9223372036854775807 := by have h1 := hss s (by rw [hs]; exact List.getElem_mem _); unfold maxLen at h1; omega
          clear hs hc
          have hw2 : IntKind.i64.wrap ((b : Int) - (s.size : Int)) = (b : Int) - (s.size : Int) := IntWalk.i64_in _ (by omega)
          by_cases hneg : b < s.size
          · have hnI : (b : Int) - (s.size : Int) < 0 := by omega
            go_wp2
            go_ret
            exact ⟨-1, rfl, rfl, fun h => by omega⟩
          · have hnI : ¬ (b : Int) - (s.size : Int) < 0 := by omega
            go_wp2
            exact ⟨⟨k + 1, b - s.size, by omega, by go_num, congrArg (Value.int IntKind.i64) (by omega), by omega, trivial⟩, by simp [intOf]; omega⟩
        · go_wp2
          go_ret
          exact ⟨_, rfl, rfl, fun _ => HD.out.1⟩

set_option maxRecDepth 20000 in
set_option maxHeartbeats 1000000 in
theorem eqs_is (W : World) (u v : Value) (S : List ByteArray) (h : Txt W u S) (h' : Txt W v S) :
    Calls Try.prog 19 #[u, v] W fun e w' => e = .returned (.bool true) ∧ Below W.heap.size W w' := by
  by_cases hS : S = []
  · have hu : ∃ a cap, u = .slice a 0 cap := by
      rcases h with ⟨rfl, _⟩ | ⟨a, cap, rfl, _⟩
      · exact ⟨none, 0, rfl⟩
      · exact ⟨some a, cap, by rw [hS]; rfl⟩
    have hv : ∃ a cap, v = .slice a 0 cap := by
      rcases h' with ⟨rfl, _⟩ | ⟨a, cap, rfl, _⟩
      · exact ⟨none, 0, rfl⟩
      · exact ⟨some a, cap, by rw [hS]; rfl⟩
    obtain ⟨a, c, rfl⟩ := hu
    obtain ⟨a', c', rfl⟩ := hv
    clear h h'
    go_enter Try.func19, Try.ntmps19
    go_wp2_with fail
    refine wp_loop_rounds 1 ?_
    rw [rounds_succ]
    go_wp2
    go_ret
    exact ⟨rfl, Below.refl _ _⟩
  · rcases h with ⟨_, h0⟩ | ⟨a, cap, rfl, hl, hm, hbl, hc⟩
    · exact absurd h0 hS
    rcases h' with ⟨_, h0⟩ | ⟨a', cap', rfl, hl', hm', hbl', hc'⟩
    · exact absurd h0 hS
    have hcl : S.length ≤ 9223372036854775807 := by unfold maxLen at hm; omega
    go_enter Try.func19, Try.ntmps19
    go_wp2_with fail
    go_loopw [5] (fun i wr => ∃ k : Nat, k ≤ S.length ∧ i = .int .i64 (k : Int) ∧ Hid (Below W.heap.size W wr)) (fun i _ => S.length - (intOf i).toNat)
    case atStart => exact ⟨0, by omega, rfl, Below.refl _ _⟩
    case round =>
      obtain ⟨k, hk, rfl, HB⟩ := hrel
      by_cases hlt : k < S.length
      · have hci : wr.cell? (a.add k) = some (.string S[k]) := (HB.out.cell (by rw [add_block]; exact hbl (by omega))).trans (hc k hlt)
        have hci' : wr.cell? (a'.add k) = some (.string S[k]) := (HB.out.cell (by rw [add_block]; exact hbl' (by omega))).trans (hc' k hlt)
        obtain ⟨s, hs⟩ : ∃ s, s = S[k] := ⟨_, rfl⟩
        rw [← hs] at hci hci'
        have hk0 : (0 : Int) ≤ (k : Int) := by omega
        have hkI : (k : Int) < (S.length : Int) := by omega
        clear hs hc hc'
        go_wp2_with fail
        go_region
        all_goals (go_wp2_with fail)
        all_goals (exact ⟨⟨k + 1, by omega, by go_num, HB.out.drew⟩, by simp [intOf]; omega⟩)
      · go_wp2
        go_ret
        exact ⟨rfl, HB.out⟩

/-- What stands in toStringS: the first k texts are copied. -/
def TRel (W : World) (S : List ByteArray) (k : Nat) (wr : World) : Prop :=
  W.heap.size < wr.heap.size ∧ Below W.heap.size W wr ∧ ∃ A : Array Value, wr.heap[W.heap.size]? = some (.cells A 9) ∧ A.size = S.length ∧ ∀ (i : Nat) (h : i < S.length), i < k → A[i]? = some (.string S[i])
theorem TRel.drew {W wr : World} {S : List ByteArray} {k : Nat} (h : TRel W S k wr) : TRel W S k wr.drew := ⟨h.1, h.2.1.drew, h.2.2⟩
theorem TRel.step {W wr : World} {S : List ByteArray} {k : Nat} (h : TRel W S k wr) (hk : k < S.length) : TRel W S (k + 1) (wr.setCell ⟨W.heap.size, k, none⟩ (.string S[k])) := by
  obtain ⟨hz, hB, A, hA, hl, hc⟩ := h
  have hh : (wr.setCell ⟨W.heap.size, k, none⟩ (.string S[k])).heap[W.heap.size]? = some (.cells (A.setIfInBounds k (.string S[k])) 9) := by
    rw [setCell_eq_setRow wr W.heap.size k _ 9 (0, 0) _ hA, setRow_heap _ _ _ _ _ _ hA]
  refine ⟨by simp only [World.size_setCell]; exact hz, hB.setCell (Nat.le_refl _) _, _, hh, by simp [hl], fun i hi hik => ?_⟩
  by_cases e : i = k
  · subst e
    simp [hl, hi]
  · rw [Array.getElem?_setIfInBounds_ne (by omega)]
    exact hc i hi (by omega)
theorem info9 : (Try.prog.info? 9).map (fun i => (i.zero, i.size, i.bytes)) = some (some (.string ByteArray.empty), 1, 16) := by kernel_rfl

set_option maxRecDepth 20000 in
set_option maxHeartbeats 1000000 in
theorem tos_is (W : World) (v : Value) (S : List ByteArray) (h : Txt W v S) (hlen : S.length ≤ 1048576) :
    Calls Try.prog 14 #[v] W fun e w' => ∃ u : Value, e = .returned u ∧ Below W.heap.size W w' ∧ Txt w' u S := by
  obtain ⟨i0, hi, hz0, hz1, hz2⟩ := info_parts info9
  have hmk : (Instr.makeSlice 22 (.int .i64 (S.length : Int)) (.int .i64 (S.length : Int))).run Try.prog W = .ok (.slice (some ⟨W.heap.size, 0, none⟩) S.length S.length) (W.alloc (.cells (madeCells (Value.string ByteArray.empty).cells (S.length * i0.size)) 9)) := by
    have h1 := run_make (P := Try.prog) W 22 9 i0 (.string ByteArray.empty) Try.underlying22 hi hz0 .i64 .i64 (S.length : Int) (S.length : Int) (by omega) (Int.le_refl _) (by rw [hz2]; omega) (by omega)
    simpa using h1
  obtain ⟨A, hA⟩ : ∃ A, A = madeCells (Value.string ByteArray.empty).cells (S.length * i0.size) := ⟨_, rfl⟩
  have hAs : A.size = S.length := by rw [hA, size_madeCells, hz1, Nat.mul_one]
  rw [← hA] at hmk
  have HT : Hid (TRel W S 0 (W.alloc (.cells A 9))) := ⟨by simp, (Below.refl _ _).alloc (Nat.le_refl _) _, A, heap_alloc_last W _, hAs, fun i _ h => by omega⟩
  clear hA hAs hi hz0 hz1 hz2
  have hlI : (S.length : Int) ≤ 1048576 := by omega
  have hv : ∃ a cap, v = .slice a S.length cap := by
    rcases h with ⟨rfl, rfl⟩ | ⟨a, cap, rfl, _⟩
    · exact ⟨none, 0, rfl⟩
    · exact ⟨some a, cap, rfl⟩
  have hcell : ∀ k, k < S.length → ∃ a cap, v = .slice (some a) S.length cap ∧ a.block < W.heap.size ∧ ∀ (i : Nat) (h : i < S.length), W.cell? (a.add i) = some (.string S[i]) := by
    intro k hk
    rcases h with ⟨rfl, rfl⟩ | ⟨a, cap, rfl, _, _, hb, hc⟩
    · simp at hk
    · exact ⟨a, cap, rfl, hb (by omega), hc⟩
  clear h
  obtain ⟨oa, cap, rfl⟩ := hv
  go_enter Try.func14, Try.ntmps14
  go_wp2_with fail
  go_loopw [4] (fun i wr => ∃ k : Nat, k ≤ S.length ∧ i = .int .i64 (k : Int) ∧ Hid (TRel W S k wr)) (fun i _ => S.length - (intOf i).toNat)
  case atStart => exact ⟨0, by omega, rfl, HT⟩
  case round =>
    obtain ⟨k, hk, rfl, HR⟩ := hrel
    by_cases hlt : k < S.length
    · obtain ⟨a, cap', he, hbl, hc⟩ := hcell k hlt
      obtain ⟨rfl, _, rfl⟩ : oa = some a ∧ S.length = S.length ∧ cap = cap' := by simpa using he
      have hci : wr.cell? (a.add k) = some (.string S[k]) := (HR.out.2.1.cell (by rw [add_block]; exact hbl)).trans (hc k hlt)
      obtain ⟨_, _, B, hB, hBl, _⟩ := HR.out
      have bk : k < B.size := by omega
      have hco : wr.cell? ⟨W.heap.size, k, none⟩ = some B[k] := by
        rw [cell_of_row wr W.heap.size k _ 9 (0, 0) hB]
        exact Array.getElem?_eq_getElem bk
      have hfo : wr.frozen? ⟨W.heap.size, k, none⟩ = false := frozen_of_row wr W.heap.size k _ 9 hB
      have HN : Hid (TRel W S (k + 1) (wr.setCell ⟨W.heap.size, k, none⟩ (.string S[k]))) := HR.out.step hlt
      obtain ⟨s, hs⟩ : ∃ s, s = S[k] := ⟨_, rfl⟩
      rw [← hs] at hci HN
      have hk0 : (0 : Int) ≤ (k : Int) := by omega
      have hkI : (k : Int) < (S.length : Int) := by omega
      clear hs hc he hcell HT hmk HR
      go_wp2_with fail
      exact ⟨⟨k + 1, by omega, by go_num, HN⟩, by simp [intOf]; omega⟩
    · have hkk : k = S.length := by omega
      subst hkk
      clear hcell HT hmk
      go_wp2
      go_ret
      obtain ⟨hz, hB, C, hC, hCl, hcc⟩ := HR.out
      refine ⟨_, rfl, hB, .inr ⟨⟨W.heap.size, 0, none⟩, S.length, rfl, Nat.le_refl _, by unfold maxLen; omega, fun _ => hz, fun i hi => ?_⟩⟩
      rw [Addr.add_mid, cell_of_row wr W.heap.size _ _ 9 (0, 0) hC, Nat.zero_add]
      exact hcc i hi hi

end Go.Proofs.Ytegihccdpohnnaa
