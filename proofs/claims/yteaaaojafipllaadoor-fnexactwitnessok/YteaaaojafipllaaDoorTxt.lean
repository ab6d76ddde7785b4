/-
  A slice of texts: what it holds; LeavesOk of both, szStringS, eqStringS: walked.
-/
import Derived.Test.YteaaaojafipllaaDoorRows
import Derived.Test.YteaaaojafipllaaDoorKit
import Derived.Deep.QuietTactic
import Derived.BigQuiet
import Derived.Deep.RegionWith
import Derived.Deep.RegionHeld3
import Derived.Deep.CutRange
import Derived.Deep.DeepCutAuto
import Derived.Deep.CutBlock
import Derived.Laws.MakeOwn
import Derived.Laws.CopyRow
import Derived.Deep.WholeRow
import Derived.Laws.AppendOwn
namespace Go.Proofs.YteaaaojafipllaaDoor
open Go.RowKit

/-- The slice v holds the texts S. -/
def Txt (W : World) (v : Value) (S : List ByteArray) : Prop :=
  (v = .slice none 0 0 ∧ S = []) ∨ ∃ (a : Addr) (cap : Nat), v = .slice (some a) S.length cap ∧ S.length ≤ cap ∧ cap ≤ maxLen ∧ (0 < S.length → a.block < W.heap.size) ∧ ∀ (i : Nat) (h : i < S.length), W.cell? (a.add i) = some (.string S[i])
theorem add_block (a : Addr) (i : Nat) : (a.add i).block = a.block := by
  unfold Addr.add
  split <;> rfl
theorem Txt.below {W W' : World} {v : Value} {S : List ByteArray} {B : Nat} (h : Txt W v S) (hb : Below B W W') (hB : W.heap.size ≤ B) : Txt W' v S := by
  rcases h with h | ⟨a, cap, hv, hl, hm, hbl, hc⟩
  · exact .inl h
  · refine .inr ⟨a, cap, hv, hl, hm, fun h0 => Nat.lt_of_lt_of_le (hbl h0) hb.size, fun i hi => ?_⟩
    rw [hb.cell (p := a.add i) (by rw [add_block]; have := hbl (by omega); omega)]
    exact hc i hi
theorem Txt.call {W W' : World} {v : Value} {S : List ByteArray} (h : Txt W v S) (hb : Below W.heap.size W W') : Txt W' v S := h.below hb (Nat.le_refl _)

/-- Leaves that are ok. -/
def lok (S : List ByteArray) : Bool := decide (S.length ≤ 256) && S.all fun s => decide (s.size ≤ 40)

set_option maxRecDepth 20000 in
set_option maxHeartbeats 1000000 in
theorem lok_impl (W : World) (v : Value) (S : List ByteArray) (h : Txt W v S) :
    Calls Tryd.prog 37 #[v] W fun e w' => e = .returned (.bool (lok S)) ∧ w' = W := by
  rcases h with ⟨rfl, rfl⟩ | ⟨a, cap, rfl, hl, hm, hbl, hc⟩
  · go_enter Tryd.func37, Tryd.ntmps37
    go_wp2_with fail
    refine wp_loop_rounds 1 ?_
    rw [rounds_succ]
    go_wp2
    go_ret
    exact ⟨rfl, rfl⟩
  · by_cases hbig : 256 < S.length
    · have hbI : (256 : Int) < (S.length : Int) := by omega
      have HR : Hid (lok S = false) := by
        show _ = _
        unfold lok
        rw [decide_eq_false (by omega), Bool.false_and]
      go_enter Tryd.func37, Tryd.ntmps37
      go_wp2
      go_ret
      exact ⟨by rw [HR.out]; rfl, rfl⟩
    · have hbI : ¬ (256 : Int) < (S.length : Int) := by omega
      obtain ⟨R, hR⟩ : ∃ R, R = lok S := ⟨_, rfl⟩
      have HR : Hid (R = lok S) := hR
      rw [← hR]
      clear hR
      go_enter Tryd.func37, Tryd.ntmps37
      go_wp2_with fail
      go_loopw [10] (fun i wr => ∃ k : Nat, k ≤ S.length ∧ i = .int .i64 (k : Int) ∧ Hid ((S.take k).all (fun s => decide (s.size ≤ 40)) = true) ∧ Hid (W = wr)) (fun i _ => S.length - (intOf i).toNat)
      case atStart => exact ⟨0, by omega, rfl, rfl, rfl⟩
      case round =>
        obtain ⟨k, hk, rfl, HA, HW⟩ := hrel
        have hw := HW.out
        subst hw
        by_cases hlt : k < S.length
        · have hci := hc k hlt
          obtain ⟨s, hs⟩ : ∃ s, s = S[k] := ⟨_, rfl⟩
          rw [← hs] at hci
          have hmem : s ∈ S := by rw [hs]; exact List.getElem_mem _
          have HT : Hid (S.take (k + 1) = S.take k ++ [s]) := by
            show _ = _
            rw [List.take_succ_eq_append_getElem hlt, hs]
          clear hs hc
          by_cases h40 : 40 < s.size
          · have h40I : (40 : Int) < (s.size : Int) := by omega
            have HN : Hid (R = false) := by
              show _ = _
              rw [HR.out]
              unfold lok
              rw [Bool.and_eq_false_iff]
              right
              rw [List.all_eq_false]
              exact ⟨s, hmem, by simp; omega⟩
            go_wp2
            go_ret
            exact ⟨by rw [HN.out]; rfl, rfl⟩
          · have h40I : ¬ (40 : Int) < (s.size : Int) := by omega
            have HA2 : Hid ((S.take (k + 1)).all (fun s => decide (s.size ≤ 40)) = true) := by
              show _ = _
              rw [HT.out, List.all_append, HA.out]
              simp
              omega
            go_wp2
            exact ⟨⟨k + 1, by omega, by go_num, HA2, trivial⟩, by simp [intOf]; omega⟩
        · have HN : Hid (R = true) := by
            show _ = _
            have ht : S.take k = S := List.take_of_length_le (by omega)
            have := HA.out
            rw [ht] at this
            rw [HR.out]
            unfold lok
            rw [decide_eq_true (by omega), Bool.true_and]
            exact this
          go_wp2
          go_ret
          exact ⟨by rw [HN.out]; rfl, rfl⟩


/-- What stands in toStringS: the first k texts are copied. -/
def TRel (W : World) (S : List ByteArray) (k : Nat) (wr : World) : Prop :=
  W.heap.size < wr.heap.size ∧ Below W.heap.size W wr ∧ ∃ A : Array Value, wr.heap[W.heap.size]? = some (.cells A 9) ∧ A.size = S.length ∧ ∀ (i : Nat) (h : i < S.length), i < k → A[i]? = some (.string S[i])
theorem TRel.drew {W wr : World} {S : List ByteArray} {k : Nat} (h : TRel W S k wr) : TRel W S k wr.drew := ⟨h.1, h.2.1.drew, h.2.2⟩
theorem TRel.step {W wr : World} {S : List ByteArray} {k : Nat} (h : TRel W S k wr) (hk : k < S.length) : TRel W S (k + 1) (wr.setCell ⟨W.heap.size, k, none⟩ (.string S[k])) := by
  obtain ⟨hz, hB, A, hA, hl, hc⟩ := h
  have hh : (wr.setCell ⟨W.heap.size, k, none⟩ (.string S[k])).heap[W.heap.size]? = some (.cells (A.setIfInBounds k (.string S[k])) 9) := by
    rw [setCell_eq_setRow wr W.heap.size k _ 9 (0, 0) _ hA, setRow_heap _ _ _ _ _ _ hA]
  refine ⟨by simp only [World.size_setCell]; exact hz, hB.setCell (Nat.le_refl _) _, _, hh, by simp [hl], fun i hi hik => ?_⟩
  by_cases e : i = k
  · subst e
    simp [hl, hi]
  · rw [Array.getElem?_setIfInBounds_ne (by omega)]
    exact hc i hi (by omega)
theorem info9 : (Tryd.prog.info? 9).map (fun i => (i.zero, i.size, i.bytes)) = some (some (.string ByteArray.empty), 1, 16) := by kernel_rfl

end Go.Proofs.YteaaaojafipllaaDoor
