/-
  A slice of texts: what it holds; LeavesOk of both, szStringS, eqStringS: walked.
-/
import Derived.Test.YtnfnhgloblfgnaaRows
import Derived.Test.YtnfnhgloblfgnaaJoinB1
import Derived.Deep.QuietTactic
import Derived.BigQuiet
import Derived.Deep.RegionWith
import Derived.Deep.RegionHeld3
import Derived.Deep.CutRange
import Derived.Deep.DeepCutAuto
import Derived.Deep.CutBlock
import Derived.Laws.MakeOwn
import Derived.Laws.CopyRow
import Derived.Deep.WholeRow
import Derived.Laws.AppendOwn
import Derived.Test.YtnfnhgloblfgnaaLet
import Derived.Test.YtnfnhgloblfgnaaJoinB4
import Derived.Deep.RegionHeld
namespace Go.Proofs.Ytnfnhgloblfgnaa
open Go.RowKit

/-- The slice v holds the texts S. -/
def Txt (W : World) (v : Value) (S : List ByteArray) : Prop :=
  (v = .slice none 0 0 ∧ S = []) ∨ ∃ (a : Addr) (cap : Nat), v = .slice (some a) S.length cap ∧ S.length ≤ cap ∧ cap ≤ maxLen ∧ (0 < S.length → a.block < W.heap.size) ∧ ∀ (i : Nat) (h : i < S.length), W.cell? (a.add i) = some (.string S[i])
theorem add_block (a : Addr) (i : Nat) : (a.add i).block = a.block := by
  unfold Addr.add
  split <;> rfl
theorem Txt.below {W W' : World} {v : Value} {S : List ByteArray} {B : Nat} (h : Txt W v S) (hb : Below B W W') (hB : W.heap.size ≤ B) : Txt W' v S := by
  rcases h with h | ⟨a, cap, hv, hl, hm, hbl, hc⟩
  · exact .inl h
  · refine .inr ⟨a, cap, hv, hl, hm, fun h0 => Nat.lt_of_lt_of_le (hbl h0) hb.size, fun i hi => ?_⟩
    rw [hb.cell (p := a.add i) (by rw [add_block]; have := hbl (by omega); omega)]
    exact hc i hi
theorem Txt.call {W W' : World} {v : Value} {S : List ByteArray} (h : Txt W v S) (hb : Below W.heap.size W W') : Txt W' v S := h.below hb (Nat.le_refl _)

/-- Leaves that are ok. -/
def lok (S : List ByteArray) : Bool := decide (S.length ≤ 256) && S.all fun s => decide (s.size ≤ 40)

/-- What stands in toStringS: the first k texts are copied. -/
def TRel (W : World) (S : List ByteArray) (k : Nat) (wr : World) : Prop :=
  W.heap.size < wr.heap.size ∧ Below W.heap.size W wr ∧ ∃ A : Array Value, wr.heap[W.heap.size]? = some (.cells A 9) ∧ A.size = S.length ∧ ∀ (i : Nat) (h : i < S.length), i < k → A[i]? = some (.string S[i])
theorem TRel.drew {W wr : World} {S : List ByteArray} {k : Nat} (h : TRel W S k wr) : TRel W S k wr.drew := ⟨h.1, h.2.1.drew, h.2.2⟩
theorem TRel.step {W wr : World} {S : List ByteArray} {k : Nat} (h : TRel W S k wr) (hk : k < S.length) : TRel W S (k + 1) (wr.setCell ⟨W.heap.size, k, none⟩ (.string S[k])) := by
  obtain ⟨hz, hB, A, hA, hl, hc⟩ := h
  have hh : (wr.setCell ⟨W.heap.size, k, none⟩ (.string S[k])).heap[W.heap.size]? = some (.cells (A.setIfInBounds k (.string S[k])) 9) := by
    rw [setCell_eq_setRow wr W.heap.size k _ 9 (0, 0) _ hA, setRow_heap _ _ _ _ _ _ hA]
  refine ⟨by simp only [World.size_setCell]; exact hz, hB.setCell (Nat.le_refl _) _, _, hh, by simp [hl], fun i hi hik => ?_⟩
  by_cases e : i = k
  · subst e
    simp [hl, hi]
  · rw [Array.getElem?_setIfInBounds_ne (by omega)]
    exact hc i hi (by omega)
theorem info9 : (Try.prog.info? 9).map (fun i => (i.zero, i.size, i.bytes)) = some (some (.string ByteArray.empty), 1, 16) := by kernel_rfl

end Go.Proofs.Ytnfnhgloblfgnaa

/-
  Lists of letters: measured, copied, compared; bags that are ok.
-/
namespace Go.Proofs.Ytnfnhgloblfgnaa
open Go.RowKit

structure Lt where
  f : Int
  t : Int
  s : ByteArray

/-- The letter l lies at p. -/
def LAt (W : World) (p : Addr) (l : Lt) : Prop := W.cell? p = some (.int .i64 l.f) ∧ W.cell? ⟨p.block, p.off + 1, none⟩ = some (.int .i64 l.t) ∧ W.cell? ⟨p.block, p.off + 2, none⟩ = some (.string l.s)
theorem LAt.below {W W' : World} {p : Addr} {l : Lt} {B : Nat} (h : LAt W p l) (hb : Below B W W') (hp : p.block < B) : LAt W' p l :=
  ⟨(hb.cell hp).trans h.1, (hb.cell (p := ⟨p.block, p.off + 1, none⟩) hp).trans h.2.1, (hb.cell (p := ⟨p.block, p.off + 2, none⟩) hp).trans h.2.2⟩
/-- The slice v holds the letters L. -/
def Lts (W : World) (v : Value) (L : List Lt) : Prop :=
  (v = .slice none 0 0 ∧ L = []) ∨ ∃ (a : Addr) (cap : Nat), v = .slice (some a) L.length cap ∧ L.length ≤ cap ∧ cap ≤ maxLen ∧ (0 < L.length → a.block < W.heap.size) ∧ ∀ (i : Nat) (h : i < L.length), LAt W (a.add (i * 3)) L[i]
theorem Lts.below {W W' : World} {v : Value} {L : List Lt} {B : Nat} (h : Lts W v L) (hb : Below B W W') (hB : W.heap.size ≤ B) : Lts W' v L := by
  rcases h with h | ⟨a, cap, hv, hl, hm, hbl, hc⟩
  · exact .inl h
  · exact .inr ⟨a, cap, hv, hl, hm, fun h0 => Nat.lt_of_lt_of_le (hbl h0) hb.size, fun i hi => (hc i hi).below hb (by rw [add_block]; have := hbl (by omega); omega)⟩
theorem Lts.call {W W' : World} {v : Value} {L : List Lt} (h : Lts W v L) (hb : Below W.heap.size W W') : Lts W' v L := h.below hb (Nat.le_refl _)
theorem Lts.len {W : World} {v : Value} {L : List Lt} (h : Lts W v L) : ∃ a cap, v = .slice a L.length cap ∧ L.length ≤ 9223372036854775807 := by
  rcases h with ⟨rfl, rfl⟩ | ⟨a, cap, rfl, hl, hm, _⟩
  · exact ⟨none, 0, rfl, by simp⟩
  · exact ⟨some a, cap, rfl, by unfold maxLen at hm; omega⟩
theorem Lts.cells {W : World} {oa : Option Addr} {n cap : Nat} {L : List Lt} (h : Lts W (.slice oa n cap) L) : ∀ k, k < L.length → ∃ a, oa = some a ∧ a.block < W.heap.size ∧ ∀ (i : Nat) (h : i < L.length), LAt W (a.add (i * 3)) L[i] := by
  intro k hk
  rcases h with ⟨_, rfl⟩ | ⟨a, cap', hv, _, _, hb, hc⟩
  · simp at hk
  · injection hv with e1 _ _
    exact ⟨a, e1, hb (by omega), hc⟩

set_option maxRecDepth 20000 in
set_option maxHeartbeats 1000000 in
theorem szls_is (W : World) (v : Value) (L : List Lt) (h : Lts W v L) (hs : ∀ l ∈ L, l.s.size ≤ maxLen) :
    Calls Try.prog 27 #[v, .int .i64 1048576] W fun e w' => ∃ r : Int, e = .returned (.int .i64 r) ∧ Below W.heap.size W w' ∧ (0 ≤ r → r ≤ 1048576 ∧ L.length ≤ 1048576) := by
  obtain ⟨oa, cap, rfl, hl⟩ := h.len
  have hcell := h.cells
  clear h
  have hw1 : IntKind.i64.wrap (1048576 - (L.length : Int)) = 1048576 - (L.length : Int) := IntWalk.i64_in _ (by omega)
  by_cases hb : 1048576 < L.length
  · have hbI : 1048576 - (L.length : Int) < 0 := by omega
    clear hcell
    go_enter Try.func27, Try.ntmps27
    go_wp2
    go_ret
    exact ⟨-1, rfl, Below.refl _ _, fun h => by omega⟩
  · have hbI : ¬ 1048576 - (L.length : Int) < 0 := by omega
    have hlN : Hid (L.length ≤ 1048576) := by show _ ≤ _; omega
    go_enter Try.func27, Try.ntmps27
    go_wp2_with fail
    go_loopw [1, 5] (fun x i wr => ∃ (k : Nat) (r : Int), k ≤ L.length ∧ i = .int .i64 (k : Int) ∧ x = .int .i64 r ∧ 0 ≤ r ∧ r ≤ 1048576 ∧ Hid (Below W.heap.size W wr)) (fun _ i _ => L.length - (intOf i).toNat)
    case atStart => exact ⟨0, _, by omega, rfl, rfl, by omega, by omega, Below.refl _ _⟩
    case round =>
      obtain ⟨k, r, hk, rfl, rfl, hr0, hr1, HB⟩ := hrel
      by_cases hlt : k < L.length
      · obtain ⟨a, rfl, hbl, hc⟩ := hcell k hlt
        have hd : LAt wr (a.add (k * 3)) L[k] := (hc k hlt).below HB.out (by rw [add_block]; exact hbl)
        have hsl := hs L[k] (List.getElem_mem _)
        obtain ⟨⟨f, t, s⟩, hq⟩ : ∃ q, q = L[k] := ⟨_, rfl⟩
        rw [← hq] at hd hsl
        obtain ⟨d0, d1, d2⟩ := hd
        simp only at d0 d1 d2 hsl
        have cz := fun V : World => szlet_is f t s hsl r ⟨hr0, hr1⟩ V
        have hk0 : (0 : Int) ≤ (k : Int) := by omega
        have hkI : (k : Int) < (L.length : Int) := by omega
        clear hq hc hcell hsl
        by_cases hneg : r - (s.size : Int) < 0
        · rw [if_pos hneg] at cz
          go_wp2_with (go_at_call 39; refine (cz _).mono ?_; rintro e w1 ⟨rfl, hb1⟩)
          go_ret
          exact ⟨-1, rfl, below_after HB.out hb1 HB.out.size, fun h => by omega⟩
        · rw [if_neg hneg] at cz
          obtain ⟨y, hy⟩ : ∃ y, y = r - (s.size : Int) := ⟨_, rfl⟩
          rw [← hy] at cz hneg
          have hy1 : y ≤ 1048576 := by omega
          have hy0 : 0 ≤ y := by omega
          clear hy
          go_wp2_with (go_at_call 39; refine (cz _).mono ?_; rintro e w1 ⟨rfl, hb1⟩)
          exact ⟨⟨k + 1, y, by omega, by go_num, rfl, hy0, hy1, below_after HB.out hb1 HB.out.size⟩, by simp [intOf]; omega⟩
      · clear hcell
        go_wp2
        go_ret
        exact ⟨r, rfl, HB.out, fun _ => ⟨hr1, hlN.out⟩⟩
end Go.Proofs.Ytnfnhgloblfgnaa
