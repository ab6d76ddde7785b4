/-
  A bag again (the document's copy of a bag).
-/
import Derived.Test.YtiipfedjjhpbpaaNet5
import Derived.Deep.AppendLies
namespace Go.Proofs.Ytiipfedjjhpbpaa
open Go.RowKit

/-- What stands while a bag is copied: the argument's box, the answer's two boxes, the row of the first k letters. -/
def CP (W : World) (m : Int) (v : Value) (L : List Lt) (k : Nat) (ob : Option Addr) (cq : Nat) (wr : World) : Prop :=
  C2 W.heap.size (.int .i64 m) v wr ∧ C2 (W.heap.size + 1) (.int .i64 0) (.slice none 0 0) wr ∧ C2 (W.heap.size + 1 + 1) (.int .i64 m) (.slice ob k cq) wr ∧ wr.ownsRow (W.heap.size + 1 + 1 + 1) 27 3 (.slice ob k cq) k (lcs (L.take k)) ∧ Below W.heap.size W wr
theorem CP.call {W : World} {m : Int} {v : Value} {L : List Lt} {k : Nat} {ob : Option Addr} {cq : Nat} {w1 w2 : World} (h : CP W m v L k ob cq w1) (hb : Below w1.heap.size w1 w2) : CP W m v L k ob cq w2 :=
  ⟨h.1.call hb, h.2.1.call hb, h.2.2.1.call hb, own_callL h.2.2.2.1 hb, below_after h.2.2.2.2 hb h.2.2.2.2.size⟩
theorem CP.new (W : World) (m : Int) (v : Value) (L : List Lt) : CP W m v L 0 none 0 (((W.alloc (.cells #[.int .i64 m, v] 25)).alloc (.cells #[.int .i64 0, .slice none 0 0] 25)).alloc (.cells #[.int .i64 m, .slice none 0 0] 25)) := by
  refine ⟨((C2.new W (.int .i64 m) v 25).alloc _).alloc _, ?_, ?_, World.ownsRow_nil _ _ _ _, (by repeat' (first | (with_reducible exact Below.refl _ _) | (with_reducible assumption) | (with_reducible refine below_drewN ?_ _) | (with_reducible refine Below.setCell ?_ ?_ _) | (with_reducible refine Below.alloc ?_ ?_ _) | (with_reducible refine Below.drew ?_) | go_size))⟩
  · have := (C2.new (W.alloc (.cells #[.int .i64 m, v] 25)) (.int .i64 0) (.slice none 0 0) 25).alloc (.cells #[.int .i64 m, .slice none 0 0] 25)
    rwa [World.size_alloc] at this
  · have := C2.new ((W.alloc (.cells #[.int .i64 m, v] 25)).alloc (.cells #[.int .i64 0, .slice none 0 0] 25)) (.int .i64 m) (.slice none 0 0) 25
    rwa [World.size_alloc, World.size_alloc] at this
/-- One letter appended, and the row stored into the answer's box. -/
theorem CP.more {W : World} {m : Int} {v : Value} {L : List Lt} {k : Nat} {ob : Option Addr} {cq : Nat} {w1 w2 : World} {v' : Value} (hk : k < L.length) (h : CP W m v L k ob cq w1)
    (ho : w2.ownsRow (W.heap.size + 1 + 1 + 1) 27 3 v' (k + 1) (lcs (L.take k) ++ lc L[k])) (hg : w1.grownBy w2 (Value.slice ob k cq).ownBlock) :
    ∃ oc cp, v' = .slice oc (k + 1) cp ∧ C2 (W.heap.size + 1 + 1) (.int .i64 m) (.slice ob k cq) w2 ∧ C2 W.heap.size (.int .i64 m) v w2 ∧ Below W.heap.size W w2 ∧ CP W m v L (k + 1) oc cp (w2.setCell ⟨W.heap.size + 1 + 1, 1, none⟩ (.slice oc (k + 1) cp)) := by
  obtain ⟨h1, h2, h3, h4, h5⟩ := h
  obtain ⟨oc, cp, rfl⟩ := owl_len ho
  have n1 : ∀ j, j < W.heap.size + 1 + 1 + 1 → (Value.slice ob k cq).ownBlock ≠ some j := fun j hj e => by
    have := (h4.lt _ e).1
    omega
  have n2 : ∀ j, j < W.heap.size + 1 + 1 + 1 → (Value.slice oc (k + 1) cp).ownBlock ≠ some j := fun j hj e => by
    have := (ho.lt _ e).1
    omega
  have g3 := h3.grown hg (n1 _ (by omega))
  have gs := grown_set w2 (W.heap.size + 1 + 1) 1 (.slice oc (k + 1) cp)
  refine ⟨oc, cp, rfl, g3, h1.grown hg (n1 _ (by omega)), h5.grown hg h5.size (fun j e => by have := (h4.lt _ e).1; omega), (h1.grown hg (n1 _ (by omega))).set _ _ _ (by omega), (h2.grown hg (n1 _ (by omega))).set _ _ _ (by omega), ?_, ?_, ?_⟩
  · obtain ⟨x0, x1, x2, x3, x4⟩ := g3
    refine ⟨by simpa using x0, ?_, ?_, ?_, ?_⟩ <;> simp [go_sem, x1, x2, x3, x4]
  · have := ho.kept gs (.inr (n2 _ (by omega)))
    rw [List.take_succ_eq_append_getElem hk, lcs_append]
    simpa [lcs] using this
  · exact ((h5.grown hg h5.size (fun j e => by have := (h4.lt _ e).1; omega))).setCell (by show W.heap.size ≤ W.heap.size + 1 + 1; omega) _

set_option maxRecDepth 20000 in
set_option maxHeartbeats 1000000 in
theorem l6copy_is (W : World) (m : Int) (v : Value) (L : List Lt) (h : Lts W v L) (h64 : L.length ≤ 64) :
    Calls Try.prog 40 #[.agg #[.int .i64 m, v]] W fun e w' => ∃ u cap, e = .returned (.agg #[.int .i64 m, .slice u L.length cap]) ∧ w'.ownsRow W.heap.size 27 3 (.slice u L.length cap) L.length (lcs L) ∧ Below W.heap.size W w' := by
  obtain ⟨i0, hi, hz0, hz1, hz2⟩ := info_parts infoL
  have HP0 : Hid (CP W m v L 0 none 0 (((W.alloc (.cells #[.int .i64 m, v] 25)).alloc (.cells #[.int .i64 0, .slice none 0 0] 25)).alloc (.cells #[.int .i64 m, .slice none 0 0] 25))) := CP.new W m v L
  obtain ⟨oa, cap, rfl, hl⟩ := h.len
  have hcell := h.cells
  clear h
  go_enter Try.func40, Try.ntmps40
  go_wp2_with fail
  go_loopw [4] (fun i wr => ∃ (k : Nat) (ob : Option Addr) (cq : Nat), k ≤ L.length ∧ i = .int .i64 (k : Int) ∧ Hid (CP W m (.slice oa L.length cap) L k ob cq wr)) (fun i _ => L.length - (intOf i).toNat)
  case atStart => exact ⟨0, none, 0, by omega, rfl, HP0⟩
  case round =>
    obtain ⟨k, ob, cq, hk, rfl, HW⟩ := hrel
    obtain ⟨hc1, hc2, hc3, ho, hb⟩ := id HW.out
    obtain ⟨x0, x1, x2, x3, x4⟩ := id hc1
    obtain ⟨y0, y1, y2, y3, y4⟩ := id hc3
    obtain ⟨z0, z1, z2, z3, z4⟩ := id hc2
    by_cases hlt : k < L.length
    · obtain ⟨a, rfl, hbl, hc⟩ := hcell k hlt
      have hd : LAt wr (a.add (k * 3)) L[k] := (hc k hlt).below hb (by rw [add_block]; exact hbl)
      obtain ⟨d0, d1, d2⟩ := hd
      have hk0 : (0 : Int) ≤ (k : Int) := by omega
      have hkI : (k : Int) < (L.length : Int) := by omega
      have HM : Hid (∀ (w1 w2 : World) (v' : Value), Below wr.heap.size wr w1 → w2.ownsRow (W.heap.size + 1 + 1 + 1) 27 3 v' (k + 1) (lcs (L.take k) ++ lc L[k]) → w1.grownBy w2 (Value.slice ob k cq).ownBlock → ∃ oc cp, v' = .slice oc (k + 1) cp ∧ C2 (W.heap.size + 1 + 1) (.int .i64 m) (.slice ob k cq) w2 ∧ C2 W.heap.size (.int .i64 m) (.slice (some a) L.length cap) w2 ∧ LAt w2 (a.add (k * 3)) L[k] ∧ CP W m (.slice (some a) L.length cap) L (k + 1) oc cp (w2.setCell ⟨W.heap.size + 1 + 1, 1, none⟩ (.slice oc (k + 1) cp))) := fun w1 w2 v' hb1 ho2 hg2 => by
        obtain ⟨oc, cp, p1, p2, p3, p4, p5⟩ := (HW.out.call hb1).more hlt ho2 hg2
        exact ⟨oc, cp, p1, p2, p3, (hc k hlt).below p4 (by rw [add_block]; exact hbl), p5⟩
      have hlk : (lcs (L.take k)).length = k * 3 := by rw [lcs_len, List.length_take]; omega
      obtain ⟨q, hq⟩ : ∃ q, q = L[k] := ⟨_, rfl⟩
      rw [← hq] at d0 d1 d2 HM
      obtain ⟨X, hX⟩ : ∃ X, X = lcs (L.take k) := ⟨_, rfl⟩
      rw [← hX] at ho HM
      clear hcell hc HP0 hc1 hc2 hc3 hq hX HW
      have hab : (a.add (k * 3)).block < W.heap.size := by rw [add_block]; exact hbl
      have n1 := World.new_ne wr ⟨W.heap.size, 1, none⟩ x2
      have n2 := World.new_ne wr ⟨W.heap.size + 1 + 1, 1, none⟩ y2
      have n3 := World.new_ne wr (a.add (k * 3)) d0
      go_wp2_with fail
      go_region_law (refine step_append_lies _ rfl (.tmp 16) (.tmp 22) 23 rfl (W.heap.size + 1 + 1 + 1) 27 i0 _ 3 32 Try.underlying23 hi hz0 hz1 hz2 rfl (by decide) (.slice ob k cq) k X (by simp [Act.eval]) (own_callL ho (by repeat' (first | (with_reducible exact Below.refl _ _) | (with_reducible assumption) | (with_reducible refine below_drewN ?_ _) | (with_reducible refine Below.setCell ?_ ?_ _) | (with_reducible refine Below.alloc ?_ ?_ _) | (with_reducible refine Below.drew ?_) | go_size))) ⟨wr.heap.size, 0, none⟩ 1 1 (lc q) (by simp [Act.eval]) rfl (lc_cells (by simp [go_sem]) (by simp [go_sem]) (by simp [go_sem])) lc_one (by decide) (by unfold maxLen; omega) (by omega) (by simp; omega) _ rfl ?_; intro g cp w3 ho3 hg3 hat3 hlt3; obtain ⟨oc, cp', hv3, ⟨-, e0, e1, e2, e3⟩, ⟨-, f0, f1, f2, f3⟩, ⟨s0, s1, s2⟩, HN⟩ := HM.out _ w3 _ (by repeat' (first | (with_reducible exact Below.refl _ _) | (with_reducible assumption) | (with_reducible refine below_drewN ?_ _) | (with_reducible refine Below.setCell ?_ ?_ _) | (with_reducible refine Below.alloc ?_ ?_ _) | (with_reducible refine Below.drew ?_) | go_size)) ho3 hg3; injection hv3 with hv1 hv2 hv3; subst hv1 hv3; clear hat3)
      all_goals (go_wp2_with fail)
      all_goals go_roundw
      all_goals try (case measure => simp [intOf]; omega)
      all_goals (case rel => exact ⟨k + 1, _, _, by omega, by go_num, HN⟩)
    · have hkk : k = L.length := by omega
      subst hkk
      clear hcell HP0
      rw [List.take_length] at ho
      go_wp2_with fail
      refine bodyPost_ret (v := .agg #[.int .i64 m, .slice ob L.length cq]) (by simp [results, Try.results40, go_sem, z1, z2]) rfl ⟨_, _, rfl, ?_, ?_⟩
      · have g1 := (grown_set wr (W.heap.size + 1) 0 (.int .i64 m)).trans2 (grown_set _ (W.heap.size + 1) 1 (.slice ob L.length cq))
        exact (own_down ho (by omega)).kept g1 (.inr (fun e => by have := (ho.lt _ e).1; omega))
      · exact (hb.setCell (by show W.heap.size ≤ W.heap.size + 1; omega) _).setCell (by show W.heap.size ≤ W.heap.size + 1; omega) _
end Go.Proofs.Ytiipfedjjhpbpaa
