/-
  hashRest: what is left of a text, laid into its last block or two.
-/
import Derived.Test.YteaaaojafipllaaDoorRows
import Derived.Test.YteaaaojafipllaaDoorJoinB6
import Derived.Test.YteaaaojafipllaaDoorJoinB7
import Derived.Deep.QuietTactic
import Derived.BigQuiet
import Derived.Deep.RegionWith
import Derived.Deep.RegionHeld3
import Derived.Deep.CutRange
import Derived.Deep.DeepCutAuto
import Derived.Deep.CutBlock
import Derived.Laws.Tables
import Derived.Test.YteaaaojafipllaaDoorJoinB8
import Derived.Test.YteaaaojafipllaaDoorKit6
import Derived.Test.YteaaaojafipllaaDoorJoinB5
namespace Go.Proofs.YteaaaojafipllaaDoor
open Go.RowKit

/-- What copy does first in hashRest. -/
theorem copy56_0 (s : Qd) (l : List UInt8) (hl : l.length = 32) (r : Nat) (hr : r ≤ 32) (w : World) (ty : TypeId) :
    (Builtin.copy_ #[76, 76] ty #[.slice (some ⟨w.heap.size + 1 + 1 + 1, 0, none⟩) 32 32, .slice (some ⟨w.heap.size + 1, 0, none⟩) r 32]).run Tryd.prog (((((w.alloc (.cells #[Value.int IntKind.u64 ((s).a.toNat : Int), Value.int IntKind.u64 ((s).b.toNat : Int), Value.int IntKind.u64 ((s).c.toNat : Int), Value.int IntKind.u64 ((s).d.toNat : Int)] 34)).alloc (.cells (bv l).toArray 129)).alloc (.cells #[Value.int IntKind.u64 0, Value.int IntKind.u64 0, Value.int IntKind.u64 0, Value.int IntKind.u64 0] 34)).alloc (.cells #[Value.int IntKind.u8 0, Value.int IntKind.u8 0, Value.int IntKind.u8 0, Value.int IntKind.u8 0, Value.int IntKind.u8 0, Value.int IntKind.u8 0, Value.int IntKind.u8 0, Value.int IntKind.u8 0, Value.int IntKind.u8 0, Value.int IntKind.u8 0, Value.int IntKind.u8 0, Value.int IntKind.u8 0, Value.int IntKind.u8 0, Value.int IntKind.u8 0, Value.int IntKind.u8 0, Value.int IntKind.u8 0, Value.int IntKind.u8 0, Value.int IntKind.u8 0, Value.int IntKind.u8 0, Value.int IntKind.u8 0, Value.int IntKind.u8 0, Value.int IntKind.u8 0, Value.int IntKind.u8 0, Value.int IntKind.u8 0, Value.int IntKind.u8 0, Value.int IntKind.u8 0, Value.int IntKind.u8 0, Value.int IntKind.u8 0, Value.int IntKind.u8 0, Value.int IntKind.u8 0, Value.int IntKind.u8 0, Value.int IntKind.u8 0] 129)).drew) =
      .ok (goInt r) (((((w.alloc (.cells #[Value.int IntKind.u64 ((s).a.toNat : Int), Value.int IntKind.u64 ((s).b.toNat : Int), Value.int IntKind.u64 ((s).c.toNat : Int), Value.int IntKind.u64 ((s).d.toNat : Int)] 34)).alloc (.cells (bv l).toArray 129)).alloc (.cells #[Value.int IntKind.u64 0, Value.int IntKind.u64 0, Value.int IntKind.u64 0, Value.int IntKind.u64 0] 34)).alloc (.cells (bv (l.take r ++ List.replicate (32 - r) 0)).toArray 129)).drew) := by
  have hlen : ((bv l).take r).length = r := by simp [bv_length, hl]; omega
  have h := run_copy_deep (P := Tryd.prog) (((w.alloc (.cells #[Value.int IntKind.u64 ((s).a.toNat : Int), Value.int IntKind.u64 ((s).b.toNat : Int), Value.int IntKind.u64 ((s).c.toNat : Int), Value.int IntKind.u64 ((s).d.toNat : Int)] 34)).alloc (.cells (bv l).toArray 129)).alloc (.cells #[Value.int IntKind.u64 0, Value.int IntKind.u64 0, Value.int IntKind.u64 0, Value.int IntKind.u64 0] 34)) 1 [] (w.heap.size + 1 + 1 + 1) (by simp only [World.size_alloc]) 76 76 ty 5 Tryd.underlying76 (by kernel_rfl) #[Value.int IntKind.u8 0, Value.int IntKind.u8 0, Value.int IntKind.u8 0, Value.int IntKind.u8 0, Value.int IntKind.u8 0, Value.int IntKind.u8 0, Value.int IntKind.u8 0, Value.int IntKind.u8 0, Value.int IntKind.u8 0, Value.int IntKind.u8 0, Value.int IntKind.u8 0, Value.int IntKind.u8 0, Value.int IntKind.u8 0, Value.int IntKind.u8 0, Value.int IntKind.u8 0, Value.int IntKind.u8 0, Value.int IntKind.u8 0, Value.int IntKind.u8 0, Value.int IntKind.u8 0, Value.int IntKind.u8 0, Value.int IntKind.u8 0, Value.int IntKind.u8 0, Value.int IntKind.u8 0, Value.int IntKind.u8 0, Value.int IntKind.u8 0, Value.int IntKind.u8 0, Value.int IntKind.u8 0, Value.int IntKind.u8 0, Value.int IntKind.u8 0, Value.int IntKind.u8 0, Value.int IntKind.u8 0, Value.int IntKind.u8 0] 129 0 32 32 ⟨w.heap.size + 1, 0, none⟩ r 32 ((bv l).take r) (bv (l.take r ++ List.replicate (32 - r) 0)).toArray (by rw [hlen]; exact (Nat.min_eq_left hr).symm) (by rw [hlen]; simp; omega)
    (fun j v hv => by
      rw [Addr.add_mid]
      refine c_drewN ?_
      refine c_alloc ?_
      refine c_alloc ?_
      have hg : ((w.alloc (.cells #[Value.int IntKind.u64 ((s).a.toNat : Int), Value.int IntKind.u64 ((s).b.toNat : Int), Value.int IntKind.u64 ((s).c.toNat : Int), Value.int IntKind.u64 ((s).d.toNat : Int)] 34)).alloc (.cells (bv l).toArray 129)).heap[w.heap.size + 1]? = some (.cells (bv l).toArray 129) := heap_new2 _ _ _ (by simp only [World.size_alloc])
      rw [cell_of_row _ _ _ _ 129 (0, 0) hg]
      rw [List.getElem?_take] at hv
      split at hv
      · simpa using hv
      · cases hv)
    (fun v hv => by
      have hv' := List.mem_of_mem_take hv
      simp [bv] at hv'
      obtain ⟨x, _, rfl⟩ := hv'
      rfl)
    (by
      have hz : (#[Value.int IntKind.u8 0, Value.int IntKind.u8 0, Value.int IntKind.u8 0, Value.int IntKind.u8 0, Value.int IntKind.u8 0, Value.int IntKind.u8 0, Value.int IntKind.u8 0, Value.int IntKind.u8 0, Value.int IntKind.u8 0, Value.int IntKind.u8 0, Value.int IntKind.u8 0, Value.int IntKind.u8 0, Value.int IntKind.u8 0, Value.int IntKind.u8 0, Value.int IntKind.u8 0, Value.int IntKind.u8 0, Value.int IntKind.u8 0, Value.int IntKind.u8 0, Value.int IntKind.u8 0, Value.int IntKind.u8 0, Value.int IntKind.u8 0, Value.int IntKind.u8 0, Value.int IntKind.u8 0, Value.int IntKind.u8 0, Value.int IntKind.u8 0, Value.int IntKind.u8 0, Value.int IntKind.u8 0, Value.int IntKind.u8 0, Value.int IntKind.u8 0, Value.int IntKind.u8 0, Value.int IntKind.u8 0, Value.int IntKind.u8 0] : Array Value).toList = List.replicate 32 (Value.int IntKind.u8 0) := rfl
      rw [hlen, hz, List.drop_replicate]
      simp [bv, List.map_take])
  rw [hlen] at h
  exact h

theorem frozen_setRow_other (w : World) (g : Nat) (c : Array Value) (a : Addr) (h : a.block ≠ g) : (w.setRow g c).frozen? a = w.frozen? a := World.frozen?_of_block (setRow_other w g a.block c h)

theorem bow_len (m : Nat) (w : World) (_h1 : m < 18446744073709551616) :
    Calls Tryd.prog 58 #[.int .u64 (IntKind.u64.wrap (m : Int))] w fun e w' => e = .returned (.agg #[Value.int IntKind.u8 ((by8 (UInt64.ofNat m) 56).toNat : Int), Value.int IntKind.u8 ((by8 (UInt64.ofNat m) 48).toNat : Int), Value.int IntKind.u8 ((by8 (UInt64.ofNat m) 40).toNat : Int), Value.int IntKind.u8 ((by8 (UInt64.ofNat m) 32).toNat : Int), Value.int IntKind.u8 ((by8 (UInt64.ofNat m) 24).toNat : Int), Value.int IntKind.u8 ((by8 (UInt64.ofNat m) 16).toNat : Int), Value.int IntKind.u8 ((by8 (UInt64.ofNat m) 8).toNat : Int), Value.int IntKind.u8 ((by8 (UInt64.ofNat m) 0).toNat : Int)]) ∧ w' = (w.alloc (.cells #[Value.int IntKind.u8 ((by8 (UInt64.ofNat m) 56).toNat : Int), Value.int IntKind.u8 ((by8 (UInt64.ofNat m) 48).toNat : Int), Value.int IntKind.u8 ((by8 (UInt64.ofNat m) 40).toNat : Int), Value.int IntKind.u8 ((by8 (UInt64.ofNat m) 32).toNat : Int), Value.int IntKind.u8 ((by8 (UInt64.ofNat m) 24).toNat : Int), Value.int IntKind.u8 ((by8 (UInt64.ofNat m) 16).toNat : Int), Value.int IntKind.u8 ((by8 (UInt64.ofNat m) 8).toNat : Int), Value.int IntKind.u8 ((by8 (UInt64.ofNat m) 0).toNat : Int)] 125)).alloc (.cells #[Value.int IntKind.u8 ((by8 (UInt64.ofNat m) 56).toNat : Int), Value.int IntKind.u8 ((by8 (UInt64.ofNat m) 48).toNat : Int), Value.int IntKind.u8 ((by8 (UInt64.ofNat m) 40).toNat : Int), Value.int IntKind.u8 ((by8 (UInt64.ofNat m) 32).toNat : Int), Value.int IntKind.u8 ((by8 (UInt64.ofNat m) 24).toNat : Int), Value.int IntKind.u8 ((by8 (UInt64.ofNat m) 16).toNat : Int), Value.int IntKind.u8 ((by8 (UInt64.ofNat m) 8).toNat : Int), Value.int IntKind.u8 ((by8 (UInt64.ofNat m) 0).toNat : Int)] 125) := by
  have e : IntKind.u64.wrap (m : Int) = ((UInt64.ofNat m).toNat : Int) := by rw [IntKind.wrap_u64, UInt64.toNat_ofNat']; omega
  rw [e]
  exact bow_is (UInt64.ofNat m) w


/-- What stands in hashRest: the state's box, the last block's row, the answer's box. -/
def RestRel (w : World) (q : Qd) (L : List UInt8) (wx : World) : Prop :=
  w.heap.size + 1 + 1 + 1 < wx.heap.size ∧ Below w.heap.size w wx ∧ wx.heap[w.heap.size + 1 + 1 + 1]? = some (.cells (bv L).toArray 129) ∧ wx.cell? ⟨w.heap.size, 0, none⟩ = some (Value.int IntKind.u64 (((q).a).toNat : Int)) ∧ wx.cell? ⟨w.heap.size, 1, none⟩ = some (Value.int IntKind.u64 (((q).b).toNat : Int)) ∧ wx.cell? ⟨w.heap.size, 2, none⟩ = some (Value.int IntKind.u64 (((q).c).toNat : Int)) ∧ wx.cell? ⟨w.heap.size, 3, none⟩ = some (Value.int IntKind.u64 (((q).d).toNat : Int)) ∧ wx.frozen? ⟨w.heap.size, 0, none⟩ = false ∧ wx.frozen? ⟨w.heap.size, 1, none⟩ = false ∧ wx.frozen? ⟨w.heap.size, 2, none⟩ = false ∧ wx.frozen? ⟨w.heap.size, 3, none⟩ = false ∧ wx.cell? ⟨w.heap.size + 1 + 1, 0, none⟩ = some (.int .u64 0) ∧ wx.cell? ⟨w.heap.size + 1 + 1, 1, none⟩ = some (.int .u64 0) ∧ wx.cell? ⟨w.heap.size + 1 + 1, 2, none⟩ = some (.int .u64 0) ∧ wx.cell? ⟨w.heap.size + 1 + 1, 3, none⟩ = some (.int .u64 0) ∧ wx.frozen? ⟨w.heap.size + 1 + 1, 0, none⟩ = false ∧ wx.frozen? ⟨w.heap.size + 1 + 1, 1, none⟩ = false ∧ wx.frozen? ⟨w.heap.size + 1 + 1, 2, none⟩ = false ∧ wx.frozen? ⟨w.heap.size + 1 + 1, 3, none⟩ = false
theorem RestRel.drew {w wx : World} {q : Qd} {L : List UInt8} (h : RestRel w q L wx) : RestRel w q L wx.drew := ⟨h.1, h.2.1.drew, h.2.2⟩
theorem RestRel.call {w W w1 : World} {q : Qd} {L : List UInt8} (h : RestRel w q L W) (hb : Below W.heap.size W w1) : RestRel w q L w1 := by
  obtain ⟨hz, hB, hrow, e0, e1, e2, e3, g0, g1, g2, g3, r0, r1, r2, r3, k0, k1, k2, k3⟩ := h
  refine ⟨Nat.lt_of_lt_of_le hz hb.size, hB.trans (hb.mono hB.size), (hb.block _ hz).trans hrow, c_call hb e0 (by simp only; omega), c_call hb e1 (by simp only; omega), c_call hb e2 (by simp only; omega), c_call hb e3 (by simp only; omega), (hb.frozen (by simp only; omega)).trans g0, (hb.frozen (by simp only; omega)).trans g1, (hb.frozen (by simp only; omega)).trans g2, (hb.frozen (by simp only; omega)).trans g3, c_call hb r0 (by simp only; omega), c_call hb r1 (by simp only; omega), c_call hb r2 (by simp only; omega), c_call hb r3 (by simp only; omega), (hb.frozen (by simp only; omega)).trans k0, (hb.frozen (by simp only; omega)).trans k1, (hb.frozen (by simp only; omega)).trans k2, (hb.frozen (by simp only; omega)).trans k3⟩
set_option maxHeartbeats 2000000 in
/-- The state is written anew. -/
theorem RestRel.state {w W : World} {q q' : Qd} {L : List UInt8} (h : RestRel w q L W) :
    RestRel w q' L ((((W.setCell ⟨w.heap.size, 0, none⟩ (Value.int IntKind.u64 ((q'.a).toNat : Int))).setCell ⟨w.heap.size, 1, none⟩ (Value.int IntKind.u64 ((q'.b).toNat : Int))).setCell ⟨w.heap.size, 2, none⟩ (Value.int IntKind.u64 ((q'.c).toNat : Int))).setCell ⟨w.heap.size, 3, none⟩ (Value.int IntKind.u64 ((q'.d).toNat : Int))) := by
  obtain ⟨hz, hB, hrow, e0, e1, e2, e3, g0, g1, g2, g3, r0, r1, r2, r3, k0, k1, k2, k3⟩ := h
  obtain ⟨q0, q1, q2, q3⟩ := four_set (w := W) (b := w.heap.size) (x0 := Value.int IntKind.u64 ((q'.a).toNat : Int)) (x1 := Value.int IntKind.u64 ((q'.b).toNat : Int)) (x2 := Value.int IntKind.u64 ((q'.c).toNat : Int)) (x3 := Value.int IntKind.u64 ((q'.d).toNat : Int)) (fun i hi => by
    have hi' : i = 0 ∨ i = 1 ∨ i = 2 ∨ i = 3 := by omega
    rcases hi' with rfl | rfl | rfl | rfl
    · rw [e0]; rfl
    · rw [e1]; rfl
    · rw [e2]; rfl
    · rw [e3]; rfl)
  have hh : ((((W.setCell ⟨w.heap.size, 0, none⟩ (Value.int IntKind.u64 ((q'.a).toNat : Int))).setCell ⟨w.heap.size, 1, none⟩ (Value.int IntKind.u64 ((q'.b).toNat : Int))).setCell ⟨w.heap.size, 2, none⟩ (Value.int IntKind.u64 ((q'.c).toNat : Int))).setCell ⟨w.heap.size, 3, none⟩ (Value.int IntKind.u64 ((q'.d).toNat : Int))).heap[w.heap.size + 1 + 1 + 1]? = some (.cells (bv L).toArray 129) := by
    have hn : w.heap.size + 1 + 1 + 1 ≠ w.heap.size := by omega
    rw [heap_setCell_other _ _ _ _ hn, heap_setCell_other _ _ _ _ hn, heap_setCell_other _ _ _ _ hn, heap_setCell_other _ _ _ _ hn]; exact hrow
  exact ⟨by simp only [World.size_setCell]; exact hz, (((hB.setCell (Nat.le_refl _) _).setCell (Nat.le_refl _) _).setCell (Nat.le_refl _) _).setCell (Nat.le_refl _) _, hh, q0, q1, q2, q3, (by rw [World.frozen?_setCell, World.frozen?_setCell, World.frozen?_setCell, World.frozen?_setCell]; exact g0), (by rw [World.frozen?_setCell, World.frozen?_setCell, World.frozen?_setCell, World.frozen?_setCell]; exact g1), (by rw [World.frozen?_setCell, World.frozen?_setCell, World.frozen?_setCell, World.frozen?_setCell]; exact g2), (by rw [World.frozen?_setCell, World.frozen?_setCell, World.frozen?_setCell, World.frozen?_setCell]; exact g3), (c_set (c_set (c_set (c_set r0 (by show w.heap.size ≠ w.heap.size + 1 + 1; omega)) (by show w.heap.size ≠ w.heap.size + 1 + 1; omega)) (by show w.heap.size ≠ w.heap.size + 1 + 1; omega)) (by show w.heap.size ≠ w.heap.size + 1 + 1; omega)), (c_set (c_set (c_set (c_set r1 (by show w.heap.size ≠ w.heap.size + 1 + 1; omega)) (by show w.heap.size ≠ w.heap.size + 1 + 1; omega)) (by show w.heap.size ≠ w.heap.size + 1 + 1; omega)) (by show w.heap.size ≠ w.heap.size + 1 + 1; omega)), (c_set (c_set (c_set (c_set r2 (by show w.heap.size ≠ w.heap.size + 1 + 1; omega)) (by show w.heap.size ≠ w.heap.size + 1 + 1; omega)) (by show w.heap.size ≠ w.heap.size + 1 + 1; omega)) (by show w.heap.size ≠ w.heap.size + 1 + 1; omega)), (c_set (c_set (c_set (c_set r3 (by show w.heap.size ≠ w.heap.size + 1 + 1; omega)) (by show w.heap.size ≠ w.heap.size + 1 + 1; omega)) (by show w.heap.size ≠ w.heap.size + 1 + 1; omega)) (by show w.heap.size ≠ w.heap.size + 1 + 1; omega)), (by rw [World.frozen?_setCell, World.frozen?_setCell, World.frozen?_setCell, World.frozen?_setCell]; exact k0), (by rw [World.frozen?_setCell, World.frozen?_setCell, World.frozen?_setCell, World.frozen?_setCell]; exact k1), (by rw [World.frozen?_setCell, World.frozen?_setCell, World.frozen?_setCell, World.frozen?_setCell]; exact k2), (by rw [World.frozen?_setCell, World.frozen?_setCell, World.frozen?_setCell, World.frozen?_setCell]; exact k3)⟩
/-- The last block is written anew. -/
theorem RestRel.row {w W : World} {q : Qd} {L L' : List UInt8} (h : RestRel w q L W) : RestRel w q L' (W.setRow (w.heap.size + 1 + 1 + 1) (bv L').toArray) := by
  obtain ⟨hz, hB, hrow, e0, e1, e2, e3, g0, g1, g2, g3, r0, r1, r2, r3, k0, k1, k2, k3⟩ := h
  exact ⟨by rw [setRow_size]; exact hz, below_setRow hB (by omega) _, setRow_heap _ _ _ _ _ _ hrow, (by rw [cell_setRow_other _ _ _ _ (by show w.heap.size ≠ w.heap.size + 1 + 1 + 1; omega)]; exact e0), (by rw [cell_setRow_other _ _ _ _ (by show w.heap.size ≠ w.heap.size + 1 + 1 + 1; omega)]; exact e1), (by rw [cell_setRow_other _ _ _ _ (by show w.heap.size ≠ w.heap.size + 1 + 1 + 1; omega)]; exact e2), (by rw [cell_setRow_other _ _ _ _ (by show w.heap.size ≠ w.heap.size + 1 + 1 + 1; omega)]; exact e3), (by rw [frozen_setRow_other _ _ _ _ (by show w.heap.size ≠ w.heap.size + 1 + 1 + 1; omega)]; exact g0), (by rw [frozen_setRow_other _ _ _ _ (by show w.heap.size ≠ w.heap.size + 1 + 1 + 1; omega)]; exact g1), (by rw [frozen_setRow_other _ _ _ _ (by show w.heap.size ≠ w.heap.size + 1 + 1 + 1; omega)]; exact g2), (by rw [frozen_setRow_other _ _ _ _ (by show w.heap.size ≠ w.heap.size + 1 + 1 + 1; omega)]; exact g3), (by rw [cell_setRow_other _ _ _ _ (by show w.heap.size + 1 + 1 ≠ w.heap.size + 1 + 1 + 1; omega)]; exact r0), (by rw [cell_setRow_other _ _ _ _ (by show w.heap.size + 1 + 1 ≠ w.heap.size + 1 + 1 + 1; omega)]; exact r1), (by rw [cell_setRow_other _ _ _ _ (by show w.heap.size + 1 + 1 ≠ w.heap.size + 1 + 1 + 1; omega)]; exact r2), (by rw [cell_setRow_other _ _ _ _ (by show w.heap.size + 1 + 1 ≠ w.heap.size + 1 + 1 + 1; omega)]; exact r3), (by rw [frozen_setRow_other _ _ _ _ (by show w.heap.size + 1 + 1 ≠ w.heap.size + 1 + 1 + 1; omega)]; exact k0), (by rw [frozen_setRow_other _ _ _ _ (by show w.heap.size + 1 + 1 ≠ w.heap.size + 1 + 1 + 1; omega)]; exact k1), (by rw [frozen_setRow_other _ _ _ _ (by show w.heap.size + 1 + 1 ≠ w.heap.size + 1 + 1 + 1; omega)]; exact k2), (by rw [frozen_setRow_other _ _ _ _ (by show w.heap.size + 1 + 1 ≠ w.heap.size + 1 + 1 + 1; omega)]; exact k3)⟩
end Go.Proofs.YteaaaojafipllaaDoor
