/-
  hashRest, walked.
-/
import Derived.Test.YteaaaojafipllaaDoorRows
import Derived.Test.YteaaaojafipllaaDoorJoinB6
import Derived.Test.YteaaaojafipllaaDoorJoinB7
import Derived.Deep.QuietTactic
import Derived.BigQuiet
import Derived.Deep.RegionWith
import Derived.Deep.RegionHeld3
import Derived.Deep.CutRange
import Derived.Deep.DeepCutAuto
import Derived.Deep.CutBlock
import Derived.Laws.Tables
import Derived.Test.YteaaaojafipllaaDoorWalks12
import Derived.Test.YteaaaojafipllaaDoorWalks11
namespace Go.Proofs.YteaaaojafipllaaDoor
open Go.RowKit

set_option maxRecDepth 20000 in
theorem info62' : (Tryd.prog.info? 129).map (·.size) = some 32 := by kernel_rfl
set_option maxRecDepth 20000 in
theorem run_slice_h62 (b r : Nat) (hr : r ≤ 32) (W : World) : (Instr.sliceAt 129 (.pointer (some ⟨b, 0, none⟩)) none (some (.int .i64 (r : Int))) none).run Tryd.prog W = .ok (.slice (some ⟨b, 0, none⟩) r 32) W := by
  have ha : Tryd.prog.arrayLen 129 = 32 := by kernel_rfl
  have hi : (Tryd.prog.info? (Tryd.prog.elem 129)).map (·.size) = some 1 := by kernel_rfl
  rw [run_sliceAt_array_h W 129 _ (by kernel_rfl) .i64 (r : Int) (by omega) (by rw [ha]; omega)]
  cases hq : Tryd.prog.info? (Tryd.prog.elem 129) with
  | none => simp [hq] at hi
  | some i =>
    have h1 : i.size = 1 := by simpa [hq] using hi
    simp [sizeOf, typeInfo, hq, slicedAt, ha, Result.andThen, Addr.add]

set_option maxRecDepth 20000 in
/-- The byte at a place. -/
def g32 (L : List UInt8) (i : Nat) : UInt8 := L.getD i 0
set_option maxRecDepth 20000 in
theorem g32_list (L : List UInt8) (h : L.length = 32) : [g32 L 0, g32 L 1, g32 L 2, g32 L 3, g32 L 4, g32 L 5, g32 L 6, g32 L 7, g32 L 8, g32 L 9, g32 L 10, g32 L 11, g32 L 12, g32 L 13, g32 L 14, g32 L 15, g32 L 16, g32 L 17, g32 L 18, g32 L 19, g32 L 20, g32 L 21, g32 L 22, g32 L 23, g32 L 24, g32 L 25, g32 L 26, g32 L 27, g32 L 28, g32 L 29, g32 L 30, g32 L 31] = L := by
  obtain ⟨x0, x1, x2, x3, x4, x5, x6, x7, x8, x9, x10, x11, x12, x13, x14, x15, x16, x17, x18, x19, x20, x21, x22, x23, x24, x25, x26, x27, x28, x29, x30, x31, rfl⟩ := list32 L h
  rfl
set_option maxRecDepth 20000 in
theorem cell_g32 (W : World) (g : Nat) (L : List UInt8) (hL : L.length = 32) (h : W.heap[g]? = some (.cells (bv L).toArray 129)) :
    ∀ i, i < 32 → W.cell? ⟨g, i, none⟩ = some (.int .u8 ((g32 L i).toNat : Int)) := fun i hi => by
  rw [cell_of_row W g i _ 129 (0, 0) h]
  have hi' : i < L.length := by omega
  simp [bv, g32, List.getD, List.getElem?_eq_getElem hi']
set_option maxRecDepth 20000 in
theorem dob_g (L : List UInt8) (h : L.length = 32) (w : World) :
    Calls Tryd.prog 63 #[.agg #[Value.int IntKind.u8 ((g32 L 0).toNat : Int), Value.int IntKind.u8 ((g32 L 1).toNat : Int), Value.int IntKind.u8 ((g32 L 2).toNat : Int), Value.int IntKind.u8 ((g32 L 3).toNat : Int), Value.int IntKind.u8 ((g32 L 4).toNat : Int), Value.int IntKind.u8 ((g32 L 5).toNat : Int), Value.int IntKind.u8 ((g32 L 6).toNat : Int), Value.int IntKind.u8 ((g32 L 7).toNat : Int), Value.int IntKind.u8 ((g32 L 8).toNat : Int), Value.int IntKind.u8 ((g32 L 9).toNat : Int), Value.int IntKind.u8 ((g32 L 10).toNat : Int), Value.int IntKind.u8 ((g32 L 11).toNat : Int), Value.int IntKind.u8 ((g32 L 12).toNat : Int), Value.int IntKind.u8 ((g32 L 13).toNat : Int), Value.int IntKind.u8 ((g32 L 14).toNat : Int), Value.int IntKind.u8 ((g32 L 15).toNat : Int), Value.int IntKind.u8 ((g32 L 16).toNat : Int), Value.int IntKind.u8 ((g32 L 17).toNat : Int), Value.int IntKind.u8 ((g32 L 18).toNat : Int), Value.int IntKind.u8 ((g32 L 19).toNat : Int), Value.int IntKind.u8 ((g32 L 20).toNat : Int), Value.int IntKind.u8 ((g32 L 21).toNat : Int), Value.int IntKind.u8 ((g32 L 22).toNat : Int), Value.int IntKind.u8 ((g32 L 23).toNat : Int), Value.int IntKind.u8 ((g32 L 24).toNat : Int), Value.int IntKind.u8 ((g32 L 25).toNat : Int), Value.int IntKind.u8 ((g32 L 26).toNat : Int), Value.int IntKind.u8 ((g32 L 27).toNat : Int), Value.int IntKind.u8 ((g32 L 28).toNat : Int), Value.int IntKind.u8 ((g32 L 29).toNat : Int), Value.int IntKind.u8 ((g32 L 30).toNat : Int), Value.int IntKind.u8 ((g32 L 31).toNat : Int)]] w fun e w' => e = .returned (.agg #[.int .u64 ((bd L).a.toNat : Int), .int .u64 ((bd L).b.toNat : Int), .int .u64 ((bd L).c.toNat : Int), .int .u64 ((bd L).d.toNat : Int)]) ∧ Below w.heap.size w w' := by
  have := dob_is (g32 L 0) (g32 L 1) (g32 L 2) (g32 L 3) (g32 L 4) (g32 L 5) (g32 L 6) (g32 L 7) (g32 L 8) (g32 L 9) (g32 L 10) (g32 L 11) (g32 L 12) (g32 L 13) (g32 L 14) (g32 L 15) (g32 L 16) (g32 L 17) (g32 L 18) (g32 L 19) (g32 L 20) (g32 L 21) (g32 L 22) (g32 L 23) (g32 L 24) (g32 L 25) (g32 L 26) (g32 L 27) (g32 L 28) (g32 L 29) (g32 L 30) (g32 L 31) w
  rw [g32_list L h] at this
  exact this
set_option maxRecDepth 20000 in
theorem getR (l : List UInt8) (r : Nat) (hl : l.length = 32) (hr : r < 32) : (bv (List.take r l ++ List.replicate (32 - r) 0))[r]? = some (Value.int IntKind.u8 0) := by
  have e : List.replicate (32 - r) (0 : UInt8) = 0 :: List.replicate (31 - r) 0 := by
    rw [← List.replicate_succ]; congr 1; omega
  have hm : min r l.length = r := by omega
  rw [e]
  simp only [bv, List.map_append, List.map_cons]
  rw [List.getElem?_append_right (by simp; omega)]
  simp [hm]
set_option maxRecDepth 20000 in
theorem setL1 (l : List UInt8) (r : Nat) (hl : l.length = 32) (hr : r < 32) :
    ((bv (List.take r l ++ List.replicate (32 - r) 0)).set r (Value.int IntKind.u8 128)) = bv (l.take r ++ ([128] ++ List.replicate (31 - r) 0)) := by
  have e : List.replicate (32 - r) (0 : UInt8) = 0 :: List.replicate (31 - r) 0 := by
    rw [← List.replicate_succ]; congr 1; omega
  have hlen : (List.take r l).length = r := by simp; omega
  rw [e]
  simp only [bv, List.map_append, List.map_cons]
  have hm : min r l.length = r := by omega
  rw [List.set_append_right _ _ (by simp; omega)]
  simp [hm]

set_option maxRecDepth 20000 in
/-- What copy does last in hashRest. -/
theorem copy56_1 (w wc : World) (L : List UInt8) (hL : L.length = 32) (kept : Nat) (hrow : wc.heap[w.heap.size + 1 + 1 + 1]? = some (.cells (bv L).toArray 129)) (hz : w.heap.size + 1 + 1 + 1 < wc.heap.size) (ty : TypeId) :
    (Builtin.copy_ #[76, 76] ty #[.slice (some ⟨w.heap.size + 1 + 1 + 1, 24, none⟩) 8 8, .slice (some ⟨wc.heap.size + 1 + 1, 0, none⟩) 8 8]).run Tryd.prog ((((wc.alloc (.cells #[Value.int IntKind.u8 ((by8 (UInt64.ofNat kept) 56).toNat : Int), Value.int IntKind.u8 ((by8 (UInt64.ofNat kept) 48).toNat : Int), Value.int IntKind.u8 ((by8 (UInt64.ofNat kept) 40).toNat : Int), Value.int IntKind.u8 ((by8 (UInt64.ofNat kept) 32).toNat : Int), Value.int IntKind.u8 ((by8 (UInt64.ofNat kept) 24).toNat : Int), Value.int IntKind.u8 ((by8 (UInt64.ofNat kept) 16).toNat : Int), Value.int IntKind.u8 ((by8 (UInt64.ofNat kept) 8).toNat : Int), Value.int IntKind.u8 ((by8 (UInt64.ofNat kept) 0).toNat : Int)] 125)).alloc (.cells #[Value.int IntKind.u8 ((by8 (UInt64.ofNat kept) 56).toNat : Int), Value.int IntKind.u8 ((by8 (UInt64.ofNat kept) 48).toNat : Int), Value.int IntKind.u8 ((by8 (UInt64.ofNat kept) 40).toNat : Int), Value.int IntKind.u8 ((by8 (UInt64.ofNat kept) 32).toNat : Int), Value.int IntKind.u8 ((by8 (UInt64.ofNat kept) 24).toNat : Int), Value.int IntKind.u8 ((by8 (UInt64.ofNat kept) 16).toNat : Int), Value.int IntKind.u8 ((by8 (UInt64.ofNat kept) 8).toNat : Int), Value.int IntKind.u8 ((by8 (UInt64.ofNat kept) 0).toNat : Int)] 125)).alloc (.cells #[Value.int IntKind.u8 ((by8 (UInt64.ofNat kept) 56).toNat : Int), Value.int IntKind.u8 ((by8 (UInt64.ofNat kept) 48).toNat : Int), Value.int IntKind.u8 ((by8 (UInt64.ofNat kept) 40).toNat : Int), Value.int IntKind.u8 ((by8 (UInt64.ofNat kept) 32).toNat : Int), Value.int IntKind.u8 ((by8 (UInt64.ofNat kept) 24).toNat : Int), Value.int IntKind.u8 ((by8 (UInt64.ofNat kept) 16).toNat : Int), Value.int IntKind.u8 ((by8 (UInt64.ofNat kept) 8).toNat : Int), Value.int IntKind.u8 ((by8 (UInt64.ofNat kept) 0).toNat : Int)] 125)).drew) = .ok (goInt 8) (((((wc.alloc (.cells #[Value.int IntKind.u8 ((by8 (UInt64.ofNat kept) 56).toNat : Int), Value.int IntKind.u8 ((by8 (UInt64.ofNat kept) 48).toNat : Int), Value.int IntKind.u8 ((by8 (UInt64.ofNat kept) 40).toNat : Int), Value.int IntKind.u8 ((by8 (UInt64.ofNat kept) 32).toNat : Int), Value.int IntKind.u8 ((by8 (UInt64.ofNat kept) 24).toNat : Int), Value.int IntKind.u8 ((by8 (UInt64.ofNat kept) 16).toNat : Int), Value.int IntKind.u8 ((by8 (UInt64.ofNat kept) 8).toNat : Int), Value.int IntKind.u8 ((by8 (UInt64.ofNat kept) 0).toNat : Int)] 125)).alloc (.cells #[Value.int IntKind.u8 ((by8 (UInt64.ofNat kept) 56).toNat : Int), Value.int IntKind.u8 ((by8 (UInt64.ofNat kept) 48).toNat : Int), Value.int IntKind.u8 ((by8 (UInt64.ofNat kept) 40).toNat : Int), Value.int IntKind.u8 ((by8 (UInt64.ofNat kept) 32).toNat : Int), Value.int IntKind.u8 ((by8 (UInt64.ofNat kept) 24).toNat : Int), Value.int IntKind.u8 ((by8 (UInt64.ofNat kept) 16).toNat : Int), Value.int IntKind.u8 ((by8 (UInt64.ofNat kept) 8).toNat : Int), Value.int IntKind.u8 ((by8 (UInt64.ofNat kept) 0).toNat : Int)] 125)).alloc (.cells #[Value.int IntKind.u8 ((by8 (UInt64.ofNat kept) 56).toNat : Int), Value.int IntKind.u8 ((by8 (UInt64.ofNat kept) 48).toNat : Int), Value.int IntKind.u8 ((by8 (UInt64.ofNat kept) 40).toNat : Int), Value.int IntKind.u8 ((by8 (UInt64.ofNat kept) 32).toNat : Int), Value.int IntKind.u8 ((by8 (UInt64.ofNat kept) 24).toNat : Int), Value.int IntKind.u8 ((by8 (UInt64.ofNat kept) 16).toNat : Int), Value.int IntKind.u8 ((by8 (UInt64.ofNat kept) 8).toNat : Int), Value.int IntKind.u8 ((by8 (UInt64.ofNat kept) 0).toNat : Int)] 125)).drew).setRow (w.heap.size + 1 + 1 + 1) (bv (L.take 24 ++ wb (UInt64.ofNat kept))).toArray) := by
  have hg : ((((wc.alloc (.cells #[Value.int IntKind.u8 ((by8 (UInt64.ofNat kept) 56).toNat : Int), Value.int IntKind.u8 ((by8 (UInt64.ofNat kept) 48).toNat : Int), Value.int IntKind.u8 ((by8 (UInt64.ofNat kept) 40).toNat : Int), Value.int IntKind.u8 ((by8 (UInt64.ofNat kept) 32).toNat : Int), Value.int IntKind.u8 ((by8 (UInt64.ofNat kept) 24).toNat : Int), Value.int IntKind.u8 ((by8 (UInt64.ofNat kept) 16).toNat : Int), Value.int IntKind.u8 ((by8 (UInt64.ofNat kept) 8).toNat : Int), Value.int IntKind.u8 ((by8 (UInt64.ofNat kept) 0).toNat : Int)] 125)).alloc (.cells #[Value.int IntKind.u8 ((by8 (UInt64.ofNat kept) 56).toNat : Int), Value.int IntKind.u8 ((by8 (UInt64.ofNat kept) 48).toNat : Int), Value.int IntKind.u8 ((by8 (UInt64.ofNat kept) 40).toNat : Int), Value.int IntKind.u8 ((by8 (UInt64.ofNat kept) 32).toNat : Int), Value.int IntKind.u8 ((by8 (UInt64.ofNat kept) 24).toNat : Int), Value.int IntKind.u8 ((by8 (UInt64.ofNat kept) 16).toNat : Int), Value.int IntKind.u8 ((by8 (UInt64.ofNat kept) 8).toNat : Int), Value.int IntKind.u8 ((by8 (UInt64.ofNat kept) 0).toNat : Int)] 125)).alloc (.cells #[Value.int IntKind.u8 ((by8 (UInt64.ofNat kept) 56).toNat : Int), Value.int IntKind.u8 ((by8 (UInt64.ofNat kept) 48).toNat : Int), Value.int IntKind.u8 ((by8 (UInt64.ofNat kept) 40).toNat : Int), Value.int IntKind.u8 ((by8 (UInt64.ofNat kept) 32).toNat : Int), Value.int IntKind.u8 ((by8 (UInt64.ofNat kept) 24).toNat : Int), Value.int IntKind.u8 ((by8 (UInt64.ofNat kept) 16).toNat : Int), Value.int IntKind.u8 ((by8 (UInt64.ofNat kept) 8).toNat : Int), Value.int IntKind.u8 ((by8 (UInt64.ofNat kept) 0).toNat : Int)] 125)).drew).heap[w.heap.size + 1 + 1 + 1]? = some (.cells (bv L).toArray 129) := by
    show (((wc.alloc _).alloc _).alloc _).heap[w.heap.size + 1 + 1 + 1]? = _
    rw [heap_alloc_old _ _ (by simp only [World.size_alloc]; omega), heap_alloc_old _ _ (by simp only [World.size_alloc]; omega), heap_alloc_old _ _ hz]; exact hrow
  have hlen : (bv (wb (UInt64.ofNat kept))).length = 8 := rfl
  have h := run_copy_row (P := Tryd.prog) ((((wc.alloc (.cells #[Value.int IntKind.u8 ((by8 (UInt64.ofNat kept) 56).toNat : Int), Value.int IntKind.u8 ((by8 (UInt64.ofNat kept) 48).toNat : Int), Value.int IntKind.u8 ((by8 (UInt64.ofNat kept) 40).toNat : Int), Value.int IntKind.u8 ((by8 (UInt64.ofNat kept) 32).toNat : Int), Value.int IntKind.u8 ((by8 (UInt64.ofNat kept) 24).toNat : Int), Value.int IntKind.u8 ((by8 (UInt64.ofNat kept) 16).toNat : Int), Value.int IntKind.u8 ((by8 (UInt64.ofNat kept) 8).toNat : Int), Value.int IntKind.u8 ((by8 (UInt64.ofNat kept) 0).toNat : Int)] 125)).alloc (.cells #[Value.int IntKind.u8 ((by8 (UInt64.ofNat kept) 56).toNat : Int), Value.int IntKind.u8 ((by8 (UInt64.ofNat kept) 48).toNat : Int), Value.int IntKind.u8 ((by8 (UInt64.ofNat kept) 40).toNat : Int), Value.int IntKind.u8 ((by8 (UInt64.ofNat kept) 32).toNat : Int), Value.int IntKind.u8 ((by8 (UInt64.ofNat kept) 24).toNat : Int), Value.int IntKind.u8 ((by8 (UInt64.ofNat kept) 16).toNat : Int), Value.int IntKind.u8 ((by8 (UInt64.ofNat kept) 8).toNat : Int), Value.int IntKind.u8 ((by8 (UInt64.ofNat kept) 0).toNat : Int)] 125)).alloc (.cells #[Value.int IntKind.u8 ((by8 (UInt64.ofNat kept) 56).toNat : Int), Value.int IntKind.u8 ((by8 (UInt64.ofNat kept) 48).toNat : Int), Value.int IntKind.u8 ((by8 (UInt64.ofNat kept) 40).toNat : Int), Value.int IntKind.u8 ((by8 (UInt64.ofNat kept) 32).toNat : Int), Value.int IntKind.u8 ((by8 (UInt64.ofNat kept) 24).toNat : Int), Value.int IntKind.u8 ((by8 (UInt64.ofNat kept) 16).toNat : Int), Value.int IntKind.u8 ((by8 (UInt64.ofNat kept) 8).toNat : Int), Value.int IntKind.u8 ((by8 (UInt64.ofNat kept) 0).toNat : Int)] 125)).drew) 76 76 ty 5 (w.heap.size + 1 + 1 + 1) 24 8 8 ⟨wc.heap.size + 1 + 1, 0, none⟩ 8 8 (bv L).toArray 129 (bv (wb (UInt64.ofNat kept))) Tryd.underlying76 (by kernel_rfl) hg rfl
    (fun j v hv => by
      rw [Addr.add_mid]
      have hg2 : (((wc.alloc (.cells #[Value.int IntKind.u8 ((by8 (UInt64.ofNat kept) 56).toNat : Int), Value.int IntKind.u8 ((by8 (UInt64.ofNat kept) 48).toNat : Int), Value.int IntKind.u8 ((by8 (UInt64.ofNat kept) 40).toNat : Int), Value.int IntKind.u8 ((by8 (UInt64.ofNat kept) 32).toNat : Int), Value.int IntKind.u8 ((by8 (UInt64.ofNat kept) 24).toNat : Int), Value.int IntKind.u8 ((by8 (UInt64.ofNat kept) 16).toNat : Int), Value.int IntKind.u8 ((by8 (UInt64.ofNat kept) 8).toNat : Int), Value.int IntKind.u8 ((by8 (UInt64.ofNat kept) 0).toNat : Int)] 125)).alloc (.cells #[Value.int IntKind.u8 ((by8 (UInt64.ofNat kept) 56).toNat : Int), Value.int IntKind.u8 ((by8 (UInt64.ofNat kept) 48).toNat : Int), Value.int IntKind.u8 ((by8 (UInt64.ofNat kept) 40).toNat : Int), Value.int IntKind.u8 ((by8 (UInt64.ofNat kept) 32).toNat : Int), Value.int IntKind.u8 ((by8 (UInt64.ofNat kept) 24).toNat : Int), Value.int IntKind.u8 ((by8 (UInt64.ofNat kept) 16).toNat : Int), Value.int IntKind.u8 ((by8 (UInt64.ofNat kept) 8).toNat : Int), Value.int IntKind.u8 ((by8 (UInt64.ofNat kept) 0).toNat : Int)] 125)).alloc (.cells #[Value.int IntKind.u8 ((by8 (UInt64.ofNat kept) 56).toNat : Int), Value.int IntKind.u8 ((by8 (UInt64.ofNat kept) 48).toNat : Int), Value.int IntKind.u8 ((by8 (UInt64.ofNat kept) 40).toNat : Int), Value.int IntKind.u8 ((by8 (UInt64.ofNat kept) 32).toNat : Int), Value.int IntKind.u8 ((by8 (UInt64.ofNat kept) 24).toNat : Int), Value.int IntKind.u8 ((by8 (UInt64.ofNat kept) 16).toNat : Int), Value.int IntKind.u8 ((by8 (UInt64.ofNat kept) 8).toNat : Int), Value.int IntKind.u8 ((by8 (UInt64.ofNat kept) 0).toNat : Int)] 125)).drew.heap[wc.heap.size + 1 + 1]? = some (.cells (bv (wb (UInt64.ofNat kept))).toArray 125) := heap_new2 ((wc.alloc (.cells #[Value.int IntKind.u8 ((by8 (UInt64.ofNat kept) 56).toNat : Int), Value.int IntKind.u8 ((by8 (UInt64.ofNat kept) 48).toNat : Int), Value.int IntKind.u8 ((by8 (UInt64.ofNat kept) 40).toNat : Int), Value.int IntKind.u8 ((by8 (UInt64.ofNat kept) 32).toNat : Int), Value.int IntKind.u8 ((by8 (UInt64.ofNat kept) 24).toNat : Int), Value.int IntKind.u8 ((by8 (UInt64.ofNat kept) 16).toNat : Int), Value.int IntKind.u8 ((by8 (UInt64.ofNat kept) 8).toNat : Int), Value.int IntKind.u8 ((by8 (UInt64.ofNat kept) 0).toNat : Int)] 125)).alloc (.cells #[Value.int IntKind.u8 ((by8 (UInt64.ofNat kept) 56).toNat : Int), Value.int IntKind.u8 ((by8 (UInt64.ofNat kept) 48).toNat : Int), Value.int IntKind.u8 ((by8 (UInt64.ofNat kept) 40).toNat : Int), Value.int IntKind.u8 ((by8 (UInt64.ofNat kept) 32).toNat : Int), Value.int IntKind.u8 ((by8 (UInt64.ofNat kept) 24).toNat : Int), Value.int IntKind.u8 ((by8 (UInt64.ofNat kept) 16).toNat : Int), Value.int IntKind.u8 ((by8 (UInt64.ofNat kept) 8).toNat : Int), Value.int IntKind.u8 ((by8 (UInt64.ofNat kept) 0).toNat : Int)] 125)) _ _ (by simp only [World.size_alloc])
      rw [cell_of_row _ _ _ _ 125 (0, 0) hg2]
      simpa using hv)
    (by simp [bv_length, hL, wb_len]) (fun v hv => by
      simp [bv] at hv
      obtain ⟨x, _, rfl⟩ := hv
      rfl)
  rw [h]
  have e : (List.take 24 (bv L).toArray.toList ++ bv (wb (UInt64.ofNat kept)) ++ List.drop (24 + (bv (wb (UInt64.ofNat kept))).length) (bv L).toArray.toList) = bv (L.take 24 ++ wb (UInt64.ofNat kept)) := by
    rw [hlen, List.drop_of_length_le (by simp [bv_length, hL])]
    simp [bv, List.map_take]
  rw [e]
  rfl

set_option maxRecDepth 20000 in
theorem bow_nat (m : Nat) (w : World) (_h1 : m < 18446744073709551616) :
    Calls Tryd.prog 58 #[.int .u64 (m : Int)] w fun e w' => e = .returned (.agg #[Value.int IntKind.u8 ((by8 (UInt64.ofNat m) 56).toNat : Int), Value.int IntKind.u8 ((by8 (UInt64.ofNat m) 48).toNat : Int), Value.int IntKind.u8 ((by8 (UInt64.ofNat m) 40).toNat : Int), Value.int IntKind.u8 ((by8 (UInt64.ofNat m) 32).toNat : Int), Value.int IntKind.u8 ((by8 (UInt64.ofNat m) 24).toNat : Int), Value.int IntKind.u8 ((by8 (UInt64.ofNat m) 16).toNat : Int), Value.int IntKind.u8 ((by8 (UInt64.ofNat m) 8).toNat : Int), Value.int IntKind.u8 ((by8 (UInt64.ofNat m) 0).toNat : Int)]) ∧ w' = (w.alloc (.cells #[Value.int IntKind.u8 ((by8 (UInt64.ofNat m) 56).toNat : Int), Value.int IntKind.u8 ((by8 (UInt64.ofNat m) 48).toNat : Int), Value.int IntKind.u8 ((by8 (UInt64.ofNat m) 40).toNat : Int), Value.int IntKind.u8 ((by8 (UInt64.ofNat m) 32).toNat : Int), Value.int IntKind.u8 ((by8 (UInt64.ofNat m) 24).toNat : Int), Value.int IntKind.u8 ((by8 (UInt64.ofNat m) 16).toNat : Int), Value.int IntKind.u8 ((by8 (UInt64.ofNat m) 8).toNat : Int), Value.int IntKind.u8 ((by8 (UInt64.ofNat m) 0).toNat : Int)] 125)).alloc (.cells #[Value.int IntKind.u8 ((by8 (UInt64.ofNat m) 56).toNat : Int), Value.int IntKind.u8 ((by8 (UInt64.ofNat m) 48).toNat : Int), Value.int IntKind.u8 ((by8 (UInt64.ofNat m) 40).toNat : Int), Value.int IntKind.u8 ((by8 (UInt64.ofNat m) 32).toNat : Int), Value.int IntKind.u8 ((by8 (UInt64.ofNat m) 24).toNat : Int), Value.int IntKind.u8 ((by8 (UInt64.ofNat m) 16).toNat : Int), Value.int IntKind.u8 ((by8 (UInt64.ofNat m) 8).toNat : Int), Value.int IntKind.u8 ((by8 (UInt64.ofNat m) 0).toNat : Int)] 125) := by
  have e : (m : Int) = ((UInt64.ofNat m).toNat : Int) := by rw [UInt64.toNat_ofNat']; omega
  have h := bow_is (UInt64.ofNat m) w
  rw [← e] at h
  exact h

set_option maxRecDepth 20000 in
theorem RestRel.start (w : World) (s : Qd) (l L : List UInt8) : RestRel w s L (((((w.alloc (.cells #[Value.int IntKind.u64 ((s).a.toNat : Int), Value.int IntKind.u64 ((s).b.toNat : Int), Value.int IntKind.u64 ((s).c.toNat : Int), Value.int IntKind.u64 ((s).d.toNat : Int)] 34)).alloc (.cells (bv l).toArray 129)).alloc (.cells #[Value.int IntKind.u64 0, Value.int IntKind.u64 0, Value.int IntKind.u64 0, Value.int IntKind.u64 0] 34)).alloc (.cells (bv L).toArray 129)).drew) :=
  ⟨by simp, (by repeat' (first | (with_reducible exact Below.refl _ _) | (with_reducible assumption) | (with_reducible refine below_drewN ?_ _) | (with_reducible refine Below.setCell ?_ ?_ _) | (with_reducible refine Below.alloc ?_ ?_ _) | (with_reducible refine Below.drew ?_) | go_size)), heap_new2 _ _ _ (by simp only [World.size_alloc]), by simp [go_sem], by simp [go_sem], by simp [go_sem], by simp [go_sem], by simp [go_sem], by simp [go_sem], by simp [go_sem], by simp [go_sem], by simp [go_sem], by simp [go_sem], by simp [go_sem], by simp [go_sem], by simp [go_sem], by simp [go_sem], by simp [go_sem], by simp [go_sem]⟩

set_option maxRecDepth 20000 in
set_option maxHeartbeats 4000000 in
theorem rest_core (s sv : Qd) (l L L1 : List UInt8) (hl : l.length = 32) (kept r : Nat) (hk : kept ≤ 100000) (hr : r = kept % 32) (hL1 : L1 = l.take r ++ ([128] ++ List.replicate (31 - r) 0)) (hL : L.length = 32) (w : World)
    (hcase : (r ≤ 23 ∧ sv = s ∧ L = L1) ∨ (24 ≤ r ∧ sv = HB s (bd L1) ∧ L = List.replicate 32 0)) :
    Calls Tryd.prog 64 #[.agg #[.int .u64 ((s).a.toNat : Int), .int .u64 ((s).b.toNat : Int), .int .u64 ((s).c.toNat : Int), .int .u64 ((s).d.toNat : Int)], .agg (bv l).toArray, .int .i64 (kept : Int)] w fun e w' => e = .returned (.agg #[.int .u64 ((HB sv (bd (L.take 24 ++ wb (UInt64.ofNat kept)))).a.toNat : Int), .int .u64 ((HB sv (bd (L.take 24 ++ wb (UInt64.ofNat kept)))).b.toNat : Int), .int .u64 ((HB sv (bd (L.take 24 ++ wb (UInt64.ofNat kept)))).c.toNat : Int), .int .u64 ((HB sv (bd (L.take 24 ++ wb (UInt64.ofNat kept)))).d.toNat : Int)]) ∧ Below w.heap.size w w' := by
  have hc0 := copy56_0 s l hl r (by omega) w
  have hrI : (kept : Int) % 32 = (r : Int) := by omega
  have hrT : (kept : Int).tmod 32 = (r : Int) := by rw [Int.tmod_eq_emod_of_nonneg (by omega)]; exact hrI
  have hr0 : (0 : Int) ≤ (r : Int) := by omega
  have hr32 : (r : Int) < 32 := by omega
  have hsl := fun W : World => run_slice_h62 (w.heap.size + 1) r (by omega) W
  have hgr := getR l r hl (by omega)
  have HRK : Hid (r = kept % 32) := hr
  have HL : Hid (L.length = 32) := hL
  have hL1' : L1.length = 32 := by rw [hL1]; simp; omega
  have HLL : Hid (L1.length = 32) := hL1'
  have HS1 : Hid (((bv (List.take r l ++ List.replicate (32 - r) 0)).set r (Value.int IntKind.u8 128)) = bv L1) := by
    show _ = _
    rw [hL1]; exact setL1 l r hl (by omega)
  have HC : Hid ((r ≤ 23 ∧ sv = s ∧ L = L1) ∨ (24 ≤ r ∧ sv = HB s (bd L1) ∧ L = List.replicate 32 0)) := hcase
  clear hl hr hL hL1 hcase hL1'
  go_enter Tryd.func64, Tryd.ntmps64
  go_wp2_with fail
  go_region
  go_upto_region 3 with fail
  go_cut [] (fun wx => RestRel w s L1 wx)
  case first =>
    go_wp2_with fail
    go_meet
    rw [HS1.out]
    exact RestRel.start w s l L1
  case rest =>
    clear hc0 hsl hrI hrT HS1 hgr
    have HR : Hid (RestRel w s L1 wc) := hcut
    obtain ⟨hz, hB, hrow, e0, e1, e2, e3, g0, g1, g2, g3, r0, r1, r2, r3, k0, k1, k2, k3⟩ := hcut
    clear hB
    go_upto_if 19 with fail
    go_cut [] (fun wx => RestRel w sv L wx)
    case first =>
      rcases HC.out with ⟨h23, rfl, rfl⟩ | ⟨h24, rfl, rfl⟩
      · have ht : ¬ (24 : Int) < (r : Int) + 1 := by omega
        have ht' : decide ((24 : Int) < (r : Int) + 1) = false := by simp; omega
        go_wp2_with fail
        go_meet
        exact HR.out
      · have ht : (24 : Int) < (r : Int) + 1 := by omega
        have ht' : decide ((24 : Int) < (r : Int) + 1) = true := by simp; omega
        have ROW : Hid (wc.drew.heap[w.heap.size + 1 + 1 + 1]? = some (.cells (bv L1).toArray 129)) := hrow
        have HI62 : Hid ((Tryd.prog.info? 129).map (·.size) = some (bv L1).toArray.size) := info62'.trans (congrArg some (by simp [bv_length, HLL.out]))
        go_wp2_with fail
        clear hz hrow g0 g1 g2 g3 r0 r1 r2 r3 k0 k1 k2 k3
        refine wp_region_any (by kernel_rfl) ?_
        change wpAny _ _ _ _ _ _ _ (World.drew _)
        refine wpAny_ready (rs := [0, 1]) (by kernel_rfl) (by simp) ?_
        refine AllReady.cons rfl (fun K hK => ?_) (AllReady.cons rfl (fun K hK => ?_) AllReady.nil)
        · go_simp
          refine hK _ _ ?_
          clear hK K
          refine wpAny_ready (rs := [1]) (by kernel_rfl) (by simp) ?_
          refine AllReady.cons rfl (fun K hK => ?_) AllReady.nil
          rw [if_pos (by rfl)]
          refine wp_load_row 129 _ rfl (w.heap.size + 1 + 1 + 1) rfl 129 (bv L1).toArray _ _ ROW.out Tryd.underlying129 rfl HI62.out ?_
          simp only [Act.put, List.setIfInBounds_toArray]
          refine hK _ _ ?_
          clear hK K
          refine wpAny_ready (rs := [2]) (by kernel_rfl) (by simp) ?_
          refine AllReady.cons rfl (fun K hK => ?_) AllReady.nil
          go_simp
          go_wp2_with (go_at_call 63; refine (dob_any L1 HLL.out _).mono ?_; rintro e wN ⟨rfl, hbN⟩; have HRN : Hid (RestRel w s L1 wN) := RestRel.call (RestRel.drew HR.out) hbN; obtain ⟨_, _, _, e0N, e1N, e2N, e3N, _, _, _, _, _, _, _, _, _, _, _, _⟩ := HRN.out; clear hbN)
          refine wpAny_ready (rs := [3]) (by kernel_rfl) (by simp) ?_
          refine AllReady.cons rfl (fun K hK => ?_) AllReady.nil
          go_simp
          go_wp2_with (go_at_call 62; refine (hb_impl s (bd L1) _).mono ?_; rintro e wM ⟨rfl, hbM⟩; have HRM : Hid (RestRel w s L1 wM) := RestRel.call HRN.out hbM; obtain ⟨_, _, _, e0M, e1M, e2M, e3M, g0M, g1M, g2M, g3M, _, _, _, _, _, _, _, _⟩ := HRM.out; clear hbM)
          refine wpAny_ready (rs := [4]) (by kernel_rfl) (by simp) ?_
          refine AllReady.cons rfl (fun K hK => ?_) AllReady.nil
          go_simp
          refine hK _ _ ?_
          clear hK K
          refine wpAny_done (by kernel_rfl) ?_ _
          have HRS : Hid (RestRel w (HB s (bd L1)) L1 ((((wM.setCell ⟨w.heap.size, 0, none⟩ (Value.int IntKind.u64 (((HB s (bd L1)).a).toNat : Int))).setCell ⟨w.heap.size, 1, none⟩ (Value.int IntKind.u64 (((HB s (bd L1)).b).toNat : Int))).setCell ⟨w.heap.size, 2, none⟩ (Value.int IntKind.u64 (((HB s (bd L1)).c).toNat : Int))).setCell ⟨w.heap.size, 3, none⟩ (Value.int IntKind.u64 (((HB s (bd L1)).d).toNat : Int)))) := RestRel.state HRM.out
          have HI : Hid ((Tryd.prog.info? 129).map (·.size) = some (#[Value.int IntKind.u8 0, Value.int IntKind.u8 0, Value.int IntKind.u8 0, Value.int IntKind.u8 0, Value.int IntKind.u8 0, Value.int IntKind.u8 0, Value.int IntKind.u8 0, Value.int IntKind.u8 0, Value.int IntKind.u8 0, Value.int IntKind.u8 0, Value.int IntKind.u8 0, Value.int IntKind.u8 0, Value.int IntKind.u8 0, Value.int IntKind.u8 0, Value.int IntKind.u8 0, Value.int IntKind.u8 0, Value.int IntKind.u8 0, Value.int IntKind.u8 0, Value.int IntKind.u8 0, Value.int IntKind.u8 0, Value.int IntKind.u8 0, Value.int IntKind.u8 0, Value.int IntKind.u8 0, Value.int IntKind.u8 0, Value.int IntKind.u8 0, Value.int IntKind.u8 0, Value.int IntKind.u8 0, Value.int IntKind.u8 0, Value.int IntKind.u8 0, Value.int IntKind.u8 0, Value.int IntKind.u8 0, Value.int IntKind.u8 0] : Array Value).size) := info62'
          have HZ : Hid ((bv L1).toArray.size = (#[Value.int IntKind.u8 0, Value.int IntKind.u8 0, Value.int IntKind.u8 0, Value.int IntKind.u8 0, Value.int IntKind.u8 0, Value.int IntKind.u8 0, Value.int IntKind.u8 0, Value.int IntKind.u8 0, Value.int IntKind.u8 0, Value.int IntKind.u8 0, Value.int IntKind.u8 0, Value.int IntKind.u8 0, Value.int IntKind.u8 0, Value.int IntKind.u8 0, Value.int IntKind.u8 0, Value.int IntKind.u8 0, Value.int IntKind.u8 0, Value.int IntKind.u8 0, Value.int IntKind.u8 0, Value.int IntKind.u8 0, Value.int IntKind.u8 0, Value.int IntKind.u8 0, Value.int IntKind.u8 0, Value.int IntKind.u8 0, Value.int IntKind.u8 0, Value.int IntKind.u8 0, Value.int IntKind.u8 0, Value.int IntKind.u8 0, Value.int IntKind.u8 0, Value.int IntKind.u8 0, Value.int IntKind.u8 0, Value.int IntKind.u8 0] : Array Value).size) := (by simp [bv_length, HLL.out] : (bv L1).toArray.size = 32)
          have HO : Hid ((#[Value.int IntKind.u8 0, Value.int IntKind.u8 0, Value.int IntKind.u8 0, Value.int IntKind.u8 0, Value.int IntKind.u8 0, Value.int IntKind.u8 0, Value.int IntKind.u8 0, Value.int IntKind.u8 0, Value.int IntKind.u8 0, Value.int IntKind.u8 0, Value.int IntKind.u8 0, Value.int IntKind.u8 0, Value.int IntKind.u8 0, Value.int IntKind.u8 0, Value.int IntKind.u8 0, Value.int IntKind.u8 0, Value.int IntKind.u8 0, Value.int IntKind.u8 0, Value.int IntKind.u8 0, Value.int IntKind.u8 0, Value.int IntKind.u8 0, Value.int IntKind.u8 0, Value.int IntKind.u8 0, Value.int IntKind.u8 0, Value.int IntKind.u8 0, Value.int IntKind.u8 0, Value.int IntKind.u8 0, Value.int IntKind.u8 0, Value.int IntKind.u8 0, Value.int IntKind.u8 0, Value.int IntKind.u8 0, Value.int IntKind.u8 0] : Array Value).all (·.oneCell') = true) := (by simp [Value.oneCell'] : (#[Value.int IntKind.u8 0, Value.int IntKind.u8 0, Value.int IntKind.u8 0, Value.int IntKind.u8 0, Value.int IntKind.u8 0, Value.int IntKind.u8 0, Value.int IntKind.u8 0, Value.int IntKind.u8 0, Value.int IntKind.u8 0, Value.int IntKind.u8 0, Value.int IntKind.u8 0, Value.int IntKind.u8 0, Value.int IntKind.u8 0, Value.int IntKind.u8 0, Value.int IntKind.u8 0, Value.int IntKind.u8 0, Value.int IntKind.u8 0, Value.int IntKind.u8 0, Value.int IntKind.u8 0, Value.int IntKind.u8 0, Value.int IntKind.u8 0, Value.int IntKind.u8 0, Value.int IntKind.u8 0, Value.int IntKind.u8 0, Value.int IntKind.u8 0, Value.int IntKind.u8 0, Value.int IntKind.u8 0, Value.int IntKind.u8 0, Value.int IntKind.u8 0, Value.int IntKind.u8 0, Value.int IntKind.u8 0, Value.int IntKind.u8 0] : Array Value).all (·.oneCell') = true)
          clear e0 e1 e2 e3 e0M e1M e2M e3M g0M g1M g2M g3M
          go_wp2_with (refine wpList_store_row rfl 129 _ _ rfl (w.heap.size + 1 + 1 + 1) #[Value.int IntKind.u8 0, Value.int IntKind.u8 0, Value.int IntKind.u8 0, Value.int IntKind.u8 0, Value.int IntKind.u8 0, Value.int IntKind.u8 0, Value.int IntKind.u8 0, Value.int IntKind.u8 0, Value.int IntKind.u8 0, Value.int IntKind.u8 0, Value.int IntKind.u8 0, Value.int IntKind.u8 0, Value.int IntKind.u8 0, Value.int IntKind.u8 0, Value.int IntKind.u8 0, Value.int IntKind.u8 0, Value.int IntKind.u8 0, Value.int IntKind.u8 0, Value.int IntKind.u8 0, Value.int IntKind.u8 0, Value.int IntKind.u8 0, Value.int IntKind.u8 0, Value.int IntKind.u8 0, Value.int IntKind.u8 0, Value.int IntKind.u8 0, Value.int IntKind.u8 0, Value.int IntKind.u8 0, Value.int IntKind.u8 0, Value.int IntKind.u8 0, Value.int IntKind.u8 0, Value.int IntKind.u8 0, Value.int IntKind.u8 0] rfl rfl 129 _ HRS.out.2.2.1 HI.out HZ.out HO.out ?_)
          go_meet
          exact RestRel.row HRS.out
        · rw [if_pos (by rfl)]
          refine wp_load_row 129 _ rfl (w.heap.size + 1 + 1 + 1) rfl 129 (bv L1).toArray _ _ ROW.out Tryd.underlying129 rfl HI62.out ?_
          simp only [Act.put, List.setIfInBounds_toArray]
          refine hK _ _ ?_
          clear hK K
          refine wpAny_ready (rs := [0, 2]) (by kernel_rfl) (by simp) ?_
          refine AllReady.cons rfl (fun K hK => ?_) (AllReady.cons rfl (fun K hK => ?_) AllReady.nil)
          · go_simp
            refine hK _ _ ?_
            clear hK K
            refine wpAny_ready (rs := [2]) (by kernel_rfl) (by simp) ?_
            refine AllReady.cons rfl (fun K hK => ?_) AllReady.nil
            go_simp
            go_wp2_with (go_at_call 63; refine (dob_any L1 HLL.out _).mono ?_; rintro e wN ⟨rfl, hbN⟩; have HRN : Hid (RestRel w s L1 wN) := RestRel.call (RestRel.drew HR.out) hbN; obtain ⟨_, _, _, e0N, e1N, e2N, e3N, _, _, _, _, _, _, _, _, _, _, _, _⟩ := HRN.out; clear hbN)
            refine wpAny_ready (rs := [3]) (by kernel_rfl) (by simp) ?_
            refine AllReady.cons rfl (fun K hK => ?_) AllReady.nil
            go_simp
            go_wp2_with (go_at_call 62; refine (hb_impl s (bd L1) _).mono ?_; rintro e wM ⟨rfl, hbM⟩; have HRM : Hid (RestRel w s L1 wM) := RestRel.call HRN.out hbM; obtain ⟨_, _, _, e0M, e1M, e2M, e3M, g0M, g1M, g2M, g3M, _, _, _, _, _, _, _, _⟩ := HRM.out; clear hbM)
            refine wpAny_ready (rs := [4]) (by kernel_rfl) (by simp) ?_
            refine AllReady.cons rfl (fun K hK => ?_) AllReady.nil
            go_simp
            refine hK _ _ ?_
            clear hK K
            refine wpAny_done (by kernel_rfl) ?_ _
            have HRS : Hid (RestRel w (HB s (bd L1)) L1 ((((wM.setCell ⟨w.heap.size, 0, none⟩ (Value.int IntKind.u64 (((HB s (bd L1)).a).toNat : Int))).setCell ⟨w.heap.size, 1, none⟩ (Value.int IntKind.u64 (((HB s (bd L1)).b).toNat : Int))).setCell ⟨w.heap.size, 2, none⟩ (Value.int IntKind.u64 (((HB s (bd L1)).c).toNat : Int))).setCell ⟨w.heap.size, 3, none⟩ (Value.int IntKind.u64 (((HB s (bd L1)).d).toNat : Int)))) := RestRel.state HRM.out
            have HI : Hid ((Tryd.prog.info? 129).map (·.size) = some (#[Value.int IntKind.u8 0, Value.int IntKind.u8 0, Value.int IntKind.u8 0, Value.int IntKind.u8 0, Value.int IntKind.u8 0, Value.int IntKind.u8 0, Value.int IntKind.u8 0, Value.int IntKind.u8 0, Value.int IntKind.u8 0, Value.int IntKind.u8 0, Value.int IntKind.u8 0, Value.int IntKind.u8 0, Value.int IntKind.u8 0, Value.int IntKind.u8 0, Value.int IntKind.u8 0, Value.int IntKind.u8 0, Value.int IntKind.u8 0, Value.int IntKind.u8 0, Value.int IntKind.u8 0, Value.int IntKind.u8 0, Value.int IntKind.u8 0, Value.int IntKind.u8 0, Value.int IntKind.u8 0, Value.int IntKind.u8 0, Value.int IntKind.u8 0, Value.int IntKind.u8 0, Value.int IntKind.u8 0, Value.int IntKind.u8 0, Value.int IntKind.u8 0, Value.int IntKind.u8 0, Value.int IntKind.u8 0, Value.int IntKind.u8 0] : Array Value).size) := info62'
            have HZ : Hid ((bv L1).toArray.size = (#[Value.int IntKind.u8 0, Value.int IntKind.u8 0, Value.int IntKind.u8 0, Value.int IntKind.u8 0, Value.int IntKind.u8 0, Value.int IntKind.u8 0, Value.int IntKind.u8 0, Value.int IntKind.u8 0, Value.int IntKind.u8 0, Value.int IntKind.u8 0, Value.int IntKind.u8 0, Value.int IntKind.u8 0, Value.int IntKind.u8 0, Value.int IntKind.u8 0, Value.int IntKind.u8 0, Value.int IntKind.u8 0, Value.int IntKind.u8 0, Value.int IntKind.u8 0, Value.int IntKind.u8 0, Value.int IntKind.u8 0, Value.int IntKind.u8 0, Value.int IntKind.u8 0, Value.int IntKind.u8 0, Value.int IntKind.u8 0, Value.int IntKind.u8 0, Value.int IntKind.u8 0, Value.int IntKind.u8 0, Value.int IntKind.u8 0, Value.int IntKind.u8 0, Value.int IntKind.u8 0, Value.int IntKind.u8 0, Value.int IntKind.u8 0] : Array Value).size) := (by simp [bv_length, HLL.out] : (bv L1).toArray.size = 32)
            have HO : Hid ((#[Value.int IntKind.u8 0, Value.int IntKind.u8 0, Value.int IntKind.u8 0, Value.int IntKind.u8 0, Value.int IntKind.u8 0, Value.int IntKind.u8 0, Value.int IntKind.u8 0, Value.int IntKind.u8 0, Value.int IntKind.u8 0, Value.int IntKind.u8 0, Value.int IntKind.u8 0, Value.int IntKind.u8 0, Value.int IntKind.u8 0, Value.int IntKind.u8 0, Value.int IntKind.u8 0, Value.int IntKind.u8 0, Value.int IntKind.u8 0, Value.int IntKind.u8 0, Value.int IntKind.u8 0, Value.int IntKind.u8 0, Value.int IntKind.u8 0, Value.int IntKind.u8 0, Value.int IntKind.u8 0, Value.int IntKind.u8 0, Value.int IntKind.u8 0, Value.int IntKind.u8 0, Value.int IntKind.u8 0, Value.int IntKind.u8 0, Value.int IntKind.u8 0, Value.int IntKind.u8 0, Value.int IntKind.u8 0, Value.int IntKind.u8 0] : Array Value).all (·.oneCell') = true) := (by simp [Value.oneCell'] : (#[Value.int IntKind.u8 0, Value.int IntKind.u8 0, Value.int IntKind.u8 0, Value.int IntKind.u8 0, Value.int IntKind.u8 0, Value.int IntKind.u8 0, Value.int IntKind.u8 0, Value.int IntKind.u8 0, Value.int IntKind.u8 0, Value.int IntKind.u8 0, Value.int IntKind.u8 0, Value.int IntKind.u8 0, Value.int IntKind.u8 0, Value.int IntKind.u8 0, Value.int IntKind.u8 0, Value.int IntKind.u8 0, Value.int IntKind.u8 0, Value.int IntKind.u8 0, Value.int IntKind.u8 0, Value.int IntKind.u8 0, Value.int IntKind.u8 0, Value.int IntKind.u8 0, Value.int IntKind.u8 0, Value.int IntKind.u8 0, Value.int IntKind.u8 0, Value.int IntKind.u8 0, Value.int IntKind.u8 0, Value.int IntKind.u8 0, Value.int IntKind.u8 0, Value.int IntKind.u8 0, Value.int IntKind.u8 0, Value.int IntKind.u8 0] : Array Value).all (·.oneCell') = true)
            clear e0 e1 e2 e3 e0M e1M e2M e3M g0M g1M g2M g3M
            go_wp2_with (refine wpList_store_row rfl 129 _ _ rfl (w.heap.size + 1 + 1 + 1) #[Value.int IntKind.u8 0, Value.int IntKind.u8 0, Value.int IntKind.u8 0, Value.int IntKind.u8 0, Value.int IntKind.u8 0, Value.int IntKind.u8 0, Value.int IntKind.u8 0, Value.int IntKind.u8 0, Value.int IntKind.u8 0, Value.int IntKind.u8 0, Value.int IntKind.u8 0, Value.int IntKind.u8 0, Value.int IntKind.u8 0, Value.int IntKind.u8 0, Value.int IntKind.u8 0, Value.int IntKind.u8 0, Value.int IntKind.u8 0, Value.int IntKind.u8 0, Value.int IntKind.u8 0, Value.int IntKind.u8 0, Value.int IntKind.u8 0, Value.int IntKind.u8 0, Value.int IntKind.u8 0, Value.int IntKind.u8 0, Value.int IntKind.u8 0, Value.int IntKind.u8 0, Value.int IntKind.u8 0, Value.int IntKind.u8 0, Value.int IntKind.u8 0, Value.int IntKind.u8 0, Value.int IntKind.u8 0, Value.int IntKind.u8 0] rfl rfl 129 _ HRS.out.2.2.1 HI.out HZ.out HO.out ?_)
            go_meet
            exact RestRel.row HRS.out
          · go_simp
            go_wp2_with (go_at_call 63; refine (dob_any L1 HLL.out _).mono ?_; rintro e wN ⟨rfl, hbN⟩; have HRN : Hid (RestRel w s L1 wN) := RestRel.call (RestRel.drew HR.out) hbN; obtain ⟨_, _, _, e0N, e1N, e2N, e3N, _, _, _, _, _, _, _, _, _, _, _, _⟩ := HRN.out; clear hbN)
            refine wpAny_ready (rs := [0]) (by kernel_rfl) (by simp) ?_
            refine AllReady.cons rfl (fun K hK => ?_) AllReady.nil
            go_simp
            refine hK _ _ ?_
            clear hK K
            refine wpAny_ready (rs := [3]) (by kernel_rfl) (by simp) ?_
            refine AllReady.cons rfl (fun K hK => ?_) AllReady.nil
            go_simp
            go_wp2_with (go_at_call 62; refine (hb_impl s (bd L1) _).mono ?_; rintro e wM ⟨rfl, hbM⟩; have HRM : Hid (RestRel w s L1 wM) := RestRel.call HRN.out hbM; obtain ⟨_, _, _, e0M, e1M, e2M, e3M, g0M, g1M, g2M, g3M, _, _, _, _, _, _, _, _⟩ := HRM.out; clear hbM)
            refine wpAny_ready (rs := [4]) (by kernel_rfl) (by simp) ?_
            refine AllReady.cons rfl (fun K hK => ?_) AllReady.nil
            go_simp
            refine hK _ _ ?_
            clear hK K
            refine wpAny_done (by kernel_rfl) ?_ _
            have HRS : Hid (RestRel w (HB s (bd L1)) L1 ((((wM.setCell ⟨w.heap.size, 0, none⟩ (Value.int IntKind.u64 (((HB s (bd L1)).a).toNat : Int))).setCell ⟨w.heap.size, 1, none⟩ (Value.int IntKind.u64 (((HB s (bd L1)).b).toNat : Int))).setCell ⟨w.heap.size, 2, none⟩ (Value.int IntKind.u64 (((HB s (bd L1)).c).toNat : Int))).setCell ⟨w.heap.size, 3, none⟩ (Value.int IntKind.u64 (((HB s (bd L1)).d).toNat : Int)))) := RestRel.state HRM.out
            have HI : Hid ((Tryd.prog.info? 129).map (·.size) = some (#[Value.int IntKind.u8 0, Value.int IntKind.u8 0, Value.int IntKind.u8 0, Value.int IntKind.u8 0, Value.int IntKind.u8 0, Value.int IntKind.u8 0, Value.int IntKind.u8 0, Value.int IntKind.u8 0, Value.int IntKind.u8 0, Value.int IntKind.u8 0, Value.int IntKind.u8 0, Value.int IntKind.u8 0, Value.int IntKind.u8 0, Value.int IntKind.u8 0, Value.int IntKind.u8 0, Value.int IntKind.u8 0, Value.int IntKind.u8 0, Value.int IntKind.u8 0, Value.int IntKind.u8 0, Value.int IntKind.u8 0, Value.int IntKind.u8 0, Value.int IntKind.u8 0, Value.int IntKind.u8 0, Value.int IntKind.u8 0, Value.int IntKind.u8 0, Value.int IntKind.u8 0, Value.int IntKind.u8 0, Value.int IntKind.u8 0, Value.int IntKind.u8 0, Value.int IntKind.u8 0, Value.int IntKind.u8 0, Value.int IntKind.u8 0] : Array Value).size) := info62'
            have HZ : Hid ((bv L1).toArray.size = (#[Value.int IntKind.u8 0, Value.int IntKind.u8 0, Value.int IntKind.u8 0, Value.int IntKind.u8 0, Value.int IntKind.u8 0, Value.int IntKind.u8 0, Value.int IntKind.u8 0, Value.int IntKind.u8 0, Value.int IntKind.u8 0, Value.int IntKind.u8 0, Value.int IntKind.u8 0, Value.int IntKind.u8 0, Value.int IntKind.u8 0, Value.int IntKind.u8 0, Value.int IntKind.u8 0, Value.int IntKind.u8 0, Value.int IntKind.u8 0, Value.int IntKind.u8 0, Value.int IntKind.u8 0, Value.int IntKind.u8 0, Value.int IntKind.u8 0, Value.int IntKind.u8 0, Value.int IntKind.u8 0, Value.int IntKind.u8 0, Value.int IntKind.u8 0, Value.int IntKind.u8 0, Value.int IntKind.u8 0, Value.int IntKind.u8 0, Value.int IntKind.u8 0, Value.int IntKind.u8 0, Value.int IntKind.u8 0, Value.int IntKind.u8 0] : Array Value).size) := (by simp [bv_length, HLL.out] : (bv L1).toArray.size = 32)
            have HO : Hid ((#[Value.int IntKind.u8 0, Value.int IntKind.u8 0, Value.int IntKind.u8 0, Value.int IntKind.u8 0, Value.int IntKind.u8 0, Value.int IntKind.u8 0, Value.int IntKind.u8 0, Value.int IntKind.u8 0, Value.int IntKind.u8 0, Value.int IntKind.u8 0, Value.int IntKind.u8 0, Value.int IntKind.u8 0, Value.int IntKind.u8 0, Value.int IntKind.u8 0, Value.int IntKind.u8 0, Value.int IntKind.u8 0, Value.int IntKind.u8 0, Value.int IntKind.u8 0, Value.int IntKind.u8 0, Value.int IntKind.u8 0, Value.int IntKind.u8 0, Value.int IntKind.u8 0, Value.int IntKind.u8 0, Value.int IntKind.u8 0, Value.int IntKind.u8 0, Value.int IntKind.u8 0, Value.int IntKind.u8 0, Value.int IntKind.u8 0, Value.int IntKind.u8 0, Value.int IntKind.u8 0, Value.int IntKind.u8 0, Value.int IntKind.u8 0] : Array Value).all (·.oneCell') = true) := (by simp [Value.oneCell'] : (#[Value.int IntKind.u8 0, Value.int IntKind.u8 0, Value.int IntKind.u8 0, Value.int IntKind.u8 0, Value.int IntKind.u8 0, Value.int IntKind.u8 0, Value.int IntKind.u8 0, Value.int IntKind.u8 0, Value.int IntKind.u8 0, Value.int IntKind.u8 0, Value.int IntKind.u8 0, Value.int IntKind.u8 0, Value.int IntKind.u8 0, Value.int IntKind.u8 0, Value.int IntKind.u8 0, Value.int IntKind.u8 0, Value.int IntKind.u8 0, Value.int IntKind.u8 0, Value.int IntKind.u8 0, Value.int IntKind.u8 0, Value.int IntKind.u8 0, Value.int IntKind.u8 0, Value.int IntKind.u8 0, Value.int IntKind.u8 0, Value.int IntKind.u8 0, Value.int IntKind.u8 0, Value.int IntKind.u8 0, Value.int IntKind.u8 0, Value.int IntKind.u8 0, Value.int IntKind.u8 0, Value.int IntKind.u8 0, Value.int IntKind.u8 0] : Array Value).all (·.oneCell') = true)
            clear e0 e1 e2 e3 e0M e1M e2M e3M g0M g1M g2M g3M
            go_wp2_with (refine wpList_store_row rfl 129 _ _ rfl (w.heap.size + 1 + 1 + 1) #[Value.int IntKind.u8 0, Value.int IntKind.u8 0, Value.int IntKind.u8 0, Value.int IntKind.u8 0, Value.int IntKind.u8 0, Value.int IntKind.u8 0, Value.int IntKind.u8 0, Value.int IntKind.u8 0, Value.int IntKind.u8 0, Value.int IntKind.u8 0, Value.int IntKind.u8 0, Value.int IntKind.u8 0, Value.int IntKind.u8 0, Value.int IntKind.u8 0, Value.int IntKind.u8 0, Value.int IntKind.u8 0, Value.int IntKind.u8 0, Value.int IntKind.u8 0, Value.int IntKind.u8 0, Value.int IntKind.u8 0, Value.int IntKind.u8 0, Value.int IntKind.u8 0, Value.int IntKind.u8 0, Value.int IntKind.u8 0, Value.int IntKind.u8 0, Value.int IntKind.u8 0, Value.int IntKind.u8 0, Value.int IntKind.u8 0, Value.int IntKind.u8 0, Value.int IntKind.u8 0, Value.int IntKind.u8 0, Value.int IntKind.u8 0] rfl rfl 129 _ HRS.out.2.2.1 HI.out HZ.out HO.out ?_)
            go_meet
            exact RestRel.row HRS.out
    case rest =>
      have HR2 : Hid (RestRel w sv L wc) := hcut
      clear HR
      obtain ⟨hz, hB, hrow, e0, e1, e2, e3, g0, g1, g2, g3, r0, r1, r2, r3, k0, k1, k2, k3⟩ := hcut
      clear hB e0 e1 e2 e3 g0 g1 g2 g3 r0 r1 r2 r3 k0 k1 k2 k3
      have hcp := copy56_1 w wc L HL.out kept hrow hz
      have hck : ¬ (2 : Nat) = 3 := by omega
      go_upto_region 8 with (go_at_call 58; refine (bow_nat kept _ (by omega)).mono ?_; rintro e w' ⟨rfl, rfl⟩)
      go_cut [] (fun wx => RestRel w sv (L.take 24 ++ wb (UInt64.ofNat kept)) wx)
      case first =>
        go_region
        go_wp2_with fail
        go_meet
        have hBl : Below wc.heap.size wc (((wc.alloc (.cells #[Value.int IntKind.u8 ((by8 (UInt64.ofNat kept) 56).toNat : Int), Value.int IntKind.u8 ((by8 (UInt64.ofNat kept) 48).toNat : Int), Value.int IntKind.u8 ((by8 (UInt64.ofNat kept) 40).toNat : Int), Value.int IntKind.u8 ((by8 (UInt64.ofNat kept) 32).toNat : Int), Value.int IntKind.u8 ((by8 (UInt64.ofNat kept) 24).toNat : Int), Value.int IntKind.u8 ((by8 (UInt64.ofNat kept) 16).toNat : Int), Value.int IntKind.u8 ((by8 (UInt64.ofNat kept) 8).toNat : Int), Value.int IntKind.u8 ((by8 (UInt64.ofNat kept) 0).toNat : Int)] 125)).alloc (.cells #[Value.int IntKind.u8 ((by8 (UInt64.ofNat kept) 56).toNat : Int), Value.int IntKind.u8 ((by8 (UInt64.ofNat kept) 48).toNat : Int), Value.int IntKind.u8 ((by8 (UInt64.ofNat kept) 40).toNat : Int), Value.int IntKind.u8 ((by8 (UInt64.ofNat kept) 32).toNat : Int), Value.int IntKind.u8 ((by8 (UInt64.ofNat kept) 24).toNat : Int), Value.int IntKind.u8 ((by8 (UInt64.ofNat kept) 16).toNat : Int), Value.int IntKind.u8 ((by8 (UInt64.ofNat kept) 8).toNat : Int), Value.int IntKind.u8 ((by8 (UInt64.ofNat kept) 0).toNat : Int)] 125)).alloc (.cells #[Value.int IntKind.u8 ((by8 (UInt64.ofNat kept) 56).toNat : Int), Value.int IntKind.u8 ((by8 (UInt64.ofNat kept) 48).toNat : Int), Value.int IntKind.u8 ((by8 (UInt64.ofNat kept) 40).toNat : Int), Value.int IntKind.u8 ((by8 (UInt64.ofNat kept) 32).toNat : Int), Value.int IntKind.u8 ((by8 (UInt64.ofNat kept) 24).toNat : Int), Value.int IntKind.u8 ((by8 (UInt64.ofNat kept) 16).toNat : Int), Value.int IntKind.u8 ((by8 (UInt64.ofNat kept) 8).toNat : Int), Value.int IntKind.u8 ((by8 (UInt64.ofNat kept) 0).toNat : Int)] 125)) := ((((Below.refl _ _).alloc (Nat.le_refl _) _).alloc (by simp) _).alloc (by simp; omega) _)
        have h5 := RestRel.row (L' := L.take 24 ++ wb (UInt64.ofNat kept)) (RestRel.drew (RestRel.call HR2.out hBl))
        exact h5
      case rest =>
        clear HR2 hcp hrow hz
        obtain ⟨L3, hL3⟩ : ∃ L3 : List UInt8, L3 = L.take 24 ++ wb (UInt64.ofNat kept) := ⟨_, rfl⟩
        have HX : Hid (L3 = L.take 24 ++ wb (UInt64.ofNat kept)) := hL3
        have hlen3 : L3.length = 32 := by rw [hL3]; simp [wb_len, HL.out]
        have HL3 : Hid (L3.length = 32) := hlen3
        rw [← hL3] at hcut
        clear hL3 hlen3
        have HR3 : Hid (RestRel w sv L3 wc) := hcut
        obtain ⟨hz, hB, hrow, e0, e1, e2, e3, g0, g1, g2, g3, r0, r1, r2, r3, k0, k1, k2, k3⟩ := hcut
        have ROW : Hid (wc.drew.heap[w.heap.size + 1 + 1 + 1]? = some (.cells (bv L3).toArray 129)) := hrow
        have HI62 : Hid ((Tryd.prog.info? 129).map (·.size) = some (bv L3).toArray.size) := info62'.trans (congrArg some (by simp [bv_length, HL3.out]))
        clear hz hrow hB g0 g1 g2 g3 r0 r1 r2 r3 k0 k1 k2 k3
        go_wp2_with fail
        refine wp_region_any (by kernel_rfl) ?_
        change wpAny _ _ _ _ _ _ _ (World.drew _)
        refine wpAny_ready (rs := [0, 1]) (by kernel_rfl) (by simp) ?_
        refine AllReady.cons rfl (fun K hK => ?_) (AllReady.cons rfl (fun K hK => ?_) AllReady.nil)
        · go_simp
          refine hK _ _ ?_
          clear hK K
          refine wpAny_ready (rs := [1]) (by kernel_rfl) (by simp) ?_
          refine AllReady.cons rfl (fun K hK => ?_) AllReady.nil
          rw [if_pos (by rfl)]
          refine wp_load_row 129 _ rfl (w.heap.size + 1 + 1 + 1) rfl 129 (bv L3).toArray _ _ ROW.out Tryd.underlying129 rfl HI62.out ?_
          simp only [Act.put, List.setIfInBounds_toArray]
          refine hK _ _ ?_
          clear hK K
          refine wpAny_ready (rs := [2]) (by kernel_rfl) (by simp) ?_
          refine AllReady.cons rfl (fun K hK => ?_) AllReady.nil
          go_simp
          go_wp2_with (go_at_call 63; refine (dob_any L3 HL3.out _).mono ?_; rintro e wN ⟨rfl, hbN⟩; have HRN : Hid (RestRel w sv L3 wN) := RestRel.call (RestRel.drew HR3.out) hbN; obtain ⟨_, _, _, e0N, e1N, e2N, e3N, _, _, _, _, _, _, _, _, _, _, _, _⟩ := HRN.out; clear hbN)
          refine wpAny_ready (rs := [3]) (by kernel_rfl) (by simp) ?_
          refine AllReady.cons rfl (fun K hK => ?_) AllReady.nil
          go_simp
          go_wp2_with (go_at_call 62; refine (hb_impl sv (bd L3) _).mono ?_; rintro e wM ⟨rfl, hbM⟩; have HRM : Hid (RestRel w sv L3 wM) := RestRel.call HRN.out hbM; obtain ⟨_, _, _, _, _, _, _, _, _, _, _, r0M, r1M, r2M, r3M, k0M, k1M, k2M, k3M⟩ := HRM.out; clear hbM)
          refine wpAny_ready (rs := [4]) (by kernel_rfl) (by simp) ?_
          refine AllReady.cons rfl (fun K hK => ?_) AllReady.nil
          go_simp
          refine hK _ _ ?_
          clear hK K
          refine wpAny_done (by kernel_rfl) ?_ _
          go_wp2_with fail
          obtain ⟨q0, q1, q2, q3⟩ := four_set_at (w := wM) (b := w.heap.size + 1 + 1) (q := HB sv (bd L3)) r0M r1M r2M r3M
          have hBM : Below w.heap.size w wM := HRM.out.2.1
          refine bodyPost_ret (v := .agg #[.int .u64 ((HB sv (bd L3)).a.toNat : Int), .int .u64 ((HB sv (bd L3)).b.toNat : Int), .int .u64 ((HB sv (bd L3)).c.toNat : Int), .int .u64 ((HB sv (bd L3)).d.toNat : Int)]) (by simp [results, Tryd.results64, go_sem, q0, q1, q2, q3]) rfl ⟨by rw [HX.out], ?_⟩
          repeat' (first | (with_reducible exact hBM) | (with_reducible refine Below.setCell ?_ ?_ _) | go_size)
        · rw [if_pos (by rfl)]
          refine wp_load_row 129 _ rfl (w.heap.size + 1 + 1 + 1) rfl 129 (bv L3).toArray _ _ ROW.out Tryd.underlying129 rfl HI62.out ?_
          simp only [Act.put, List.setIfInBounds_toArray]
          refine hK _ _ ?_
          clear hK K
          refine wpAny_ready (rs := [0, 2]) (by kernel_rfl) (by simp) ?_
          refine AllReady.cons rfl (fun K hK => ?_) (AllReady.cons rfl (fun K hK => ?_) AllReady.nil)
          · go_simp
            refine hK _ _ ?_
            clear hK K
            refine wpAny_ready (rs := [2]) (by kernel_rfl) (by simp) ?_
            refine AllReady.cons rfl (fun K hK => ?_) AllReady.nil
            go_simp
            go_wp2_with (go_at_call 63; refine (dob_any L3 HL3.out _).mono ?_; rintro e wN ⟨rfl, hbN⟩; have HRN : Hid (RestRel w sv L3 wN) := RestRel.call (RestRel.drew HR3.out) hbN; obtain ⟨_, _, _, e0N, e1N, e2N, e3N, _, _, _, _, _, _, _, _, _, _, _, _⟩ := HRN.out; clear hbN)
            refine wpAny_ready (rs := [3]) (by kernel_rfl) (by simp) ?_
            refine AllReady.cons rfl (fun K hK => ?_) AllReady.nil
            go_simp
            go_wp2_with (go_at_call 62; refine (hb_impl sv (bd L3) _).mono ?_; rintro e wM ⟨rfl, hbM⟩; have HRM : Hid (RestRel w sv L3 wM) := RestRel.call HRN.out hbM; obtain ⟨_, _, _, _, _, _, _, _, _, _, _, r0M, r1M, r2M, r3M, k0M, k1M, k2M, k3M⟩ := HRM.out; clear hbM)
            refine wpAny_ready (rs := [4]) (by kernel_rfl) (by simp) ?_
            refine AllReady.cons rfl (fun K hK => ?_) AllReady.nil
            go_simp
            refine hK _ _ ?_
            clear hK K
            refine wpAny_done (by kernel_rfl) ?_ _
            go_wp2_with fail
            obtain ⟨q0, q1, q2, q3⟩ := four_set_at (w := wM) (b := w.heap.size + 1 + 1) (q := HB sv (bd L3)) r0M r1M r2M r3M
            have hBM : Below w.heap.size w wM := HRM.out.2.1
            refine bodyPost_ret (v := .agg #[.int .u64 ((HB sv (bd L3)).a.toNat : Int), .int .u64 ((HB sv (bd L3)).b.toNat : Int), .int .u64 ((HB sv (bd L3)).c.toNat : Int), .int .u64 ((HB sv (bd L3)).d.toNat : Int)]) (by simp [results, Tryd.results64, go_sem, q0, q1, q2, q3]) rfl ⟨by rw [HX.out], ?_⟩
            repeat' (first | (with_reducible exact hBM) | (with_reducible refine Below.setCell ?_ ?_ _) | go_size)
          · go_simp
            go_wp2_with (go_at_call 63; refine (dob_any L3 HL3.out _).mono ?_; rintro e wN ⟨rfl, hbN⟩; have HRN : Hid (RestRel w sv L3 wN) := RestRel.call (RestRel.drew HR3.out) hbN; obtain ⟨_, _, _, e0N, e1N, e2N, e3N, _, _, _, _, _, _, _, _, _, _, _, _⟩ := HRN.out; clear hbN)
            refine wpAny_ready (rs := [0]) (by kernel_rfl) (by simp) ?_
            refine AllReady.cons rfl (fun K hK => ?_) AllReady.nil
            go_simp
            refine hK _ _ ?_
            clear hK K
            refine wpAny_ready (rs := [3]) (by kernel_rfl) (by simp) ?_
            refine AllReady.cons rfl (fun K hK => ?_) AllReady.nil
            go_simp
            go_wp2_with (go_at_call 62; refine (hb_impl sv (bd L3) _).mono ?_; rintro e wM ⟨rfl, hbM⟩; have HRM : Hid (RestRel w sv L3 wM) := RestRel.call HRN.out hbM; obtain ⟨_, _, _, _, _, _, _, _, _, _, _, r0M, r1M, r2M, r3M, k0M, k1M, k2M, k3M⟩ := HRM.out; clear hbM)
            refine wpAny_ready (rs := [4]) (by kernel_rfl) (by simp) ?_
            refine AllReady.cons rfl (fun K hK => ?_) AllReady.nil
            go_simp
            refine hK _ _ ?_
            clear hK K
            refine wpAny_done (by kernel_rfl) ?_ _
            go_wp2_with fail
            obtain ⟨q0, q1, q2, q3⟩ := four_set_at (w := wM) (b := w.heap.size + 1 + 1) (q := HB sv (bd L3)) r0M r1M r2M r3M
            have hBM : Below w.heap.size w wM := HRM.out.2.1
            refine bodyPost_ret (v := .agg #[.int .u64 ((HB sv (bd L3)).a.toNat : Int), .int .u64 ((HB sv (bd L3)).b.toNat : Int), .int .u64 ((HB sv (bd L3)).c.toNat : Int), .int .u64 ((HB sv (bd L3)).d.toNat : Int)]) (by simp [results, Tryd.results64, go_sem, q0, q1, q2, q3]) rfl ⟨by rw [HX.out], ?_⟩
            repeat' (first | (with_reducible exact hBM) | (with_reducible refine Below.setCell ?_ ?_ _) | go_size)
end Go.Proofs.YteaaaojafipllaaDoor
