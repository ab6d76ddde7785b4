/-
  copy of a text into a row of bytes made last; digestOfBytes at any 32 bytes.
-/
import Derived.Test.YteaaaojafipllaaDoorRows
import Derived.Test.YteaaaojafipllaaDoorJoinB6
import Derived.Test.YteaaaojafipllaaDoorJoinB7
import Derived.Test.YteaaaojafipllaaDoorWalks4
namespace Go.Proofs.YteaaaojafipllaaDoor
open Go.RowKit

theorem run_copy_str (W : World) (ty t : TypeId) (cur : Array Value) (s : ByteArray) (n : Nat) (hn : s.size = n) (hc : cur.size = n) :
    (Builtin.copy_ #[76, 9] ty #[.slice (some ⟨W.heap.size, 0, none⟩) n n, .string s]).run Tryd.prog (W.alloc (.cells cur t)) = .ok (goInt n) (W.alloc (.cells (bv s.data.toList).toArray t)) := by
  have hsd : s.data.size = n := hn
  have hst := run_storeCells_at Tryd.prog W.heap.size 0 t (bv s.data.toList) 0 cur (W.alloc (.cells cur t)) (heap_alloc_last W _) (by simp [bv, hsd, hc]) (by simp [bv, Value.oneCell'])
  have hi : (Tryd.prog.info? 5).map (·.size) = some 1 := by kernel_rfl
  cases hq : Tryd.prog.info? 5 with
  | none => simp [hq] at hi
  | some i =>
    have hm : Nat.min s.size n = n := by rw [hn]; simp
    have hk : List.take n (List.map (fun b : UInt8 => Value.int IntKind.u8 (b.toNat : Int)) s.data.toList) = bv s.data.toList := by
      rw [List.take_of_length_le (by simp [hsd])]; rfl
    have he : (List.take (0 + 0) cur.toList ++ bv s.data.toList ++ List.drop (0 + 0 + (bv s.data.toList).length) cur.toList).toArray = (bv s.data.toList).toArray := by
      rw [List.drop_of_length_le (by simp [bv, hsd, hc])]; simp
    rw [he, World.setRow_alloc_new] at hst
    simp [Builtin.copy_, Builtin.lenOf, Builtin.firstCells, sizeOf, typeInfo, run_underlying Tryd.underlying76, hq, hm, hk, hst]

/-- digestOfBytes, at any 32 bytes. -/
theorem dob_any (l : List UInt8) (hl : l.length = 32) (w : World) :
    Calls Tryd.prog 63 #[.agg (bv l).toArray] w fun e w' => e = .returned (.agg #[.int .u64 ((bd l).a.toNat : Int), .int .u64 ((bd l).b.toNat : Int), .int .u64 ((bd l).c.toNat : Int), .int .u64 ((bd l).d.toNat : Int)]) ∧ Below w.heap.size w w' := by
  obtain ⟨x0, x1, x2, x3, x4, x5, x6, x7, x8, x9, x10, x11, x12, x13, x14, x15, x16, x17, x18, x19, x20, x21, x22, x23, x24, x25, x26, x27, x28, x29, x30, x31, rfl⟩ := list32 l hl
  exact dob_is x0 x1 x2 x3 x4 x5 x6 x7 x8 x9 x10 x11 x12 x13 x14 x15 x16 x17 x18 x19 x20 x21 x22 x23 x24 x25 x26 x27 x28 x29 x30 x31 w
end Go.Proofs.YteaaaojafipllaaDoor
