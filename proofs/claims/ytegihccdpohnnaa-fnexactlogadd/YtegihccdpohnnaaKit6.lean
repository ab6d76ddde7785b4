/-
  copy of a text into a row of bytes made last; digestOfBytes at any 32 bytes.
-/
import Derived.Test.YtegihccdpohnnaaRows
import Derived.Test.YtegihccdpohnnaaPlain2
import Derived.Test.YtegihccdpohnnaaKit5
import Derived.Test.YtegihccdpohnnaaWalks4
namespace Go.Proofs.Ytegihccdpohnnaa
open Go.RowKit

theorem run_copy_str (W : World) (ty t : TypeId) (cur : Array Value) (s : ByteArray) (n : Nat) (hn : s.size = n) (hc : cur.size = n) :
    (Builtin.copy_ #[45, 9] ty #[.slice (some ⟨W.heap.size, 0, none⟩) n n, .string s]).run Try.prog (W.alloc (.cells cur t)) = .ok (goInt n) (W.alloc (.cells (bv s.data.toList).toArray t)) := by
  have hsd : s.data.size = n := hn
  have hst := run_storeCells_at Try.prog W.heap.size 0 t (bv s.data.toList) 0 cur (W.alloc (.cells cur t)) (heap_alloc_last W _) (by simp [bv, hsd, hc]) (by simp [bv, Value.oneCell'])
  have hi : (Try.prog.info? 5).map (·.size) = some 1 := by kernel_rfl
  cases hq : Try.prog.info? 5 with
  | none => simp [hq] at hi
  | some i =>
    have hm : Nat.min s.size n = n := by rw [hn]; simp
    have hk : List.take n (List.map (fun b : UInt8 => Value.int IntKind.u8 (b.toNat : Int)) s.data.toList) = bv s.data.toList := by
      rw [List.take_of_length_le (by simp [hsd])]; rfl
    have he : (List.take (0 + 0) cur.toList ++ bv s.data.toList ++ List.drop (0 + 0 + (bv s.data.toList).length) cur.toList).toArray = (bv s.data.toList).toArray := by
      rw [List.drop_of_length_le (by simp [bv, hsd, hc])]; simp
    rw [he, World.setRow_alloc_new] at hst
    simp [Builtin.copy_, Builtin.lenOf, Builtin.firstCells, sizeOf, typeInfo, run_underlying Try.underlying45, hq, hm, hk, hst]

end Go.Proofs.Ytegihccdpohnnaa
