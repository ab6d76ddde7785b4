/-
  Bytes that are gathered by append, and their string.
-/
import Derived.Test.YtdpbgcilkidbaaaDoorKit3
import Derived.Laws.AppendOwn
import Derived.Laws.OwnMore
import Derived.Laws.BytesString
import Derived.OwnWalk
namespace Go.Proofs.YtdpbgcilkidbaaaDoor
open Go.RowKit
variable {P : Program}

/-- A string of bytes. -/
abbrev str (l : List UInt8) : ByteArray := ⟨l.toArray⟩

theorem foldl_push (l : List UInt8) : ∀ r : ByteArray, (l.map fun x => (x.toNat : Int)).foldl (fun r n => r.push (UInt8.ofNat n.toNat)) r = ⟨r.data ++ l.toArray⟩ := by
  induction l with
  | nil => intro r; simp
  | cons x l ih =>
    intro r
    simp only [List.map_cons, List.foldl_cons]
    rw [ih]
    congr 1
    simp [ByteArray.push]

theorem bv_map (l : List UInt8) : bv l = (l.map fun x => (x.toNat : Int)).map (Value.int .u8) := by simp [bv]

/-- Cells that hold bytes, read as a string. -/
theorem run_str_cells (w : World) (a : Addr) (len cap : Nat) (l : List UInt8) (hl : l.length = len) (h : ∀ j v, (bv l)[j]? = some v → w.cell? (a.add j) = some v) :
    (Conv.bytesToString (.slice (some a) len cap)).run P w = .ok (.string (str l)) w := by
  have h1 : (loadCells a len).run P w = .ok (bv l).toArray w := by
    have := run_loadCells_list (P := P) w a (bv l) h
    rwa [bv_length, hl] at this
  rw [bv_map] at h1
  rw [run_bytesToString w a len cap _ h1, foldl_push]
  simp [str]

end Go.Proofs.YtdpbgcilkidbaaaDoor
