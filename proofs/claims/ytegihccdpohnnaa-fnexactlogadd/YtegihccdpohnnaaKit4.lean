/-
  Bytes that are gathered by append, and their string.
-/
import Derived.Test.YtegihccdpohnnaaKit3
import Derived.Laws.AppendOwn
import Derived.Laws.OwnMore
import Derived.Laws.BytesString
import Derived.OwnWalk
namespace Go.Proofs.Ytegihccdpohnnaa
open Go.RowKit
variable {P : Program}

/-- A string of bytes. -/
abbrev str (l : List UInt8) : ByteArray := ⟨l.toArray⟩

theorem foldl_push (l : List UInt8) : ∀ r : ByteArray, (l.map fun x => (x.toNat : Int)).foldl (fun r n => r.push (UInt8.ofNat n.toNat)) r = ⟨r.data ++ l.toArray⟩ := by
  induction l with
  | nil => intro r; simp
  | cons x l ih =>
    intro r
    simp only [List.map_cons, List.foldl_cons]
    rw [ih]
    congr 1
    simp [ByteArray.push]

theorem bv_map (l : List UInt8) : bv l = (l.map fun x => (x.toNat : Int)).map (Value.int .u8) := by simp [bv]

/-- Cells that hold bytes, read as a string. -/
theorem run_str_cells (w : World) (a : Addr) (len cap : Nat) (l : List UInt8) (hl : l.length = len) (h : ∀ j v, (bv l)[j]? = some v → w.cell? (a.add j) = some v) :
    (Conv.bytesToString (.slice (some a) len cap)).run P w = .ok (.string (str l)) w := by
  have h1 : (loadCells a len).run P w = .ok (bv l).toArray w := by
    have := run_loadCells_list (P := P) w a (bv l) h
    rwa [bv_length, hl] at this
  rw [bv_map] at h1
  rw [run_bytesToString w a len cap _ h1, foldl_push]
  simp [str]

theorem run_str_own (w : World) (base : Nat) (v : Value) (l : List UInt8) (h : w.ownsRow base 5 1 v l.length (bv l)) (hs : P.underlying 45 = some (.slice 5)) (he : P.underlying 5 = some (.int .u8)) (hd : P.underlying 9 = some .string) :
    (convert 45 9 v).run P w = .ok (.string (str l)) w := by
  rcases h with ⟨_, ⟨rfl, hn⟩ | ⟨g, cap, cur, rfl, hb, hg, hn, hcap, hsz, htk⟩⟩
  · rw [run_convert_bytes_string w 45 9 5 none 0 0 hs he hd]
    have : l = [] := List.length_eq_zero_iff.1 hn
    subst this
    simp [Conv.bytesToString, str]
    rfl
  · rw [run_convert_bytes_string w 45 9 5 _ _ _ hs he hd]
    refine run_str_cells w _ _ _ l rfl (fun j u hu => ?_)
    rw [Addr.add_mid, cell_of_row w g _ cur 5 (0, 0) hg]
    rw [← htk] at hu
    rw [List.getElem?_take] at hu
    split at hu
    · simpa using hu
    · cases hu
end Go.Proofs.Ytegihccdpohnnaa
