/-
  HashLeaf, on both sides, and its law, walked.
-/
import Derived.Test.YtjmfegfkigaabaaRows
import Derived.Test.YtjmfegfkigaabaaPlain2
import Derived.Test.YtjmfegfkigaabaaJoinB17
import Derived.Deep.QuietTactic
import Derived.BigQuiet
import Derived.Deep.RegionWith
import Derived.Deep.RegionHeld3
import Derived.Deep.CutRange
import Derived.Deep.DeepCutAuto
import Derived.Deep.CutBlock
import Derived.Laws.Tables
import Derived.Test.YtjmfegfkigaabaaJoinB20
import Derived.Test.YtjmfegfkigaabaaWalks11
import Derived.Test.YtjmfegfkigaabaaWalks15
import Derived.Test.YtjmfegfkigaabaaJoinB3
import Derived.Test.YtjmfegfkigaabaaCopy57
import Derived.Test.YtjmfegfkigaabaaWalks6
import Derived.Test.YtjmfegfkigaabaaJoinB24
namespace Go.Proofs.Ytjmfegfkigaabaa
open Go.RowKit

/-- The digest of a text, whatever its size. -/
def dg (s : ByteArray) : Qd := if s.size ≤ 20000 then hashOf (bare s.data.toList) else { a := 0, b := 0, c := 0, d := 0 }
set_option maxRecDepth 100000 in
theorem ho_spec_all (s : ByteArray) (w : World) : Calls Try.prog 37 #[.string s] w fun e w' => e = .returned (.agg #[.int .u64 ((dg s).a.toNat : Int), .int .u64 ((dg s).b.toNat : Int), .int .u64 ((dg s).c.toNat : Int), .int .u64 ((dg s).d.toNat : Int)]) ∧ Below w.heap.size w w' := by
  unfold dg
  split
  · exact ho_spec_t s w ‹_›
  · exact ho_spec_big s w (by omega)
set_option maxRecDepth 100000 in
theorem ho_impl_all (s : ByteArray) (w : World) : Calls Try.prog 68 #[.string s] w fun e w' => e = .returned (.agg #[.int .u64 ((dg s).a.toNat : Int), .int .u64 ((dg s).b.toNat : Int), .int .u64 ((dg s).c.toNat : Int), .int .u64 ((dg s).d.toNat : Int)]) ∧ Below w.heap.size w w' := by
  unfold dg
  split
  · exact ho_impl s w ‹_›
  · exact ho_impl_big s w (by omega)

end Go.Proofs.Ytjmfegfkigaabaa

/-
  bytesOfDigest.
-/
namespace Go.Proofs.Ytjmfegfkigaabaa
open Go.RowKit

end Go.Proofs.Ytjmfegfkigaabaa

/-
  HashBytes, on both sides.
-/
namespace Go.Proofs.Ytjmfegfkigaabaa
open Go.RowKit

theorem str_append (a b : List UInt8) : str a ++ str b = str (a ++ b) := ByteArray.mk_append_mk a b

set_option maxHeartbeats 2000000 in
theorem hby_spec (q : Qd) (w : World) :
    Calls Try.prog 39 #[.agg #[.int .u64 ((q).a.toNat : Int), .int .u64 ((q).b.toNat : Int), .int .u64 ((q).c.toNat : Int), .int .u64 ((q).d.toNat : Int)]] w fun e w' => e = .returned (.string (str (db q))) ∧ Below w.heap.size w w' := by
  have hwb : ∀ x : UInt64, (wb x).length = 8 := fun _ => rfl
  go_enter Try.func39, Try.ntmps39
  go_wp2_with fail
  go_region_held3 (fun w' => w'.cell? ⟨w.heap.size, 0, none⟩ = some (Value.int IntKind.u64 (((q).a).toNat : Int)) ∧ w'.cell? ⟨w.heap.size, 1, none⟩ = some (Value.int IntKind.u64 (((q).b).toNat : Int)) ∧ w'.cell? ⟨w.heap.size, 2, none⟩ = some (Value.int IntKind.u64 (((q).c).toNat : Int)) ∧ w'.cell? ⟨w.heap.size, 3, none⟩ = some (Value.int IntKind.u64 (((q).d).toNat : Int))) ((refine ⟨?_, ?_, ?_, ?_⟩ <;> (first | ((repeat (first | (with_reducible assumption) | (with_reducible refine c_drew ?_) | (with_reducible refine c_drewN ?_) | (with_reducible refine c_alloc ?_) | (with_reducible refine c_set ?_ (by first | (simp; done) | (simp; omega) | omega)))); done) | (go_simp; done) | (simp [go_sem]; done) | (simp [go_sem, *]; done)))) (first
      | (go_at_call 38; refine (l1b_is _ _).mono ?_; rintro e wN ⟨rfl, hbN⟩; have hzN := hbN.size; (try simp only [World.size_drew] at hzN); (try simp only [World.size_alloc] at hzN); have fN0 : wN.cell? ⟨w.heap.size, 0, none⟩ = some (Value.int IntKind.u64 (((q).a).toNat : Int)) := (hbN.cell (p := ⟨w.heap.size, 0, none⟩) (by first | (simp; done) | (simp; omega) | omega)).trans (by (first | ((repeat (first | (with_reducible assumption) | (with_reducible refine c_drew ?_) | (with_reducible refine c_drewN ?_) | (with_reducible refine c_alloc ?_) | (with_reducible refine c_set ?_ (by first | (simp; done) | (simp; omega) | omega)))); done) | (go_simp; done) | (simp [go_sem]; done) | (simp [go_sem, *]; done))); have fN1 : wN.cell? ⟨w.heap.size, 1, none⟩ = some (Value.int IntKind.u64 (((q).b).toNat : Int)) := (hbN.cell (p := ⟨w.heap.size, 1, none⟩) (by first | (simp; done) | (simp; omega) | omega)).trans (by (first | ((repeat (first | (with_reducible assumption) | (with_reducible refine c_drew ?_) | (with_reducible refine c_drewN ?_) | (with_reducible refine c_alloc ?_) | (with_reducible refine c_set ?_ (by first | (simp; done) | (simp; omega) | omega)))); done) | (go_simp; done) | (simp [go_sem]; done) | (simp [go_sem, *]; done))); have fN2 : wN.cell? ⟨w.heap.size, 2, none⟩ = some (Value.int IntKind.u64 (((q).c).toNat : Int)) := (hbN.cell (p := ⟨w.heap.size, 2, none⟩) (by first | (simp; done) | (simp; omega) | omega)).trans (by (first | ((repeat (first | (with_reducible assumption) | (with_reducible refine c_drew ?_) | (with_reducible refine c_drewN ?_) | (with_reducible refine c_alloc ?_) | (with_reducible refine c_set ?_ (by first | (simp; done) | (simp; omega) | omega)))); done) | (go_simp; done) | (simp [go_sem]; done) | (simp [go_sem, *]; done))); have fN3 : wN.cell? ⟨w.heap.size, 3, none⟩ = some (Value.int IntKind.u64 (((q).d).toNat : Int)) := (hbN.cell (p := ⟨w.heap.size, 3, none⟩) (by first | (simp; done) | (simp; omega) | omega)).trans (by (first | ((repeat (first | (with_reducible assumption) | (with_reducible refine c_drew ?_) | (with_reducible refine c_drewN ?_) | (with_reducible refine c_alloc ?_) | (with_reducible refine c_set ?_ (by first | (simp; done) | (simp; omega) | omega)))); done) | (go_simp; done) | (simp [go_sem]; done) | (simp [go_sem, *]; done)))))
  go_wp2
  go_ret
  exact ⟨by simp only [str_append, db, List.append_assoc]; rfl, (by repeat' (first | (with_reducible exact Below.refl _ _) | (with_reducible assumption) | (with_reducible refine below_drewN ?_ _) | (with_reducible refine Below.setCell ?_ ?_ _) | (with_reducible refine Below.alloc ?_ ?_ _) | (with_reducible refine Below.drew ?_) | (with_reducible refine below_setRow ?_ ?_ _) | (with_reducible refine below_after ?_ (by with_reducible assumption) ?_) | go_size))⟩

/-- A row of bytes made last, as a string. -/
theorem run_str_last (W : World) (t : TypeId) (l : List UInt8) (n : Nat) (hn : l.length = n) :
    (convert 43 9 (.slice (some ⟨W.heap.size, 0, none⟩) n n)).run Try.prog (W.alloc (.cells (bv l).toArray t)) = .ok (.string (str l)) (W.alloc (.cells (bv l).toArray t)) := by
  rw [run_convert_bytes_string _ 43 9 5 _ _ _ Try.underlying43 Try.underlying5 Try.underlying9]
  refine run_str_cells _ _ _ _ l hn (fun j u hu => ?_)
  rw [Addr.add_mid, cell_of_row _ W.heap.size _ _ t (0, 0) (heap_alloc_last W _)]
  simpa using hu

end Go.Proofs.Ytjmfegfkigaabaa
