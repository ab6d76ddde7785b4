/-
  HashBytes, on both sides.
-/
import Derived.Test.YteaaaojafipllaaDoorRows
import Derived.Test.YteaaaojafipllaaDoorJoinB6
import Derived.Test.YteaaaojafipllaaDoorJoinB7
import Derived.Deep.QuietTactic
import Derived.BigQuiet
import Derived.Deep.RegionWith
import Derived.Deep.RegionHeld3
import Derived.Deep.CutRange
import Derived.Deep.DeepCutAuto
import Derived.Deep.CutBlock
import Derived.Laws.Tables
import Derived.Test.YteaaaojafipllaaDoorWalks6
import Derived.Test.YteaaaojafipllaaDoorWalks5
import Derived.Test.YteaaaojafipllaaDoorJoinB5
namespace Go.Proofs.YteaaaojafipllaaDoor
open Go.RowKit

theorem str_append (a b : List UInt8) : str a ++ str b = str (a ++ b) := ByteArray.mk_append_mk a b

set_option maxHeartbeats 2000000 in
theorem hby_spec (q : Qd) (w : World) :
    Calls Tryd.prog 48 #[.agg #[.int .u64 ((q).a.toNat : Int), .int .u64 ((q).b.toNat : Int), .int .u64 ((q).c.toNat : Int), .int .u64 ((q).d.toNat : Int)]] w fun e w' => e = .returned (.string (str (db q))) ∧ Below w.heap.size w w' := by
  have hwb : ∀ x : UInt64, (wb x).length = 8 := fun _ => rfl
  go_enter Tryd.func48, Tryd.ntmps48
  go_wp2_with fail
  go_region_held3 (fun w' => w'.cell? ⟨w.heap.size, 0, none⟩ = some (Value.int IntKind.u64 (((q).a).toNat : Int)) ∧ w'.cell? ⟨w.heap.size, 1, none⟩ = some (Value.int IntKind.u64 (((q).b).toNat : Int)) ∧ w'.cell? ⟨w.heap.size, 2, none⟩ = some (Value.int IntKind.u64 (((q).c).toNat : Int)) ∧ w'.cell? ⟨w.heap.size, 3, none⟩ = some (Value.int IntKind.u64 (((q).d).toNat : Int))) ((refine ⟨?_, ?_, ?_, ?_⟩ <;> (first | ((repeat (first | (with_reducible assumption) | (with_reducible refine c_drew ?_) | (with_reducible refine c_drewN ?_) | (with_reducible refine c_alloc ?_) | (with_reducible refine c_set ?_ (by first | (simp; done) | (simp; omega) | omega)))); done) | (go_simp; done) | (simp [go_sem]; done) | (simp [go_sem, *]; done)))) (first
      | (go_at_call 31; refine (l1b_is _ _).mono ?_; rintro e wN ⟨rfl, hbN⟩; have hzN := hbN.size; (try simp only [World.size_drew] at hzN); (try simp only [World.size_alloc] at hzN); have fN0 : wN.cell? ⟨w.heap.size, 0, none⟩ = some (Value.int IntKind.u64 (((q).a).toNat : Int)) := (hbN.cell (p := ⟨w.heap.size, 0, none⟩) (by first | (simp; done) | (simp; omega) | omega)).trans (by (first | ((repeat (first | (with_reducible assumption) | (with_reducible refine c_drew ?_) | (with_reducible refine c_drewN ?_) | (with_reducible refine c_alloc ?_) | (with_reducible refine c_set ?_ (by first | (simp; done) | (simp; omega) | omega)))); done) | (go_simp; done) | (simp [go_sem]; done) | (simp [go_sem, *]; done))); have fN1 : wN.cell? ⟨w.heap.size, 1, none⟩ = some (Value.int IntKind.u64 (((q).b).toNat : Int)) := (hbN.cell (p := ⟨w.heap.size, 1, none⟩) (by first | (simp; done) | (simp; omega) | omega)).trans (by (first | ((repeat (first | (with_reducible assumption) | (with_reducible refine c_drew ?_) | (with_reducible refine c_drewN ?_) | (with_reducible refine c_alloc ?_) | (with_reducible refine c_set ?_ (by first | (simp; done) | (simp; omega) | omega)))); done) | (go_simp; done) | (simp [go_sem]; done) | (simp [go_sem, *]; done))); have fN2 : wN.cell? ⟨w.heap.size, 2, none⟩ = some (Value.int IntKind.u64 (((q).c).toNat : Int)) := (hbN.cell (p := ⟨w.heap.size, 2, none⟩) (by first | (simp; done) | (simp; omega) | omega)).trans (by (first | ((repeat (first | (with_reducible assumption) | (with_reducible refine c_drew ?_) | (with_reducible refine c_drewN ?_) | (with_reducible refine c_alloc ?_) | (with_reducible refine c_set ?_ (by first | (simp; done) | (simp; omega) | omega)))); done) | (go_simp; done) | (simp [go_sem]; done) | (simp [go_sem, *]; done))); have fN3 : wN.cell? ⟨w.heap.size, 3, none⟩ = some (Value.int IntKind.u64 (((q).d).toNat : Int)) := (hbN.cell (p := ⟨w.heap.size, 3, none⟩) (by first | (simp; done) | (simp; omega) | omega)).trans (by (first | ((repeat (first | (with_reducible assumption) | (with_reducible refine c_drew ?_) | (with_reducible refine c_drewN ?_) | (with_reducible refine c_alloc ?_) | (with_reducible refine c_set ?_ (by first | (simp; done) | (simp; omega) | omega)))); done) | (go_simp; done) | (simp [go_sem]; done) | (simp [go_sem, *]; done)))))
  go_wp2
  go_ret
  exact ⟨by simp only [str_append, db, List.append_assoc]; rfl, (by repeat' (first | (with_reducible exact Below.refl _ _) | (with_reducible assumption) | (with_reducible refine below_drewN ?_ _) | (with_reducible refine Below.setCell ?_ ?_ _) | (with_reducible refine Below.alloc ?_ ?_ _) | (with_reducible refine Below.drew ?_) | (with_reducible refine below_setRow ?_ ?_ _) | (with_reducible refine below_after ?_ (by with_reducible assumption) ?_) | go_size))⟩

/-- A row of bytes made last, as a string. -/
theorem run_str_last (W : World) (t : TypeId) (l : List UInt8) (n : Nat) (hn : l.length = n) :
    (convert 76 9 (.slice (some ⟨W.heap.size, 0, none⟩) n n)).run Tryd.prog (W.alloc (.cells (bv l).toArray t)) = .ok (.string (str l)) (W.alloc (.cells (bv l).toArray t)) := by
  rw [run_convert_bytes_string _ 76 9 5 _ _ _ Tryd.underlying76 Tryd.underlying5 Tryd.underlying9]
  refine run_str_cells _ _ _ _ l hn (fun j u hu => ?_)
  rw [Addr.add_mid, cell_of_row _ W.heap.size _ _ t (0, 0) (heap_alloc_last W _)]
  simpa using hu

set_option maxHeartbeats 2000000 in
theorem hby_impl (q : Qd) (w : World) :
    Calls Tryd.prog 68 #[.agg #[.int .u64 ((q).a.toNat : Int), .int .u64 ((q).b.toNat : Int), .int .u64 ((q).c.toNat : Int), .int .u64 ((q).d.toNat : Int)]] w fun e w' => e = .returned (.string (str (db q))) ∧ Below w.heap.size w w' := by
  have hsz : (#[Value.int IntKind.u8 0, Value.int IntKind.u8 0, Value.int IntKind.u8 0, Value.int IntKind.u8 0, Value.int IntKind.u8 0, Value.int IntKind.u8 0, Value.int IntKind.u8 0, Value.int IntKind.u8 0, Value.int IntKind.u8 0, Value.int IntKind.u8 0, Value.int IntKind.u8 0, Value.int IntKind.u8 0, Value.int IntKind.u8 0, Value.int IntKind.u8 0, Value.int IntKind.u8 0, Value.int IntKind.u8 0, Value.int IntKind.u8 0, Value.int IntKind.u8 0, Value.int IntKind.u8 0, Value.int IntKind.u8 0, Value.int IntKind.u8 0, Value.int IntKind.u8 0, Value.int IntKind.u8 0, Value.int IntKind.u8 0, Value.int IntKind.u8 0, Value.int IntKind.u8 0, Value.int IntKind.u8 0, Value.int IntKind.u8 0, Value.int IntKind.u8 0, Value.int IntKind.u8 0, Value.int IntKind.u8 0, Value.int IntKind.u8 0] : Array Value).size = (bv (db q)).toArray.size := by simp [bv, db, wb]
  have hone : (bv (db q)).toArray.all (·.oneCell') = true := by simp [bv, db, wb, Value.oneCell']
  have hin : (Tryd.prog.info? 129).map (·.size) = some (bv (db q)).toArray.size := by rw [← hsz]; kernel_rfl
  have HS : Hid ((#[Value.int IntKind.u8 0, Value.int IntKind.u8 0, Value.int IntKind.u8 0, Value.int IntKind.u8 0, Value.int IntKind.u8 0, Value.int IntKind.u8 0, Value.int IntKind.u8 0, Value.int IntKind.u8 0, Value.int IntKind.u8 0, Value.int IntKind.u8 0, Value.int IntKind.u8 0, Value.int IntKind.u8 0, Value.int IntKind.u8 0, Value.int IntKind.u8 0, Value.int IntKind.u8 0, Value.int IntKind.u8 0, Value.int IntKind.u8 0, Value.int IntKind.u8 0, Value.int IntKind.u8 0, Value.int IntKind.u8 0, Value.int IntKind.u8 0, Value.int IntKind.u8 0, Value.int IntKind.u8 0, Value.int IntKind.u8 0, Value.int IntKind.u8 0, Value.int IntKind.u8 0, Value.int IntKind.u8 0, Value.int IntKind.u8 0, Value.int IntKind.u8 0, Value.int IntKind.u8 0, Value.int IntKind.u8 0, Value.int IntKind.u8 0] : Array Value).size = (bv (db q)).toArray.size) := hsz
  have HO : Hid ((bv (db q)).toArray.all (·.oneCell') = true) := hone
  have HI : Hid ((Tryd.prog.info? 129).map (·.size) = some (bv (db q)).toArray.size) := hin
  clear hsz hone hin
  have hcv := fun W : World => run_str_last W 129 (db q) 32 rfl
  go_enter Tryd.func68, Tryd.ntmps68
  go_wp2_with (first | (go_at_call 77; refine (bod_is _ _).mono ?_; rintro e w1 ⟨rfl, hb1⟩) | (refine wpList_store_row rfl 129 _ _ rfl w1.heap.size (bv (db q)).toArray rfl rfl 129 _ (heap_alloc_last w1 _) HI.out HS.out HO.out ?_; rw [World.setRow_alloc_new]))
  have hz1 := hb1.size
  simp only [World.size_alloc] at hz1
  go_ret
  exact ⟨rfl, (by repeat' (first | (with_reducible exact Below.refl _ _) | (with_reducible assumption) | (with_reducible refine below_drewN ?_ _) | (with_reducible refine Below.setCell ?_ ?_ _) | (with_reducible refine Below.alloc ?_ ?_ _) | (with_reducible refine Below.drew ?_) | (with_reducible refine below_setRow ?_ ?_ _) | (with_reducible refine below_after ?_ (by with_reducible assumption) ?_) | go_size))⟩

end Go.Proofs.YteaaaojafipllaaDoor
