/-
  bytesOfDigest.
-/
import Derived.Test.YteaaaojafipllaaDoorRows
import Derived.Test.YteaaaojafipllaaDoorJoinB6
import Derived.Test.YteaaaojafipllaaDoorJoinB7
import Derived.Test.YteaaaojafipllaaDoorJoinB8
import Derived.Test.YteaaaojafipllaaDoorCopy57
import Derived.Deep.CutBlock
import Derived.Deep.QuietTactic
import Derived.BigQuiet
import Derived.Deep.CutRange
import Derived.Deep.DeepCutAuto
import Derived.Laws.Tables
namespace Go.Proofs.YteaaaojafipllaaDoor
open Go.RowKit

set_option maxHeartbeats 2000000 in
theorem bod_is (q : Qd) (w : World) :
    Calls Tryd.prog 77 #[.agg #[.int .u64 ((q).a.toNat : Int), .int .u64 ((q).b.toNat : Int), .int .u64 ((q).c.toNat : Int), .int .u64 ((q).d.toNat : Int)]] w fun e w' => e = .returned (.agg (bv (db q)).toArray) ∧ Below w.heap.size w w' := by
  have hc0 := copy57_0 q w
  have hc1 := copy57_1 q w
  have hc2 := copy57_2 q w
  have hc3 := copy57_3 q w
  go_enter Tryd.func77, Tryd.ntmps77
  go_upto_block 0 with fail
  go_cut [] (fun wx => wx.heap[w.heap.size + 1 + 1]? = some (.cells #[Value.int IntKind.u8 ((by8 (q).a 56).toNat : Int), Value.int IntKind.u8 ((by8 (q).a 48).toNat : Int), Value.int IntKind.u8 ((by8 (q).a 40).toNat : Int), Value.int IntKind.u8 ((by8 (q).a 32).toNat : Int), Value.int IntKind.u8 ((by8 (q).a 24).toNat : Int), Value.int IntKind.u8 ((by8 (q).a 16).toNat : Int), Value.int IntKind.u8 ((by8 (q).a 8).toNat : Int), Value.int IntKind.u8 ((by8 (q).a 0).toNat : Int), Value.int IntKind.u8 ((by8 (q).b 56).toNat : Int), Value.int IntKind.u8 ((by8 (q).b 48).toNat : Int), Value.int IntKind.u8 ((by8 (q).b 40).toNat : Int), Value.int IntKind.u8 ((by8 (q).b 32).toNat : Int), Value.int IntKind.u8 ((by8 (q).b 24).toNat : Int), Value.int IntKind.u8 ((by8 (q).b 16).toNat : Int), Value.int IntKind.u8 ((by8 (q).b 8).toNat : Int), Value.int IntKind.u8 ((by8 (q).b 0).toNat : Int), Value.int IntKind.u8 ((by8 (q).c 56).toNat : Int), Value.int IntKind.u8 ((by8 (q).c 48).toNat : Int), Value.int IntKind.u8 ((by8 (q).c 40).toNat : Int), Value.int IntKind.u8 ((by8 (q).c 32).toNat : Int), Value.int IntKind.u8 ((by8 (q).c 24).toNat : Int), Value.int IntKind.u8 ((by8 (q).c 16).toNat : Int), Value.int IntKind.u8 ((by8 (q).c 8).toNat : Int), Value.int IntKind.u8 ((by8 (q).c 0).toNat : Int), Value.int IntKind.u8 ((by8 (q).d 56).toNat : Int), Value.int IntKind.u8 ((by8 (q).d 48).toNat : Int), Value.int IntKind.u8 ((by8 (q).d 40).toNat : Int), Value.int IntKind.u8 ((by8 (q).d 32).toNat : Int), Value.int IntKind.u8 ((by8 (q).d 24).toNat : Int), Value.int IntKind.u8 ((by8 (q).d 16).toNat : Int), Value.int IntKind.u8 ((by8 (q).d 8).toNat : Int), Value.int IntKind.u8 ((by8 (q).d 0).toNat : Int)] 129) ∧ (∃ old : Array Value, old.size = 32 ∧ wx.heap[w.heap.size + 1]? = some (.cells old 129)) ∧ Below w.heap.size w wx)
  case first =>
    go_wp2_with fail
    refine wp_loop_rounds 5 ?_
    rw [rounds_succ]
    go_wp2_with (go_at_call 58; refine (bow_is _ _).mono ?_; rintro e w1 ⟨rfl, rfl⟩)
    go_region
    go_wp2_with fail
    rw [rounds_succ]
    go_wp2_with (go_at_call 58; refine (bow_is _ _).mono ?_; rintro e w1 ⟨rfl, rfl⟩)
    go_region
    go_wp2_with fail
    rw [rounds_succ]
    go_wp2_with (go_at_call 58; refine (bow_is _ _).mono ?_; rintro e w1 ⟨rfl, rfl⟩)
    go_region
    go_wp2_with fail
    rw [rounds_succ]
    go_wp2_with (go_at_call 58; refine (bow_is _ _).mono ?_; rintro e w1 ⟨rfl, rfl⟩)
    go_region
    go_wp2_with fail
    rw [rounds_succ]
    go_wp2
    go_meet
    exact ⟨(by repeat (first | (with_reducible refine (heap_drew_at _ _).trans ?_) | (with_reducible refine (heap_drewN_at _ _ _).trans ?_) | (with_reducible refine (heap_alloc_old _ _ ?_).trans ?_; · (simp only [World.size_alloc]; omega)) | (with_reducible refine heap_new2 _ _ _ ?_; simp only [World.size_alloc]; done))), ⟨#[Value.int IntKind.u8 0, Value.int IntKind.u8 0, Value.int IntKind.u8 0, Value.int IntKind.u8 0, Value.int IntKind.u8 0, Value.int IntKind.u8 0, Value.int IntKind.u8 0, Value.int IntKind.u8 0, Value.int IntKind.u8 0, Value.int IntKind.u8 0, Value.int IntKind.u8 0, Value.int IntKind.u8 0, Value.int IntKind.u8 0, Value.int IntKind.u8 0, Value.int IntKind.u8 0, Value.int IntKind.u8 0, Value.int IntKind.u8 0, Value.int IntKind.u8 0, Value.int IntKind.u8 0, Value.int IntKind.u8 0, Value.int IntKind.u8 0, Value.int IntKind.u8 0, Value.int IntKind.u8 0, Value.int IntKind.u8 0, Value.int IntKind.u8 0, Value.int IntKind.u8 0, Value.int IntKind.u8 0, Value.int IntKind.u8 0, Value.int IntKind.u8 0, Value.int IntKind.u8 0, Value.int IntKind.u8 0, Value.int IntKind.u8 0], rfl, (by repeat (first | (with_reducible refine (heap_drew_at _ _).trans ?_) | (with_reducible refine (heap_drewN_at _ _ _).trans ?_) | (with_reducible refine (heap_alloc_old _ _ ?_).trans ?_; · (simp only [World.size_alloc]; omega)) | (with_reducible refine heap_new2 _ _ _ ?_; simp only [World.size_alloc]; done)))⟩, (by repeat' (first | (with_reducible exact Below.refl _ _) | (with_reducible assumption) | (with_reducible refine below_drewN ?_ _) | (with_reducible refine Below.setCell ?_ ?_ _) | (with_reducible refine Below.alloc ?_ ?_ _) | (with_reducible refine Below.drew ?_) | go_size))⟩
  case rest =>
    obtain ⟨hg2', ⟨old, hold, hg1⟩, hb⟩ := hcut
    have hg2 : wc.heap[w.heap.size + 1 + 1]? = some (.cells (bv (db q)).toArray 129) := hg2'
    clear hg2'
    clear hc0 hc1 hc2 hc3
    have hsz : (bv (db q)).toArray.size = 32 := by simp [bv, db, wb]
    have hone : (bv (db q)).toArray.all (·.oneCell') = true := by simp [bv, db, wb, Value.oneCell']
    go_wp2_with (first | (refine wpList_load_row rfl 129 _ rfl (w.heap.size + 1 + 1) rfl 129 _ _ _ hg2 Tryd.underlying129 rfl (by rw [hsz]; kernel_rfl) ?_) | (refine wpList_store_row rfl 129 _ _ rfl (w.heap.size + 1) _ rfl rfl 129 _ hg1 (by rw [hsz]; kernel_rfl) (by omega) hone ?_))
    exact bodyPost_ret (v := .agg (bv (db q)).toArray) (results_cell_row Tryd.results77 _ _ (w.heap.size + 1) 129 _ _ _ rfl (setRow_heap _ _ _ _ _ _ hg1) Tryd.underlying129 rfl (by rw [hsz]; kernel_rfl)) rfl ⟨rfl, below_setRow hb (by omega) _⟩
end Go.Proofs.YteaaaojafipllaaDoor
