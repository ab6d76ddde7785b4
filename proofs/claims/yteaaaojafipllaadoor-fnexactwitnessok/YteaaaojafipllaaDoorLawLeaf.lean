/-
  HashLeaf, on both sides, and its law, walked.
-/
import Derived.Test.YteaaaojafipllaaDoorRows
import Derived.Test.YteaaaojafipllaaDoorJoinB6
import Derived.Test.YteaaaojafipllaaDoorJoinB7
import Derived.Deep.QuietTactic
import Derived.BigQuiet
import Derived.Deep.RegionWith
import Derived.Deep.RegionHeld3
import Derived.Deep.CutRange
import Derived.Deep.DeepCutAuto
import Derived.Deep.CutBlock
import Derived.Laws.Tables
import Derived.Test.YteaaaojafipllaaDoorJoinB20
import Derived.Test.YteaaaojafipllaaDoorWalks11
import Derived.Test.YteaaaojafipllaaDoorWalks15
namespace Go.Proofs.YteaaaojafipllaaDoor
open Go.RowKit

/-- The digest of a text, whatever its size. -/
def dg (s : ByteArray) : Qd := if s.size ≤ 20000 then hashOf (bare s.data.toList) else { a := 0, b := 0, c := 0, d := 0 }
set_option maxRecDepth 100000 in
theorem ho_spec_all (s : ByteArray) (w : World) : Calls Tryd.prog 19 #[.string s] w fun e w' => e = .returned (.agg #[.int .u64 ((dg s).a.toNat : Int), .int .u64 ((dg s).b.toNat : Int), .int .u64 ((dg s).c.toNat : Int), .int .u64 ((dg s).d.toNat : Int)]) ∧ Below w.heap.size w w' := by
  unfold dg
  split
  · exact ho_spec_t s w ‹_›
  · exact ho_spec_big s w (by omega)
set_option maxRecDepth 100000 in
theorem ho_impl_all (s : ByteArray) (w : World) : Calls Tryd.prog 54 #[.string s] w fun e w' => e = .returned (.agg #[.int .u64 ((dg s).a.toNat : Int), .int .u64 ((dg s).b.toNat : Int), .int .u64 ((dg s).c.toNat : Int), .int .u64 ((dg s).d.toNat : Int)]) ∧ Below w.heap.size w w' := by
  unfold dg
  split
  · exact ho_impl s w ‹_›
  · exact ho_impl_big s w (by omega)

set_option maxRecDepth 100000 in
theorem ltext_impl (s z : ByteArray) (w : World) (hz : z = ByteArray.mk #[0] ++ s) (hs : s.size ≤ 1048576) :
    Calls Tryd.prog 59 #[.string s] w fun e w' => e = .returned (.string z) ∧ w' = w := by
  have ha : ∀ W : World, (Op.stringOp .add (ByteArray.mk #[0]) s).run Tryd.prog W = .ok (.string z) W := fun W => by rw [hz]; exact run_string_add_sum W _ _ (by show 1 + s.size ≤ _; omega)
  clear hz
  go_enter Tryd.func59, Tryd.ntmps59
  go_wp2
  go_ret
  exact ⟨rfl, rfl⟩

set_option maxRecDepth 100000 in
set_option maxHeartbeats 1000000 in
theorem hl_impl (s : ByteArray) (w : World) (hs : s.size ≤ 1048576) :
    Calls Tryd.prog 52 #[.string s] w fun e w' => e = .returned (.agg #[.int .u64 ((dg (ByteArray.mk #[0] ++ s)).a.toNat : Int), .int .u64 ((dg (ByteArray.mk #[0] ++ s)).b.toNat : Int), .int .u64 ((dg (ByteArray.mk #[0] ++ s)).c.toNat : Int), .int .u64 ((dg (ByteArray.mk #[0] ++ s)).d.toNat : Int)]) ∧ Below w.heap.size w w' := by
  have ha : ∀ W : World, (Op.stringOp .add (ByteArray.mk #[0]) s).run Tryd.prog W = .ok (.string (ByteArray.mk #[0] ++ s)) W := fun W => run_string_add_sum W _ _ (by show 1 + s.size ≤ _; omega)
  obtain ⟨z, hz⟩ : ∃ z : ByteArray, z = ByteArray.mk #[0] ++ s := ⟨_, rfl⟩
  have HZ : Hid (z = ByteArray.mk #[0] ++ s) := hz
  rw [← hz] at ha
  rw [← hz]
  clear hz
  go_enter Tryd.func52, Tryd.ntmps52
  go_wp2_with (first | (go_at_call 59; refine (ltext_impl s z _ HZ.out (by omega)).mono ?_; rintro e w0 ⟨rfl, rfl⟩) | (go_at_call 54; refine (ho_impl_all z _).mono ?_; rintro e wN ⟨rfl, hbN⟩; have hzN := hbN.size; (try simp only [World.size_drew] at hzN); (try simp only [World.size_alloc] at hzN); have fN0 : wN.cell? ⟨w.heap.size, 0, none⟩ = some (.int .u64 0) := (hbN.cell (p := ⟨w.heap.size, 0, none⟩) (by first | (simp; done) | (simp; omega) | omega)).trans (by (first | ((repeat (first | (with_reducible assumption) | (with_reducible refine c_drew ?_) | (with_reducible refine c_drewN ?_) | (with_reducible refine c_alloc ?_) | (with_reducible refine c_set ?_ (by first | (simp; done) | (simp; omega) | omega)))); done) | (go_simp; done) | (simp [go_sem]; done) | (simp [go_sem, *]; done))); have fN1 : wN.cell? ⟨w.heap.size, 1, none⟩ = some (.int .u64 0) := (hbN.cell (p := ⟨w.heap.size, 1, none⟩) (by first | (simp; done) | (simp; omega) | omega)).trans (by (first | ((repeat (first | (with_reducible assumption) | (with_reducible refine c_drew ?_) | (with_reducible refine c_drewN ?_) | (with_reducible refine c_alloc ?_) | (with_reducible refine c_set ?_ (by first | (simp; done) | (simp; omega) | omega)))); done) | (go_simp; done) | (simp [go_sem]; done) | (simp [go_sem, *]; done))); have fN2 : wN.cell? ⟨w.heap.size, 2, none⟩ = some (.int .u64 0) := (hbN.cell (p := ⟨w.heap.size, 2, none⟩) (by first | (simp; done) | (simp; omega) | omega)).trans (by (first | ((repeat (first | (with_reducible assumption) | (with_reducible refine c_drew ?_) | (with_reducible refine c_drewN ?_) | (with_reducible refine c_alloc ?_) | (with_reducible refine c_set ?_ (by first | (simp; done) | (simp; omega) | omega)))); done) | (go_simp; done) | (simp [go_sem]; done) | (simp [go_sem, *]; done))); have fN3 : wN.cell? ⟨w.heap.size, 3, none⟩ = some (.int .u64 0) := (hbN.cell (p := ⟨w.heap.size, 3, none⟩) (by first | (simp; done) | (simp; omega) | omega)).trans (by (first | ((repeat (first | (with_reducible assumption) | (with_reducible refine c_drew ?_) | (with_reducible refine c_drewN ?_) | (with_reducible refine c_alloc ?_) | (with_reducible refine c_set ?_ (by first | (simp; done) | (simp; omega) | omega)))); done) | (go_simp; done) | (simp [go_sem]; done) | (simp [go_sem, *]; done))); have gN0 : wN.frozen? ⟨w.heap.size, 0, none⟩ = false := (hbN.frozen (p := ⟨w.heap.size, 0, none⟩) (by first | (simp; done) | (simp; omega) | omega)).trans (by first | (simp [go_sem]; done) | (go_simp; done) | (simp [go_sem, *]; done)); have gN1 : wN.frozen? ⟨w.heap.size, 1, none⟩ = false := (hbN.frozen (p := ⟨w.heap.size, 1, none⟩) (by first | (simp; done) | (simp; omega) | omega)).trans (by first | (simp [go_sem]; done) | (go_simp; done) | (simp [go_sem, *]; done)); have gN2 : wN.frozen? ⟨w.heap.size, 2, none⟩ = false := (hbN.frozen (p := ⟨w.heap.size, 2, none⟩) (by first | (simp; done) | (simp; omega) | omega)).trans (by first | (simp [go_sem]; done) | (go_simp; done) | (simp [go_sem, *]; done)); have gN3 : wN.frozen? ⟨w.heap.size, 3, none⟩ = false := (hbN.frozen (p := ⟨w.heap.size, 3, none⟩) (by first | (simp; done) | (simp; omega) | omega)).trans (by first | (simp [go_sem]; done) | (go_simp; done) | (simp [go_sem, *]; done))))
  obtain ⟨q0, q1, q2, q3⟩ := four_set (w := wN) (b := w.heap.size) (x0 := Value.int IntKind.u64 (((dg z).a).toNat : Int)) (x1 := Value.int IntKind.u64 (((dg z).b).toNat : Int)) (x2 := Value.int IntKind.u64 (((dg z).c).toNat : Int)) (x3 := Value.int IntKind.u64 (((dg z).d).toNat : Int)) (fun i hi => by
    have hi' : i = 0 ∨ i = 1 ∨ i = 2 ∨ i = 3 := by omega
    rcases hi' with rfl | rfl | rfl | rfl
    · rw [fN0]; rfl
    · rw [fN1]; rfl
    · rw [fN2]; rfl
    · rw [fN3]; rfl)
  refine bodyPost_ret (v := .agg #[.int .u64 ((dg z).a.toNat : Int), .int .u64 ((dg z).b.toNat : Int), .int .u64 ((dg z).c.toNat : Int), .int .u64 ((dg z).d.toNat : Int)]) (by simp [results, Tryd.results52, go_sem, q0, q1, q2, q3]) rfl ⟨rfl, ?_⟩
  have hBN : Below w.heap.size w wN := below_after ((Below.refl _ _).alloc (Nat.le_refl _) _) hbN (by simp)
  repeat' (first | (with_reducible exact hBN) | (with_reducible refine Below.setCell ?_ ?_ _) | go_size)

end Go.Proofs.YteaaaojafipllaaDoor
