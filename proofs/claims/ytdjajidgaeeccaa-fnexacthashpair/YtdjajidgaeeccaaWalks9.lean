/-
  HashBack, on both sides, and its law, walked.
-/
import Derived.Test.YtdjajidgaeeccaaRows
import Derived.Test.YtdjajidgaeeccaaPlain2
import Derived.Test.YtdjajidgaeeccaaKit5
import Derived.Deep.QuietTactic
import Derived.BigQuiet
import Derived.Deep.RegionWith
import Derived.Deep.RegionHeld3
import Derived.Deep.CutRange
import Derived.Deep.DeepCutAuto
import Derived.Deep.CutBlock
import Derived.Laws.Tables
import Derived.Test.YtdjajidgaeeccaaKit6
import Derived.Test.YtdjajidgaeeccaaWalks2
import Derived.Test.YtdjajidgaeeccaaWalks8
namespace Go.Proofs.Ytdjajidgaeeccaa
open Go.RowKit

set_option maxHeartbeats 1000000 in
theorem hbk_impl_no (s : ByteArray) (w : World) (hn : s.size ≠ 32) :
    Calls Try.prog 15 #[.string s] w fun e w' => e = .returned (.tuple #[.agg #[.int .u64 0, .int .u64 0, .int .u64 0, .int .u64 0], .bool false]) ∧ Below w.heap.size w w' := by
  have hb : (((s.size : Int)) != 32) = true := by rw [bne_iff_ne]; omega
  go_enter Try.func15, Try.ntmps15
  go_wp2
  exact bodyPost_ret (v := .tuple #[.agg #[.int .u64 0, .int .u64 0, .int .u64 0, .int .u64 0], .bool false]) (by simp [results, Try.results15, go_sem]) rfl ⟨rfl, (by repeat' (first | (with_reducible exact Below.refl _ _) | (with_reducible assumption) | (with_reducible refine below_drewN ?_ _) | (with_reducible refine Below.setCell ?_ ?_ _) | (with_reducible refine Below.alloc ?_ ?_ _) | (with_reducible refine Below.drew ?_) | go_size))⟩

theorem eqd_zero (w : World) : Calls Try.prog 29 #[.agg #[.int .u64 0, .int .u64 0, .int .u64 0, .int .u64 0], .agg #[.int .u64 0, .int .u64 0, .int .u64 0, .int .u64 0]] w fun e w' => e = .returned (.bool true) ∧ Below w.heap.size w w' := eqd_same ⟨0, 0, 0, 0⟩ w

theorem info62 : (Try.prog.info? 51).map (·.size) = some 32 := by kernel_rfl

theorem seg_all (s : ByteArray) (n : Nat) (hn : s.size = n) : seg s 0 n = s.data.toList := by
  unfold seg
  have : s.data.size = n := hn
  rw [List.drop_zero, List.take_of_length_le (by simp [this])]

set_option maxHeartbeats 1000000 in
theorem hbk_impl_yes (s : ByteArray) (w : World) (hn : s.size = 32) :
    Calls Try.prog 15 #[.string s] w fun e w' => e = .returned (.tuple #[.agg #[.int .u64 ((bd (seg s 0 32)).a.toNat : Int), .int .u64 ((bd (seg s 0 32)).b.toNat : Int), .int .u64 ((bd (seg s 0 32)).c.toNat : Int), .int .u64 ((bd (seg s 0 32)).d.toNat : Int)], .bool true]) ∧ Below w.heap.size w w' := by
  have hb : (((s.size : Int)) != 32) = false := by rw [hn]; rfl
  have hsd : s.data.toList.length = 32 := by have : s.data.size = 32 := hn; simp [this]
  rw [seg_all s 32 hn]
  have hcp : ∀ (W : World) (ty : TypeId), (Builtin.copy_ #[22, 9] ty #[.slice (some ⟨W.heap.size + 1, 0, none⟩) 32 32, .string s]).run Try.prog ((W.alloc (.cells #[Value.int IntKind.u64 0, Value.int IntKind.u64 0, Value.int IntKind.u64 0, Value.int IntKind.u64 0] 25)).alloc (.cells #[Value.int IntKind.u8 0, Value.int IntKind.u8 0, Value.int IntKind.u8 0, Value.int IntKind.u8 0, Value.int IntKind.u8 0, Value.int IntKind.u8 0, Value.int IntKind.u8 0, Value.int IntKind.u8 0, Value.int IntKind.u8 0, Value.int IntKind.u8 0, Value.int IntKind.u8 0, Value.int IntKind.u8 0, Value.int IntKind.u8 0, Value.int IntKind.u8 0, Value.int IntKind.u8 0, Value.int IntKind.u8 0, Value.int IntKind.u8 0, Value.int IntKind.u8 0, Value.int IntKind.u8 0, Value.int IntKind.u8 0, Value.int IntKind.u8 0, Value.int IntKind.u8 0, Value.int IntKind.u8 0, Value.int IntKind.u8 0, Value.int IntKind.u8 0, Value.int IntKind.u8 0, Value.int IntKind.u8 0, Value.int IntKind.u8 0, Value.int IntKind.u8 0, Value.int IntKind.u8 0, Value.int IntKind.u8 0, Value.int IntKind.u8 0] 51)) = .ok (goInt 32) ((W.alloc (.cells #[Value.int IntKind.u64 0, Value.int IntKind.u64 0, Value.int IntKind.u64 0, Value.int IntKind.u64 0] 25)).alloc (.cells (bv s.data.toList).toArray 51)) := fun W ty => by
    have h := run_copy_str (W.alloc (.cells #[Value.int IntKind.u64 0, Value.int IntKind.u64 0, Value.int IntKind.u64 0, Value.int IntKind.u64 0] 25)) ty 51 #[Value.int IntKind.u8 0, Value.int IntKind.u8 0, Value.int IntKind.u8 0, Value.int IntKind.u8 0, Value.int IntKind.u8 0, Value.int IntKind.u8 0, Value.int IntKind.u8 0, Value.int IntKind.u8 0, Value.int IntKind.u8 0, Value.int IntKind.u8 0, Value.int IntKind.u8 0, Value.int IntKind.u8 0, Value.int IntKind.u8 0, Value.int IntKind.u8 0, Value.int IntKind.u8 0, Value.int IntKind.u8 0, Value.int IntKind.u8 0, Value.int IntKind.u8 0, Value.int IntKind.u8 0, Value.int IntKind.u8 0, Value.int IntKind.u8 0, Value.int IntKind.u8 0, Value.int IntKind.u8 0, Value.int IntKind.u8 0, Value.int IntKind.u8 0, Value.int IntKind.u8 0, Value.int IntKind.u8 0, Value.int IntKind.u8 0, Value.int IntKind.u8 0, Value.int IntKind.u8 0, Value.int IntKind.u8 0, Value.int IntKind.u8 0] s 32 hn rfl
    simp only [World.size_alloc] at h
    exact h
  have hi : (Try.prog.info? 51).map (·.size) = some (bv s.data.toList).toArray.size := by
    have e : (bv s.data.toList).toArray.size = 32 := by simp [bv_length, hsd]
    exact info62.trans (congrArg some e.symm)
  have HI : Hid ((Try.prog.info? 51).map (·.size) = some (bv s.data.toList).toArray.size) := hi
  have HG : Hid (((w.alloc (.cells #[Value.int IntKind.u64 0, Value.int IntKind.u64 0, Value.int IntKind.u64 0, Value.int IntKind.u64 0] 25)).alloc (.cells (bv s.data.toList).toArray 51)).heap[w.heap.size + 1]? = some (.cells (bv s.data.toList).toArray 51)) := heap_new2 _ _ _ (by simp only [World.size_alloc])
  clear hi
  have HN : Hid (s.data.toList.length = 32) := hsd
  clear hn hsd
  go_enter Try.func15, Try.ntmps15
  go_wp2_with (first | (go_at_call 42; refine (dob_any s.data.toList HN.out _).mono ?_; rintro e wN ⟨rfl, hbN⟩; have hzN := hbN.size; (try simp only [World.size_drew] at hzN); (try simp only [World.size_alloc] at hzN); have fN0 : wN.cell? ⟨w.heap.size, 0, none⟩ = some (.int .u64 0) := (hbN.cell (p := ⟨w.heap.size, 0, none⟩) (by first | (simp; done) | (simp; omega) | omega)).trans (by (first | ((repeat (first | (with_reducible assumption) | (with_reducible refine c_drew ?_) | (with_reducible refine c_drewN ?_) | (with_reducible refine c_alloc ?_) | (with_reducible refine c_set ?_ (by first | (simp; done) | (simp; omega) | omega)))); done) | (go_simp; done) | (simp [go_sem]; done) | (simp [go_sem, *]; done))); have fN1 : wN.cell? ⟨w.heap.size, 1, none⟩ = some (.int .u64 0) := (hbN.cell (p := ⟨w.heap.size, 1, none⟩) (by first | (simp; done) | (simp; omega) | omega)).trans (by (first | ((repeat (first | (with_reducible assumption) | (with_reducible refine c_drew ?_) | (with_reducible refine c_drewN ?_) | (with_reducible refine c_alloc ?_) | (with_reducible refine c_set ?_ (by first | (simp; done) | (simp; omega) | omega)))); done) | (go_simp; done) | (simp [go_sem]; done) | (simp [go_sem, *]; done))); have fN2 : wN.cell? ⟨w.heap.size, 2, none⟩ = some (.int .u64 0) := (hbN.cell (p := ⟨w.heap.size, 2, none⟩) (by first | (simp; done) | (simp; omega) | omega)).trans (by (first | ((repeat (first | (with_reducible assumption) | (with_reducible refine c_drew ?_) | (with_reducible refine c_drewN ?_) | (with_reducible refine c_alloc ?_) | (with_reducible refine c_set ?_ (by first | (simp; done) | (simp; omega) | omega)))); done) | (go_simp; done) | (simp [go_sem]; done) | (simp [go_sem, *]; done))); have fN3 : wN.cell? ⟨w.heap.size, 3, none⟩ = some (.int .u64 0) := (hbN.cell (p := ⟨w.heap.size, 3, none⟩) (by first | (simp; done) | (simp; omega) | omega)).trans (by (first | ((repeat (first | (with_reducible assumption) | (with_reducible refine c_drew ?_) | (with_reducible refine c_drewN ?_) | (with_reducible refine c_alloc ?_) | (with_reducible refine c_set ?_ (by first | (simp; done) | (simp; omega) | omega)))); done) | (go_simp; done) | (simp [go_sem]; done) | (simp [go_sem, *]; done))); have gN0 : wN.frozen? ⟨w.heap.size, 0, none⟩ = false := (hbN.frozen (p := ⟨w.heap.size, 0, none⟩) (by first | (simp; done) | (simp; omega) | omega)).trans (by first | (simp [go_sem]; done) | (go_simp; done) | (simp [go_sem, *]; done)); have gN1 : wN.frozen? ⟨w.heap.size, 1, none⟩ = false := (hbN.frozen (p := ⟨w.heap.size, 1, none⟩) (by first | (simp; done) | (simp; omega) | omega)).trans (by first | (simp [go_sem]; done) | (go_simp; done) | (simp [go_sem, *]; done)); have gN2 : wN.frozen? ⟨w.heap.size, 2, none⟩ = false := (hbN.frozen (p := ⟨w.heap.size, 2, none⟩) (by first | (simp; done) | (simp; omega) | omega)).trans (by first | (simp [go_sem]; done) | (go_simp; done) | (simp [go_sem, *]; done)); have gN3 : wN.frozen? ⟨w.heap.size, 3, none⟩ = false := (hbN.frozen (p := ⟨w.heap.size, 3, none⟩) (by first | (simp; done) | (simp; omega) | omega)).trans (by first | (simp [go_sem]; done) | (go_simp; done) | (simp [go_sem, *]; done))) | (refine wpList_load_row rfl 51 _ rfl (w.heap.size + 1) rfl 51 (bv s.data.toList).toArray _ _ HG.out Try.underlying51 rfl HI.out ?_))
  obtain ⟨q0, q1, q2, q3⟩ := four_set (w := wN) (b := w.heap.size) (x0 := Value.int IntKind.u64 (((bd s.data.toList).a).toNat : Int)) (x1 := Value.int IntKind.u64 (((bd s.data.toList).b).toNat : Int)) (x2 := Value.int IntKind.u64 (((bd s.data.toList).c).toNat : Int)) (x3 := Value.int IntKind.u64 (((bd s.data.toList).d).toNat : Int)) (fun i hi => by
    have hi' : i = 0 ∨ i = 1 ∨ i = 2 ∨ i = 3 := by omega
    rcases hi' with rfl | rfl | rfl | rfl
    · rw [fN0]; rfl
    · rw [fN1]; rfl
    · rw [fN2]; rfl
    · rw [fN3]; rfl)
  exact bodyPost_ret (v := .tuple #[.agg #[.int .u64 ((bd s.data.toList).a.toNat : Int), .int .u64 ((bd s.data.toList).b.toNat : Int), .int .u64 ((bd s.data.toList).c.toNat : Int), .int .u64 ((bd s.data.toList).d.toNat : Int)], .bool true]) (by simp [results, Try.results15, go_sem, q0, q1, q2, q3]) rfl ⟨rfl, (by repeat' (first | (with_reducible exact Below.refl _ _) | (with_reducible assumption) | (with_reducible refine below_drewN ?_ _) | (with_reducible refine Below.setCell ?_ ?_ _) | (with_reducible refine Below.alloc ?_ ?_ _) | (with_reducible refine Below.drew ?_) | (with_reducible refine below_setRow ?_ ?_ _) | (with_reducible refine below_after ?_ (by with_reducible assumption) ?_) | go_size))⟩

set_option maxHeartbeats 2000000 in
theorem lawBack (s : ByteArray) (w : World) (_hs : s.size ≤ maxLen) :
    Calls Try.prog 10 #[.string s] w fun e w' => e = .returned (.bool true) ∧ Below w.heap.size w w' := by
  by_cases hbig : 1048576 < s.size
  · have hb : (1048576 : Int) < (s.size : Int) := by omega
    go_enter Try.func10, Try.ntmps10
    go_wp2_with fail
    go_ret
    exact ⟨rfl, Below.refl _ _⟩
  · have hb : ¬ (1048576 : Int) < (s.size : Int) := by omega
    by_cases hn : s.size = 32
    · have HN : Hid (s.size = 32) := hn
      clear hn hbig
      go_enter Try.func10, Try.ntmps10
      go_wp2_with (first | (go_at_call 36; refine (hbk_spec_yes s _ HN.out).mono ?_; rintro e wA ⟨rfl, hbA⟩) | (go_at_call 15; refine (hbk_impl_yes s _ HN.out).mono ?_; rintro e wN ⟨rfl, hbN⟩; have hzN := hbN.size; (try simp only [World.size_drew] at hzN); (try simp only [World.size_alloc] at hzN); have fN0 : wN.cell? ⟨wA.heap.size, 0, none⟩ = some (Value.int IntKind.u64 (((bd (seg s 0 32)).a).toNat : Int)) := (hbN.cell (p := ⟨wA.heap.size, 0, none⟩) (by first | (simp; done) | (simp; omega) | omega)).trans (by (first | ((repeat (first | (with_reducible assumption) | (with_reducible refine c_drew ?_) | (with_reducible refine c_drewN ?_) | (with_reducible refine c_alloc ?_) | (with_reducible refine c_set ?_ (by first | (simp; done) | (simp; omega) | omega)))); done) | (go_simp; done) | (simp [go_sem]; done) | (simp [go_sem, *]; done))); have fN1 : wN.cell? ⟨wA.heap.size, 1, none⟩ = some (Value.int IntKind.u64 (((bd (seg s 0 32)).b).toNat : Int)) := (hbN.cell (p := ⟨wA.heap.size, 1, none⟩) (by first | (simp; done) | (simp; omega) | omega)).trans (by (first | ((repeat (first | (with_reducible assumption) | (with_reducible refine c_drew ?_) | (with_reducible refine c_drewN ?_) | (with_reducible refine c_alloc ?_) | (with_reducible refine c_set ?_ (by first | (simp; done) | (simp; omega) | omega)))); done) | (go_simp; done) | (simp [go_sem]; done) | (simp [go_sem, *]; done))); have fN2 : wN.cell? ⟨wA.heap.size, 2, none⟩ = some (Value.int IntKind.u64 (((bd (seg s 0 32)).c).toNat : Int)) := (hbN.cell (p := ⟨wA.heap.size, 2, none⟩) (by first | (simp; done) | (simp; omega) | omega)).trans (by (first | ((repeat (first | (with_reducible assumption) | (with_reducible refine c_drew ?_) | (with_reducible refine c_drewN ?_) | (with_reducible refine c_alloc ?_) | (with_reducible refine c_set ?_ (by first | (simp; done) | (simp; omega) | omega)))); done) | (go_simp; done) | (simp [go_sem]; done) | (simp [go_sem, *]; done))); have fN3 : wN.cell? ⟨wA.heap.size, 3, none⟩ = some (Value.int IntKind.u64 (((bd (seg s 0 32)).d).toNat : Int)) := (hbN.cell (p := ⟨wA.heap.size, 3, none⟩) (by first | (simp; done) | (simp; omega) | omega)).trans (by (first | ((repeat (first | (with_reducible assumption) | (with_reducible refine c_drew ?_) | (with_reducible refine c_drewN ?_) | (with_reducible refine c_alloc ?_) | (with_reducible refine c_set ?_ (by first | (simp; done) | (simp; omega) | omega)))); done) | (go_simp; done) | (simp [go_sem]; done) | (simp [go_sem, *]; done))); have aN0 := fun O : Obj => c_alloc (o := O) fN0; have aN1 := fun O : Obj => c_alloc (o := O) fN1; have aN2 := fun O : Obj => c_alloc (o := O) fN2; have aN3 := fun O : Obj => c_alloc (o := O) fN3) | (go_at_call 29; refine (eqd_same _ _).mono ?_; rintro e w3 ⟨rfl, hb3⟩))
      have hzA := hbA.size
      have hz3 := hb3.size
      simp only [World.size_alloc] at hz3
      go_ret
      exact ⟨rfl, (by repeat' (first | (with_reducible exact Below.refl _ _) | (with_reducible assumption) | (with_reducible refine below_drewN ?_ _) | (with_reducible refine Below.setCell ?_ ?_ _) | (with_reducible refine Below.alloc ?_ ?_ _) | (with_reducible refine Below.drew ?_) | (with_reducible refine below_setRow ?_ ?_ _) | (with_reducible refine below_after ?_ (by with_reducible assumption) ?_) | go_size))⟩
    · have HN : Hid (s.size ≠ 32) := hn
      clear hn hbig
      go_enter Try.func10, Try.ntmps10
      go_wp2_with (first | (go_at_call 36; refine (hbk_spec_no s _ HN.out).mono ?_; rintro e wA ⟨rfl, hbA⟩) | (go_at_call 15; refine (hbk_impl_no s _ HN.out).mono ?_; rintro e wN ⟨rfl, hbN⟩; have hzN := hbN.size; (try simp only [World.size_drew] at hzN); (try simp only [World.size_alloc] at hzN); have fN0 : wN.cell? ⟨wA.heap.size, 0, none⟩ = some (.int .u64 0) := (hbN.cell (p := ⟨wA.heap.size, 0, none⟩) (by first | (simp; done) | (simp; omega) | omega)).trans (by (first | ((repeat (first | (with_reducible assumption) | (with_reducible refine c_drew ?_) | (with_reducible refine c_drewN ?_) | (with_reducible refine c_alloc ?_) | (with_reducible refine c_set ?_ (by first | (simp; done) | (simp; omega) | omega)))); done) | (go_simp; done) | (simp [go_sem]; done) | (simp [go_sem, *]; done))); have fN1 : wN.cell? ⟨wA.heap.size, 1, none⟩ = some (.int .u64 0) := (hbN.cell (p := ⟨wA.heap.size, 1, none⟩) (by first | (simp; done) | (simp; omega) | omega)).trans (by (first | ((repeat (first | (with_reducible assumption) | (with_reducible refine c_drew ?_) | (with_reducible refine c_drewN ?_) | (with_reducible refine c_alloc ?_) | (with_reducible refine c_set ?_ (by first | (simp; done) | (simp; omega) | omega)))); done) | (go_simp; done) | (simp [go_sem]; done) | (simp [go_sem, *]; done))); have fN2 : wN.cell? ⟨wA.heap.size, 2, none⟩ = some (.int .u64 0) := (hbN.cell (p := ⟨wA.heap.size, 2, none⟩) (by first | (simp; done) | (simp; omega) | omega)).trans (by (first | ((repeat (first | (with_reducible assumption) | (with_reducible refine c_drew ?_) | (with_reducible refine c_drewN ?_) | (with_reducible refine c_alloc ?_) | (with_reducible refine c_set ?_ (by first | (simp; done) | (simp; omega) | omega)))); done) | (go_simp; done) | (simp [go_sem]; done) | (simp [go_sem, *]; done))); have fN3 : wN.cell? ⟨wA.heap.size, 3, none⟩ = some (.int .u64 0) := (hbN.cell (p := ⟨wA.heap.size, 3, none⟩) (by first | (simp; done) | (simp; omega) | omega)).trans (by (first | ((repeat (first | (with_reducible assumption) | (with_reducible refine c_drew ?_) | (with_reducible refine c_drewN ?_) | (with_reducible refine c_alloc ?_) | (with_reducible refine c_set ?_ (by first | (simp; done) | (simp; omega) | omega)))); done) | (go_simp; done) | (simp [go_sem]; done) | (simp [go_sem, *]; done))); have aN0 := fun O : Obj => c_alloc (o := O) fN0; have aN1 := fun O : Obj => c_alloc (o := O) fN1; have aN2 := fun O : Obj => c_alloc (o := O) fN2; have aN3 := fun O : Obj => c_alloc (o := O) fN3) | (go_at_call 29; refine (eqd_zero _).mono ?_; rintro e w3 ⟨rfl, hb3⟩))
      have hzA := hbA.size
      have hz3 := hb3.size
      simp only [World.size_alloc] at hz3
      go_ret
      exact ⟨rfl, (by repeat' (first | (with_reducible exact Below.refl _ _) | (with_reducible assumption) | (with_reducible refine below_drewN ?_ _) | (with_reducible refine Below.setCell ?_ ?_ _) | (with_reducible refine Below.alloc ?_ ?_ _) | (with_reducible refine Below.drew ?_) | (with_reducible refine below_setRow ?_ ?_ _) | (with_reducible refine below_after ?_ (by with_reducible assumption) ?_) | go_size))⟩
end Go.Proofs.Ytdjajidgaeeccaa
