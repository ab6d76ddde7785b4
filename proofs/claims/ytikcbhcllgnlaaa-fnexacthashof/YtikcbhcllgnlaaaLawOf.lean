/-
  The law of HashOf, walked.
-/
import Derived.Test.YtikcbhcllgnlaaaRows
import Derived.Test.YtikcbhcllgnlaaaPlain2
import Derived.Test.YtikcbhcllgnlaaaKit5
import Derived.Deep.QuietTactic
import Derived.BigQuiet
import Derived.Deep.RegionWith
import Derived.Deep.RegionHeld3
import Derived.Deep.CutRange
import Derived.Deep.DeepCutAuto
import Derived.Deep.CutBlock
import Derived.Laws.Tables
import Derived.Test.YtikcbhcllgnlaaaWalks9
import Derived.Test.YtikcbhcllgnlaaaWalks11
import Derived.Test.YtikcbhcllgnlaaaWalks15
namespace Go.Proofs.Ytikcbhcllgnlaaa
open Go.RowKit

set_option maxHeartbeats 2000000 in
theorem lawOf (s : ByteArray) (w : World) (_hs : s.size ≤ maxLen) :
    Calls Try.prog 7 #[.string s] w fun e w' => e = .returned (.bool true) ∧ Below w.heap.size w w' := by
  by_cases hbig : 1048576 < s.size
  · have hb : (1048576 : Int) < (s.size : Int) := by omega
    go_enter Try.func7, Try.ntmps7
    go_wp2_with fail
    go_ret
    exact ⟨rfl, Below.refl _ _⟩
  · have hb : ¬ (1048576 : Int) < (s.size : Int) := by omega
    by_cases hn : s.size ≤ 20000
    · have HN : Hid (s.size ≤ 20000) := hn
      clear hn hbig
      go_enter Try.func7, Try.ntmps7
      go_wp2_with (first | (go_at_call 36; refine (ho_spec_t s _ HN.out).mono ?_; rintro e wA ⟨rfl, hbA⟩) | (go_at_call 22; refine (ho_impl s _ HN.out).mono ?_; rintro e wN ⟨rfl, hbN⟩; have hzN := hbN.size; (try simp only [World.size_drew] at hzN); (try simp only [World.size_alloc] at hzN); have fN0 : wN.cell? ⟨wA.heap.size, 0, none⟩ = some (Value.int IntKind.u64 (((hashOf (bare s.data.toList)).a).toNat : Int)) := (hbN.cell (p := ⟨wA.heap.size, 0, none⟩) (by first | (simp; done) | (simp; omega) | omega)).trans (by (first | ((repeat (first | (with_reducible assumption) | (with_reducible refine c_drew ?_) | (with_reducible refine c_drewN ?_) | (with_reducible refine c_alloc ?_) | (with_reducible refine c_set ?_ (by first | (simp; done) | (simp; omega) | omega)))); done) | (go_simp; done) | (simp [go_sem]; done) | (simp [go_sem, *]; done))); have fN1 : wN.cell? ⟨wA.heap.size, 1, none⟩ = some (Value.int IntKind.u64 (((hashOf (bare s.data.toList)).b).toNat : Int)) := (hbN.cell (p := ⟨wA.heap.size, 1, none⟩) (by first | (simp; done) | (simp; omega) | omega)).trans (by (first | ((repeat (first | (with_reducible assumption) | (with_reducible refine c_drew ?_) | (with_reducible refine c_drewN ?_) | (with_reducible refine c_alloc ?_) | (with_reducible refine c_set ?_ (by first | (simp; done) | (simp; omega) | omega)))); done) | (go_simp; done) | (simp [go_sem]; done) | (simp [go_sem, *]; done))); have fN2 : wN.cell? ⟨wA.heap.size, 2, none⟩ = some (Value.int IntKind.u64 (((hashOf (bare s.data.toList)).c).toNat : Int)) := (hbN.cell (p := ⟨wA.heap.size, 2, none⟩) (by first | (simp; done) | (simp; omega) | omega)).trans (by (first | ((repeat (first | (with_reducible assumption) | (with_reducible refine c_drew ?_) | (with_reducible refine c_drewN ?_) | (with_reducible refine c_alloc ?_) | (with_reducible refine c_set ?_ (by first | (simp; done) | (simp; omega) | omega)))); done) | (go_simp; done) | (simp [go_sem]; done) | (simp [go_sem, *]; done))); have fN3 : wN.cell? ⟨wA.heap.size, 3, none⟩ = some (Value.int IntKind.u64 (((hashOf (bare s.data.toList)).d).toNat : Int)) := (hbN.cell (p := ⟨wA.heap.size, 3, none⟩) (by first | (simp; done) | (simp; omega) | omega)).trans (by (first | ((repeat (first | (with_reducible assumption) | (with_reducible refine c_drew ?_) | (with_reducible refine c_drewN ?_) | (with_reducible refine c_alloc ?_) | (with_reducible refine c_set ?_ (by first | (simp; done) | (simp; omega) | omega)))); done) | (go_simp; done) | (simp [go_sem]; done) | (simp [go_sem, *]; done))); have aN0 := fun O : Obj => c_alloc (o := O) fN0; have aN1 := fun O : Obj => c_alloc (o := O) fN1; have aN2 := fun O : Obj => c_alloc (o := O) fN2; have aN3 := fun O : Obj => c_alloc (o := O) fN3) | (go_at_call 35; refine (eqd_same _ _).mono ?_; rintro e w3 ⟨rfl, hb3⟩))
      have hzA := hbA.size
      have hz3 := hb3.size
      simp only [World.size_alloc] at hz3
      go_ret
      exact ⟨rfl, (by repeat' (first | (with_reducible exact Below.refl _ _) | (with_reducible assumption) | (with_reducible refine below_drewN ?_ _) | (with_reducible refine Below.setCell ?_ ?_ _) | (with_reducible refine Below.alloc ?_ ?_ _) | (with_reducible refine Below.drew ?_) | (with_reducible refine below_setRow ?_ ?_ _) | (with_reducible refine below_after ?_ (by with_reducible assumption) ?_) | go_size))⟩
    · have HN : Hid (20000 < s.size) := by show _ < _; omega
      clear hn hbig
      go_enter Try.func7, Try.ntmps7
      go_wp2_with (first | (go_at_call 36; refine (ho_spec_big s _ HN.out).mono ?_; rintro e wA ⟨rfl, hbA⟩) | (go_at_call 22; refine (ho_impl_big s _ HN.out).mono ?_; rintro e wN ⟨rfl, hbN⟩; have hzN := hbN.size; (try simp only [World.size_drew] at hzN); (try simp only [World.size_alloc] at hzN); have fN0 : wN.cell? ⟨wA.heap.size, 0, none⟩ = some (.int .u64 0) := (hbN.cell (p := ⟨wA.heap.size, 0, none⟩) (by first | (simp; done) | (simp; omega) | omega)).trans (by (first | ((repeat (first | (with_reducible assumption) | (with_reducible refine c_drew ?_) | (with_reducible refine c_drewN ?_) | (with_reducible refine c_alloc ?_) | (with_reducible refine c_set ?_ (by first | (simp; done) | (simp; omega) | omega)))); done) | (go_simp; done) | (simp [go_sem]; done) | (simp [go_sem, *]; done))); have fN1 : wN.cell? ⟨wA.heap.size, 1, none⟩ = some (.int .u64 0) := (hbN.cell (p := ⟨wA.heap.size, 1, none⟩) (by first | (simp; done) | (simp; omega) | omega)).trans (by (first | ((repeat (first | (with_reducible assumption) | (with_reducible refine c_drew ?_) | (with_reducible refine c_drewN ?_) | (with_reducible refine c_alloc ?_) | (with_reducible refine c_set ?_ (by first | (simp; done) | (simp; omega) | omega)))); done) | (go_simp; done) | (simp [go_sem]; done) | (simp [go_sem, *]; done))); have fN2 : wN.cell? ⟨wA.heap.size, 2, none⟩ = some (.int .u64 0) := (hbN.cell (p := ⟨wA.heap.size, 2, none⟩) (by first | (simp; done) | (simp; omega) | omega)).trans (by (first | ((repeat (first | (with_reducible assumption) | (with_reducible refine c_drew ?_) | (with_reducible refine c_drewN ?_) | (with_reducible refine c_alloc ?_) | (with_reducible refine c_set ?_ (by first | (simp; done) | (simp; omega) | omega)))); done) | (go_simp; done) | (simp [go_sem]; done) | (simp [go_sem, *]; done))); have fN3 : wN.cell? ⟨wA.heap.size, 3, none⟩ = some (.int .u64 0) := (hbN.cell (p := ⟨wA.heap.size, 3, none⟩) (by first | (simp; done) | (simp; omega) | omega)).trans (by (first | ((repeat (first | (with_reducible assumption) | (with_reducible refine c_drew ?_) | (with_reducible refine c_drewN ?_) | (with_reducible refine c_alloc ?_) | (with_reducible refine c_set ?_ (by first | (simp; done) | (simp; omega) | omega)))); done) | (go_simp; done) | (simp [go_sem]; done) | (simp [go_sem, *]; done))); have aN0 := fun O : Obj => c_alloc (o := O) fN0; have aN1 := fun O : Obj => c_alloc (o := O) fN1; have aN2 := fun O : Obj => c_alloc (o := O) fN2; have aN3 := fun O : Obj => c_alloc (o := O) fN3) | (go_at_call 35; refine (eqd_zero _).mono ?_; rintro e w3 ⟨rfl, hb3⟩))
      have hzA := hbA.size
      have hz3 := hb3.size
      simp only [World.size_alloc] at hz3
      go_ret
      exact ⟨rfl, (by repeat' (first | (with_reducible exact Below.refl _ _) | (with_reducible assumption) | (with_reducible refine below_drewN ?_ _) | (with_reducible refine Below.setCell ?_ ?_ _) | (with_reducible refine Below.alloc ?_ ?_ _) | (with_reducible refine Below.drew ?_) | (with_reducible refine below_setRow ?_ ?_ _) | (with_reducible refine below_after ?_ (by with_reducible assumption) ?_) | go_size))⟩
end Go.Proofs.Ytikcbhcllgnlaaa
