/-
  The law of HashRead, walked.
-/
import Derived.Test.YtjfiafnbmejaeaaWalks25
namespace Go.Proofs.Ytjfiafnbmejaeaa
open Go.RowKit

set_option maxRecDepth 20000 in
set_option maxHeartbeats 2000000 in
theorem lawRead (s : ByteArray) (w : World) (_hs : s.size ≤ maxLen) :
    Calls Try.prog 13 #[.string s] w fun e w' => e = .returned (.bool true) ∧ Below w.heap.size w w' := by
  by_cases hbig : 1048576 < s.size
  · have hb : (1048576 : Int) < (s.size : Int) := by omega
    go_enter Try.func13, Try.ntmps13
    go_wp2_with fail
    go_ret
    exact ⟨rfl, Below.refl _ _⟩
  · have hb : ¬ (1048576 : Int) < (s.size : Int) := by omega
    by_cases hn : s.size = 64
    · have hlen : s.data.toList.length = 2 * 32 := by have : s.size = s.data.size := rfl; simp; omega
      by_cases hall : s.data.toList.all okd = true
      · have hS := fun W : World => hr_spec_yes s W hn
        rw [if_pos hall] at hS
        have hI := fun W : World => hr_impl_good s W hn ((hexs_unb 32 _ hlen).2 hall)
        clear hlen
        clear hn hbig hall
        go_enter Try.func13, Try.ntmps13
        go_wp2_with (first | (go_at_call 29; refine (hS _).mono ?_; rintro e wA ⟨rfl, hbA⟩) | (go_at_call 26; refine (hI _).mono ?_; rintro e wN ⟨rfl, hbN⟩; have hzN := hbN.size; (try simp only [World.size_drew] at hzN); (try simp only [World.size_alloc] at hzN); have fN0 : wN.cell? ⟨wA.heap.size, 0, none⟩ = some (Value.int IntKind.u64 (((bd (unb s.data.toList)).a).toNat : Int)) := (hbN.cell (p := ⟨wA.heap.size, 0, none⟩) (by first | (simp; done) | (simp; omega) | omega)).trans (by (first | ((repeat (first | (with_reducible assumption) | (with_reducible refine c_drew ?_) | (with_reducible refine c_drewN ?_) | (with_reducible refine c_alloc ?_) | (with_reducible refine c_set ?_ (by first | (simp; done) | (simp; omega) | omega)))); done) | (go_simp; done) | (simp [go_sem]; done) | (simp [go_sem, *]; done))); have fN1 : wN.cell? ⟨wA.heap.size, 1, none⟩ = some (Value.int IntKind.u64 (((bd (unb s.data.toList)).b).toNat : Int)) := (hbN.cell (p := ⟨wA.heap.size, 1, none⟩) (by first | (simp; done) | (simp; omega) | omega)).trans (by (first | ((repeat (first | (with_reducible assumption) | (with_reducible refine c_drew ?_) | (with_reducible refine c_drewN ?_) | (with_reducible refine c_alloc ?_) | (with_reducible refine c_set ?_ (by first | (simp; done) | (simp; omega) | omega)))); done) | (go_simp; done) | (simp [go_sem]; done) | (simp [go_sem, *]; done))); have fN2 : wN.cell? ⟨wA.heap.size, 2, none⟩ = some (Value.int IntKind.u64 (((bd (unb s.data.toList)).c).toNat : Int)) := (hbN.cell (p := ⟨wA.heap.size, 2, none⟩) (by first | (simp; done) | (simp; omega) | omega)).trans (by (first | ((repeat (first | (with_reducible assumption) | (with_reducible refine c_drew ?_) | (with_reducible refine c_drewN ?_) | (with_reducible refine c_alloc ?_) | (with_reducible refine c_set ?_ (by first | (simp; done) | (simp; omega) | omega)))); done) | (go_simp; done) | (simp [go_sem]; done) | (simp [go_sem, *]; done))); have fN3 : wN.cell? ⟨wA.heap.size, 3, none⟩ = some (Value.int IntKind.u64 (((bd (unb s.data.toList)).d).toNat : Int)) := (hbN.cell (p := ⟨wA.heap.size, 3, none⟩) (by first | (simp; done) | (simp; omega) | omega)).trans (by (first | ((repeat (first | (with_reducible assumption) | (with_reducible refine c_drew ?_) | (with_reducible refine c_drewN ?_) | (with_reducible refine c_alloc ?_) | (with_reducible refine c_set ?_ (by first | (simp; done) | (simp; omega) | omega)))); done) | (go_simp; done) | (simp [go_sem]; done) | (simp [go_sem, *]; done))); have aN0 := fun O : Obj => c_alloc (o := O) fN0; have aN1 := fun O : Obj => c_alloc (o := O) fN1; have aN2 := fun O : Obj => c_alloc (o := O) fN2; have aN3 := fun O : Obj => c_alloc (o := O) fN3) | (go_at_call 35; refine (eqd_same _ _).mono ?_; rintro e w3 ⟨rfl, hb3⟩))
        have hzA := hbA.size
        have hz3 := hb3.size
        simp only [World.size_alloc] at hz3
        go_ret
        exact ⟨rfl, (by repeat' (first | (with_reducible exact Below.refl _ _) | (with_reducible assumption) | (with_reducible refine below_drewN ?_ _) | (with_reducible refine Below.setCell ?_ ?_ _) | (with_reducible refine Below.alloc ?_ ?_ _) | (with_reducible refine Below.drew ?_) | (with_reducible refine below_setRow ?_ ?_ _) | (with_reducible refine below_after ?_ (by with_reducible assumption) ?_) | go_size))⟩
      · have hS := fun W : World => hr_spec_yes s W hn
        rw [if_neg hall] at hS
        have hI := fun W : World => hr_impl_bad s W hn (fun h => hall ((hexs_unb 32 _ hlen).1 h))
        clear hlen
        clear hn hbig hall
        go_enter Try.func13, Try.ntmps13
        go_wp2_with (first | (go_at_call 29; refine (hS _).mono ?_; rintro e wA ⟨rfl, hbA⟩) | (go_at_call 26; refine (hI _).mono ?_; rintro e wN ⟨rfl, hbN⟩; have hzN := hbN.size; (try simp only [World.size_drew] at hzN); (try simp only [World.size_alloc] at hzN); have fN0 : wN.cell? ⟨wA.heap.size, 0, none⟩ = some (.int .u64 0) := (hbN.cell (p := ⟨wA.heap.size, 0, none⟩) (by first | (simp; done) | (simp; omega) | omega)).trans (by (first | ((repeat (first | (with_reducible assumption) | (with_reducible refine c_drew ?_) | (with_reducible refine c_drewN ?_) | (with_reducible refine c_alloc ?_) | (with_reducible refine c_set ?_ (by first | (simp; done) | (simp; omega) | omega)))); done) | (go_simp; done) | (simp [go_sem]; done) | (simp [go_sem, *]; done))); have fN1 : wN.cell? ⟨wA.heap.size, 1, none⟩ = some (.int .u64 0) := (hbN.cell (p := ⟨wA.heap.size, 1, none⟩) (by first | (simp; done) | (simp; omega) | omega)).trans (by (first | ((repeat (first | (with_reducible assumption) | (with_reducible refine c_drew ?_) | (with_reducible refine c_drewN ?_) | (with_reducible refine c_alloc ?_) | (with_reducible refine c_set ?_ (by first | (simp; done) | (simp; omega) | omega)))); done) | (go_simp; done) | (simp [go_sem]; done) | (simp [go_sem, *]; done))); have fN2 : wN.cell? ⟨wA.heap.size, 2, none⟩ = some (.int .u64 0) := (hbN.cell (p := ⟨wA.heap.size, 2, none⟩) (by first | (simp; done) | (simp; omega) | omega)).trans (by (first | ((repeat (first | (with_reducible assumption) | (with_reducible refine c_drew ?_) | (with_reducible refine c_drewN ?_) | (with_reducible refine c_alloc ?_) | (with_reducible refine c_set ?_ (by first | (simp; done) | (simp; omega) | omega)))); done) | (go_simp; done) | (simp [go_sem]; done) | (simp [go_sem, *]; done))); have fN3 : wN.cell? ⟨wA.heap.size, 3, none⟩ = some (.int .u64 0) := (hbN.cell (p := ⟨wA.heap.size, 3, none⟩) (by first | (simp; done) | (simp; omega) | omega)).trans (by (first | ((repeat (first | (with_reducible assumption) | (with_reducible refine c_drew ?_) | (with_reducible refine c_drewN ?_) | (with_reducible refine c_alloc ?_) | (with_reducible refine c_set ?_ (by first | (simp; done) | (simp; omega) | omega)))); done) | (go_simp; done) | (simp [go_sem]; done) | (simp [go_sem, *]; done))); have aN0 := fun O : Obj => c_alloc (o := O) fN0; have aN1 := fun O : Obj => c_alloc (o := O) fN1; have aN2 := fun O : Obj => c_alloc (o := O) fN2; have aN3 := fun O : Obj => c_alloc (o := O) fN3) | (go_at_call 35; refine (eqd_zero _).mono ?_; rintro e w3 ⟨rfl, hb3⟩))
        have hzA := hbA.size
        have hz3 := hb3.size
        simp only [World.size_alloc] at hz3
        go_ret
        exact ⟨rfl, (by repeat' (first | (with_reducible exact Below.refl _ _) | (with_reducible assumption) | (with_reducible refine below_drewN ?_ _) | (with_reducible refine Below.setCell ?_ ?_ _) | (with_reducible refine Below.alloc ?_ ?_ _) | (with_reducible refine Below.drew ?_) | (with_reducible refine below_setRow ?_ ?_ _) | (with_reducible refine below_after ?_ (by with_reducible assumption) ?_) | go_size))⟩
    · have HN : Hid (s.size ≠ 64) := hn
      clear hn hbig
      go_enter Try.func13, Try.ntmps13
      go_wp2_with (first | (go_at_call 29; refine (hr_spec_no s _ HN.out).mono ?_; rintro e wA ⟨rfl, hbA⟩) | (go_at_call 26; refine (hr_impl_no s _ HN.out).mono ?_; rintro e wN ⟨rfl, hbN⟩; have hzN := hbN.size; (try simp only [World.size_drew] at hzN); (try simp only [World.size_alloc] at hzN); have fN0 : wN.cell? ⟨wA.heap.size, 0, none⟩ = some (.int .u64 0) := (hbN.cell (p := ⟨wA.heap.size, 0, none⟩) (by first | (simp; done) | (simp; omega) | omega)).trans (by (first | ((repeat (first | (with_reducible assumption) | (with_reducible refine c_drew ?_) | (with_reducible refine c_drewN ?_) | (with_reducible refine c_alloc ?_) | (with_reducible refine c_set ?_ (by first | (simp; done) | (simp; omega) | omega)))); done) | (go_simp; done) | (simp [go_sem]; done) | (simp [go_sem, *]; done))); have fN1 : wN.cell? ⟨wA.heap.size, 1, none⟩ = some (.int .u64 0) := (hbN.cell (p := ⟨wA.heap.size, 1, none⟩) (by first | (simp; done) | (simp; omega) | omega)).trans (by (first | ((repeat (first | (with_reducible assumption) | (with_reducible refine c_drew ?_) | (with_reducible refine c_drewN ?_) | (with_reducible refine c_alloc ?_) | (with_reducible refine c_set ?_ (by first | (simp; done) | (simp; omega) | omega)))); done) | (go_simp; done) | (simp [go_sem]; done) | (simp [go_sem, *]; done))); have fN2 : wN.cell? ⟨wA.heap.size, 2, none⟩ = some (.int .u64 0) := (hbN.cell (p := ⟨wA.heap.size, 2, none⟩) (by first | (simp; done) | (simp; omega) | omega)).trans (by (first | ((repeat (first | (with_reducible assumption) | (with_reducible refine c_drew ?_) | (with_reducible refine c_drewN ?_) | (with_reducible refine c_alloc ?_) | (with_reducible refine c_set ?_ (by first | (simp; done) | (simp; omega) | omega)))); done) | (go_simp; done) | (simp [go_sem]; done) | (simp [go_sem, *]; done))); have fN3 : wN.cell? ⟨wA.heap.size, 3, none⟩ = some (.int .u64 0) := (hbN.cell (p := ⟨wA.heap.size, 3, none⟩) (by first | (simp; done) | (simp; omega) | omega)).trans (by (first | ((repeat (first | (with_reducible assumption) | (with_reducible refine c_drew ?_) | (with_reducible refine c_drewN ?_) | (with_reducible refine c_alloc ?_) | (with_reducible refine c_set ?_ (by first | (simp; done) | (simp; omega) | omega)))); done) | (go_simp; done) | (simp [go_sem]; done) | (simp [go_sem, *]; done))); have aN0 := fun O : Obj => c_alloc (o := O) fN0; have aN1 := fun O : Obj => c_alloc (o := O) fN1; have aN2 := fun O : Obj => c_alloc (o := O) fN2; have aN3 := fun O : Obj => c_alloc (o := O) fN3) | (go_at_call 35; refine (eqd_zero _).mono ?_; rintro e w3 ⟨rfl, hb3⟩))
      have hzA := hbA.size
      have hz3 := hb3.size
      simp only [World.size_alloc] at hz3
      go_ret
      exact ⟨rfl, (by repeat' (first | (with_reducible exact Below.refl _ _) | (with_reducible assumption) | (with_reducible refine below_drewN ?_ _) | (with_reducible refine Below.setCell ?_ ?_ _) | (with_reducible refine Below.alloc ?_ ?_ _) | (with_reducible refine Below.drew ?_) | (with_reducible refine below_setRow ?_ ?_ _) | (with_reducible refine below_after ?_ (by with_reducible assumption) ?_) | go_size))⟩
end Go.Proofs.Ytjfiafnbmejaeaa
