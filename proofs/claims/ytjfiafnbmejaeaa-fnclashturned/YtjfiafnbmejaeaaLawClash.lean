/-
  The law of ClashOk, walked.
-/
import Derived.Test.YtjfiafnbmejaeaaRows
import Derived.Test.YtjfiafnbmejaeaaPlain2
import Derived.Test.YtjfiafnbmejaeaaKit5
import Derived.Deep.QuietTactic
import Derived.BigQuiet
import Derived.Deep.RegionWith
import Derived.Deep.RegionHeld3
import Derived.Deep.CutRange
import Derived.Deep.DeepCutAuto
import Derived.Deep.CutBlock
import Derived.Laws.Tables
import Derived.Test.YtjfiafnbmejaeaaWalks16
import Derived.Test.YtjfiafnbmejaeaaWalks17
namespace Go.Proofs.Ytjfiafnbmejaeaa
open Go.RowKit

/-- When two texts are a clash. -/
def Ck (a b : ByteArray) : Prop := a.size ≤ 20000 ∧ b.size ≤ 20000 ∧ (a.toList == b.toList) = false ∧ (dg a).a = (dg b).a ∧ (dg a).b = (dg b).b ∧ (dg a).c = (dg b).c ∧ (dg a).d = (dg b).d
instance (a b : ByteArray) : Decidable (Ck a b) := by unfold Ck; infer_instance
def ckv (a b : ByteArray) : Bool := decide (Ck a b)
set_option maxRecDepth 100000 in
theorem ckv_no {a b : ByteArray} (h : ¬ Ck a b) : ckv a b = false := decide_eq_false h
set_option maxRecDepth 100000 in
theorem ckv_yes {a b : ByteArray} (h : Ck a b) : ckv a b = true := decide_eq_true h
set_option maxRecDepth 100000 in
theorem ck_spec_all (a b : ByteArray) (w : World) :
    Calls Try.prog 33 #[.agg #[.string a, .string b]] w fun e w' => e = .returned (.bool (ckv a b)) ∧ Below w.heap.size w w' := by
  by_cases h1 : a.size ≤ 20000
  · by_cases h2 : b.size ≤ 20000
    · cases h3 : (a.toList == b.toList) with
      | true => rw [ckv_no (fun h => by rw [h.2.2.1] at h3; cases h3)]; exact ck_spec_e a b w h1 h2 h3
      | false =>
        by_cases e0 : (dg a).a = (dg b).a
        · by_cases e1 : (dg a).b = (dg b).b
          · by_cases e2 : (dg a).c = (dg b).c
            · by_cases e3 : (dg a).d = (dg b).d
              · rw [ckv_yes ⟨h1, h2, h3, e0, e1, e2, e3⟩]; exact ck_spec_4 a b w h1 h2 h3 e0 e1 e2 e3
              · rw [ckv_no (fun h => e3 h.2.2.2.2.2.2)]; exact ck_spec_3 a b w h1 h2 h3 e0 e1 e2 e3
            · rw [ckv_no (fun h => e2 h.2.2.2.2.2.1)]; exact ck_spec_2 a b w h1 h2 h3 e0 e1 e2
          · rw [ckv_no (fun h => e1 h.2.2.2.2.1)]; exact ck_spec_1 a b w h1 h2 h3 e0 e1
        · rw [ckv_no (fun h => e0 h.2.2.2.1)]; exact ck_spec_0 a b w h1 h2 h3 e0
    · rw [ckv_no (fun h => h2 h.2.1)]; exact ck_spec_r a b w h1 (by omega)
  · rw [ckv_no (fun h => h1 h.1)]; exact ck_spec_l a b w (by omega)
set_option maxRecDepth 100000 in
theorem ck_impl_all (a b : ByteArray) (w : World) :
    Calls Try.prog 32 #[.agg #[.string a, .string b]] w fun e w' => e = .returned (.bool (ckv a b)) ∧ Below w.heap.size w w' := by
  by_cases h1 : a.size ≤ 20000
  · by_cases h2 : b.size ≤ 20000
    · cases h3 : (a.toList == b.toList) with
      | true => rw [ckv_no (fun h => by rw [h.2.2.1] at h3; cases h3)]; exact ck_impl_e a b w h1 h2 h3
      | false =>
        by_cases e0 : (dg a).a = (dg b).a
        · by_cases e1 : (dg a).b = (dg b).b
          · by_cases e2 : (dg a).c = (dg b).c
            · by_cases e3 : (dg a).d = (dg b).d
              · rw [ckv_yes ⟨h1, h2, h3, e0, e1, e2, e3⟩]; exact ck_impl_4 a b w h1 h2 h3 e0 e1 e2 e3
              · rw [ckv_no (fun h => e3 h.2.2.2.2.2.2)]; exact ck_impl_3 a b w h1 h2 h3 e0 e1 e2 e3
            · rw [ckv_no (fun h => e2 h.2.2.2.2.2.1)]; exact ck_impl_2 a b w h1 h2 h3 e0 e1 e2
          · rw [ckv_no (fun h => e1 h.2.2.2.2.1)]; exact ck_impl_1 a b w h1 h2 h3 e0 e1
        · rw [ckv_no (fun h => e0 h.2.2.2.1)]; exact ck_impl_0 a b w h1 h2 h3 e0
    · rw [ckv_no (fun h => h2 h.2.1)]; exact ck_impl_r a b w h1 (by omega)
  · rw [ckv_no (fun h => h1 h.1)]; exact ck_impl_l a b w (by omega)

set_option maxRecDepth 100000 in
set_option maxHeartbeats 1000000 in
theorem toC_is (a b : ByteArray) (w : World) :
    Calls Try.prog 45 #[.agg #[.string a, .string b]] w fun e w' => e = .returned (.agg #[.string a, .string b]) ∧ Below w.heap.size w w' := by
  go_enter Try.func45, Try.ntmps45
  go_wp2
  exact bodyPost_ret (v := .agg #[.string a, .string b]) (by simp [results, Try.results45, go_sem]) rfl ⟨rfl, (by repeat' (first | (with_reducible exact Below.refl _ _) | (with_reducible assumption) | (with_reducible refine below_drewN ?_ _) | (with_reducible refine Below.setCell ?_ ?_ _) | (with_reducible refine Below.alloc ?_ ?_ _) | (with_reducible refine Below.drew ?_) | go_size))⟩

set_option maxRecDepth 100000 in
set_option maxHeartbeats 1000000 in
theorem szC_ok (a b : ByteArray) (w : World) (h : a.size + b.size ≤ 1048576) :
    Calls Try.prog 44 #[.agg #[.string a, .string b], .int .i64 1048576] w fun e w' => e = .returned (.int .i64 (1048576 - (a.size : Int) - (b.size : Int))) ∧ Below w.heap.size w w' := by
  have h1 : (a.size : Int) + (b.size : Int) ≤ 1048576 := by omega
  have h2 : ¬ (1048576 : Int) - (a.size : Int) < 0 := by omega
  have h3 : ¬ (1048576 : Int) - (a.size : Int) - (b.size : Int) < 0 := by omega
  have h4 : (0 : Int) ≤ (a.size : Int) := by omega
  have h5 : (0 : Int) ≤ (b.size : Int) := by omega
  go_enter Try.func44, Try.ntmps44
  go_wp2
  go_ret
  exact ⟨rfl, (by repeat' (first | (with_reducible exact Below.refl _ _) | (with_reducible assumption) | (with_reducible refine below_drewN ?_ _) | (with_reducible refine Below.setCell ?_ ?_ _) | (with_reducible refine Below.alloc ?_ ?_ _) | (with_reducible refine Below.drew ?_) | go_size))⟩

set_option maxRecDepth 100000 in
set_option maxHeartbeats 1000000 in
theorem szC_no (a b : ByteArray) (w : World) (ha : a.size ≤ maxLen) (hb : b.size ≤ maxLen) (h : 1048576 < a.size + b.size) :
    Calls Try.prog 44 #[.agg #[.string a, .string b], .int .i64 1048576] w fun e w' => e = .returned (.int .i64 (-1)) ∧ Below w.heap.size w w' := by
  unfold maxLen at ha hb
  have h4 : (0 : Int) ≤ (a.size : Int) := by omega
  have h5 : (0 : Int) ≤ (b.size : Int) := by omega
  by_cases h1 : 1048576 < a.size
  · have h2 : (1048576 : Int) - (a.size : Int) < 0 := by omega
    go_enter Try.func44, Try.ntmps44
    go_wp2
    go_ret
    exact ⟨rfl, (by repeat' (first | (with_reducible exact Below.refl _ _) | (with_reducible assumption) | (with_reducible refine below_drewN ?_ _) | (with_reducible refine Below.setCell ?_ ?_ _) | (with_reducible refine Below.alloc ?_ ?_ _) | (with_reducible refine Below.drew ?_) | go_size))⟩
  · have h2 : ¬ (1048576 : Int) - (a.size : Int) < 0 := by omega
    have h3 : (1048576 : Int) - (a.size : Int) - (b.size : Int) < 0 := by omega
    go_enter Try.func44, Try.ntmps44
    go_wp2
    go_ret
    exact ⟨rfl, (by repeat' (first | (with_reducible exact Below.refl _ _) | (with_reducible assumption) | (with_reducible refine below_drewN ?_ _) | (with_reducible refine Below.setCell ?_ ?_ _) | (with_reducible refine Below.alloc ?_ ?_ _) | (with_reducible refine Below.drew ?_) | go_size))⟩

set_option maxRecDepth 100000 in
set_option maxHeartbeats 2000000 in
theorem lawClash (a b : ByteArray) (w : World) (ha : a.size ≤ maxLen) (hb : b.size ≤ maxLen) :
    Calls Try.prog 14 #[.agg #[.string a, .string b]] w fun e w' => e = .returned (.bool true) ∧ Below w.heap.size w w' := by
  by_cases hbig : 1048576 < a.size + b.size
  · have HN : Hid (1048576 < a.size + b.size) := hbig
    have HA : Hid (a.size ≤ maxLen) := ha
    have HB' : Hid (b.size ≤ maxLen) := hb
    clear hbig ha hb
    go_enter Try.func14, Try.ntmps14
    go_wp2_with (go_at_call 44; refine (szC_no a b _ HA.out HB'.out HN.out).mono ?_; rintro e wA ⟨rfl, hbA⟩)
    go_ret
    have hzA := hbA.size
    simp only [World.size_alloc] at hzA
    exact ⟨rfl, (by repeat' (first | (with_reducible exact Below.refl _ _) | (with_reducible assumption) | (with_reducible refine below_drewN ?_ _) | (with_reducible refine Below.setCell ?_ ?_ _) | (with_reducible refine Below.alloc ?_ ?_ _) | (with_reducible refine Below.drew ?_) | (with_reducible refine below_setRow ?_ ?_ _) | (with_reducible refine below_after ?_ (by with_reducible assumption) ?_) | go_size))⟩
  · have HN : Hid (a.size + b.size ≤ 1048576) := by show _ ≤ _; omega
    have hge : ¬ (1048576 : Int) - (a.size : Int) - (b.size : Int) < 0 := by omega
    clear hbig ha hb
    go_enter Try.func14, Try.ntmps14
    go_wp2_with (first | (go_at_call 44; refine (szC_ok a b _ HN.out).mono ?_; rintro e wX ⟨rfl, hbX⟩; have hzX := hbX.size; (try simp only [World.size_drew] at hzX); (try simp only [World.size_alloc] at hzX); have fX0 : wX.cell? ⟨w.heap.size, 0, none⟩ = some (Value.string a) := (hbX.cell (p := ⟨w.heap.size, 0, none⟩) (by first | (simp; done) | (simp; omega) | omega)).trans (by (first | ((repeat (first | (with_reducible assumption) | (with_reducible refine c_drew ?_) | (with_reducible refine c_drewX ?_) | (with_reducible refine c_alloc ?_) | (with_reducible refine c_set ?_ (by first | (simp; done) | (simp; omega) | omega)))); done) | (go_simp; done) | (simp [go_sem]; done) | (simp [go_sem, *]; done))); have fX1 : wX.cell? ⟨w.heap.size, 1, none⟩ = some (Value.string b) := (hbX.cell (p := ⟨w.heap.size, 1, none⟩) (by first | (simp; done) | (simp; omega) | omega)).trans (by (first | ((repeat (first | (with_reducible assumption) | (with_reducible refine c_drew ?_) | (with_reducible refine c_drewX ?_) | (with_reducible refine c_alloc ?_) | (with_reducible refine c_set ?_ (by first | (simp; done) | (simp; omega) | omega)))); done) | (go_simp; done) | (simp [go_sem]; done) | (simp [go_sem, *]; done)))) | (go_at_call 45; refine (toC_is a b _).mono ?_; rintro e wY ⟨rfl, hbY⟩; have hzY := hbY.size; (try simp only [World.size_drew] at hzY); (try simp only [World.size_alloc] at hzY); have fY0 : wY.cell? ⟨w.heap.size, 0, none⟩ = some (Value.string a) := (hbY.cell (p := ⟨w.heap.size, 0, none⟩) (by first | (simp; done) | (simp; omega) | omega)).trans (by (first | ((repeat (first | (with_reducible assumption) | (with_reducible refine c_drew ?_) | (with_reducible refine c_drewY ?_) | (with_reducible refine c_alloc ?_) | (with_reducible refine c_set ?_ (by first | (simp; done) | (simp; omega) | omega)))); done) | (go_simp; done) | (simp [go_sem]; done) | (simp [go_sem, *]; done))); have fY1 : wY.cell? ⟨w.heap.size, 1, none⟩ = some (Value.string b) := (hbY.cell (p := ⟨w.heap.size, 1, none⟩) (by first | (simp; done) | (simp; omega) | omega)).trans (by (first | ((repeat (first | (with_reducible assumption) | (with_reducible refine c_drew ?_) | (with_reducible refine c_drewY ?_) | (with_reducible refine c_alloc ?_) | (with_reducible refine c_set ?_ (by first | (simp; done) | (simp; omega) | omega)))); done) | (go_simp; done) | (simp [go_sem]; done) | (simp [go_sem, *]; done)))) | (go_at_call 33; refine (ck_spec_all a b _).mono ?_; rintro e wZ ⟨rfl, hbZ⟩; have hzZ := hbZ.size; (try simp only [World.size_drew] at hzZ); (try simp only [World.size_alloc] at hzZ); have fZ0 : wZ.cell? ⟨w.heap.size, 0, none⟩ = some (Value.string a) := (hbZ.cell (p := ⟨w.heap.size, 0, none⟩) (by first | (simp; done) | (simp; omega) | omega)).trans (by (first | ((repeat (first | (with_reducible assumption) | (with_reducible refine c_drew ?_) | (with_reducible refine c_drewZ ?_) | (with_reducible refine c_alloc ?_) | (with_reducible refine c_set ?_ (by first | (simp; done) | (simp; omega) | omega)))); done) | (go_simp; done) | (simp [go_sem]; done) | (simp [go_sem, *]; done))); have fZ1 : wZ.cell? ⟨w.heap.size, 1, none⟩ = some (Value.string b) := (hbZ.cell (p := ⟨w.heap.size, 1, none⟩) (by first | (simp; done) | (simp; omega) | omega)).trans (by (first | ((repeat (first | (with_reducible assumption) | (with_reducible refine c_drew ?_) | (with_reducible refine c_drewZ ?_) | (with_reducible refine c_alloc ?_) | (with_reducible refine c_set ?_ (by first | (simp; done) | (simp; omega) | omega)))); done) | (go_simp; done) | (simp [go_sem]; done) | (simp [go_sem, *]; done)))) | (go_at_call 32; refine (ck_impl_all a b _).mono ?_; rintro e w9 ⟨rfl, hb9⟩))
    have hz9 := hb9.size
    go_ret
    exact ⟨rfl, (by repeat' (first | (with_reducible exact Below.refl _ _) | (with_reducible assumption) | (with_reducible refine below_drewN ?_ _) | (with_reducible refine Below.setCell ?_ ?_ _) | (with_reducible refine Below.alloc ?_ ?_ _) | (with_reducible refine Below.drew ?_) | (with_reducible refine below_setRow ?_ ?_ _) | (with_reducible refine below_after ?_ (by with_reducible assumption) ?_) | go_size))⟩
end Go.Proofs.Ytjfiafnbmejaeaa
