/-
  ClashOk of the program.
-/
import Derived.Test.YtjfiafnbmejaeaaRows
import Derived.Test.YtjfiafnbmejaeaaPlain2
import Derived.Test.YtjfiafnbmejaeaaKit5
import Derived.Deep.QuietTactic
import Derived.BigQuiet
import Derived.Deep.RegionWith
import Derived.Deep.RegionHeld3
import Derived.Deep.CutRange
import Derived.Deep.DeepCutAuto
import Derived.Deep.CutBlock
import Derived.Laws.Tables
import Derived.Test.YtjfiafnbmejaeaaLawLeaf
namespace Go.Proofs.Ytjfiafnbmejaeaa
open Go.RowKit

set_option maxRecDepth 100000 in
set_option maxHeartbeats 1000000 in
theorem ck_impl_l (a b : ByteArray) (w : World) (h : 20000 < a.size) :
    Calls Try.prog 32 #[.agg #[.string a, .string b]] w fun e w' => e = .returned (.bool false) ∧ Below w.heap.size w w' := by
  have h1 : ¬ (a.size : Int) ≤ 20000 := by omega
  have h2 : (20000 : Int) < (a.size : Int) := by omega
  have h7 : decide ((20000 : Int) < (a.size : Int)) = true := by simp; omega
  go_enter Try.func32, Try.ntmps32
  go_wp2_with fail
  go_ret
  exact ⟨rfl, (by repeat' (first | (with_reducible exact Below.refl _ _) | (with_reducible assumption) | (with_reducible refine below_drewN ?_ _) | (with_reducible refine Below.setCell ?_ ?_ _) | (with_reducible refine Below.alloc ?_ ?_ _) | (with_reducible refine Below.drew ?_) | go_size))⟩

set_option maxRecDepth 100000 in
set_option maxHeartbeats 1000000 in
theorem ck_impl_r (a b : ByteArray) (w : World) (h : a.size ≤ 20000) (h' : 20000 < b.size) :
    Calls Try.prog 32 #[.agg #[.string a, .string b]] w fun e w' => e = .returned (.bool false) ∧ Below w.heap.size w w' := by
  have h1 : (a.size : Int) ≤ 20000 := by omega
  have h2 : decide ((a.size : Int) ≤ 20000) = true := by simp; omega
  have h3 : ¬ (b.size : Int) ≤ 20000 := by omega
  have h5 : (20000 : Int) < (b.size : Int) := by omega
  have h7 : decide ((20000 : Int) < (a.size : Int)) = false := by simp; omega
  have h8 : decide ((20000 : Int) < (b.size : Int)) = true := by simp; omega
  go_enter Try.func32, Try.ntmps32
  go_wp2_with fail
  go_ret
  exact ⟨rfl, (by repeat' (first | (with_reducible exact Below.refl _ _) | (with_reducible assumption) | (with_reducible refine below_drewN ?_ _) | (with_reducible refine Below.setCell ?_ ?_ _) | (with_reducible refine Below.alloc ?_ ?_ _) | (with_reducible refine Below.drew ?_) | go_size))⟩

set_option maxRecDepth 100000 in
set_option maxHeartbeats 1000000 in
theorem ck_impl_e (a b : ByteArray) (w : World) (h : a.size ≤ 20000) (h' : b.size ≤ 20000) (h6 : (a.toList == b.toList) = true) :
    Calls Try.prog 32 #[.agg #[.string a, .string b]] w fun e w' => e = .returned (.bool false) ∧ Below w.heap.size w w' := by
  have h1 : (a.size : Int) ≤ 20000 := by omega
  have h2 : decide ((a.size : Int) ≤ 20000) = true := by simp; omega
  have h3 : (b.size : Int) ≤ 20000 := by omega
  have h4 : decide ((b.size : Int) ≤ 20000) = true := by simp; omega
  have h7 : decide ((20000 : Int) < (a.size : Int)) = false := by simp; omega
  have h8 : decide ((20000 : Int) < (b.size : Int)) = false := by simp; omega
  go_enter Try.func32, Try.ntmps32
  go_wp2_with fail
  go_quiet (fail)
  go_wp2_with fail
  go_ret
  exact ⟨rfl, (by repeat' (first | (with_reducible exact Below.refl _ _) | (with_reducible assumption) | (with_reducible refine below_drewN ?_ _) | (with_reducible refine Below.setCell ?_ ?_ _) | (with_reducible refine Below.alloc ?_ ?_ _) | (with_reducible refine Below.drew ?_) | go_size))⟩

set_option maxRecDepth 100000 in
set_option maxHeartbeats 2000000 in
theorem ck_impl_0 (a b : ByteArray) (w : World) (h : a.size ≤ 20000) (h' : b.size ≤ 20000) (h6 : (a.toList == b.toList) = false) (e0 : (dg a).a ≠ (dg b).a) :
    Calls Try.prog 32 #[.agg #[.string a, .string b]] w fun e w' => e = .returned (.bool false) ∧ Below w.heap.size w w' := by
  have h1 : (a.size : Int) ≤ 20000 := by omega
  have h2 : decide ((a.size : Int) ≤ 20000) = true := by simp; omega
  have h3 : (b.size : Int) ≤ 20000 := by omega
  have h4 : decide ((b.size : Int) ≤ 20000) = true := by simp; omega
  have h7 : decide ((20000 : Int) < (a.size : Int)) = false := by simp; omega
  have h8 : decide ((20000 : Int) < (b.size : Int)) = false := by simp; omega
  have i0 : ((((dg a).a.toNat : Nat) : Int) == (((dg b).a.toNat : Nat) : Int)) = false := by rw [beq_eq_false_iff_ne]; intro e; exact e0 (UInt64.toNat.inj (by omega))
  have n0 : ((dg a).a.toNat == (dg b).a.toNat) = false := by rw [beq_eq_false_iff_ne]; intro e; exact e0 (UInt64.toNat.inj e)
  clear h h' e0
  go_enter Try.func32, Try.ntmps32
  go_wp2_with fail
  go_region_held3 (fun w' => w'.cell? ⟨w.heap.size, 0, none⟩ = some (Value.string a) ∧ w'.cell? ⟨w.heap.size, 1, none⟩ = some (Value.string b)) ((refine ⟨?_, ?_⟩ <;> (first | ((repeat (first | (with_reducible assumption) | (with_reducible refine c_drew ?_) | (with_reducible refine c_drewN ?_) | (with_reducible refine c_alloc ?_) | (with_reducible refine c_set ?_ (by first | (simp; done) | (simp; omega) | omega)))); done) | (go_simp; done) | (simp [go_sem]; done) | (simp [go_sem, *]; done)))) (first
      | (go_at_call 22; refine (ho_impl_all _ _).mono ?_; rintro e wN ⟨rfl, hbN⟩; have hzN := hbN.size; (try simp only [World.size_drew] at hzN); (try simp only [World.size_alloc] at hzN); have fN0 : wN.cell? ⟨w.heap.size, 0, none⟩ = some (Value.string a) := (hbN.cell (p := ⟨w.heap.size, 0, none⟩) (by first | (simp; done) | (simp; omega) | omega)).trans (by (first | ((repeat (first | (with_reducible assumption) | (with_reducible refine c_drew ?_) | (with_reducible refine c_drewN ?_) | (with_reducible refine c_alloc ?_) | (with_reducible refine c_set ?_ (by first | (simp; done) | (simp; omega) | omega)))); done) | (go_simp; done) | (simp [go_sem]; done) | (simp [go_sem, *]; done))); have fN1 : wN.cell? ⟨w.heap.size, 1, none⟩ = some (Value.string b) := (hbN.cell (p := ⟨w.heap.size, 1, none⟩) (by first | (simp; done) | (simp; omega) | omega)).trans (by (first | ((repeat (first | (with_reducible assumption) | (with_reducible refine c_drew ?_) | (with_reducible refine c_drewN ?_) | (with_reducible refine c_alloc ?_) | (with_reducible refine c_set ?_ (by first | (simp; done) | (simp; omega) | omega)))); done) | (go_simp; done) | (simp [go_sem]; done) | (simp [go_sem, *]; done)))))
  go_wp2_with fail
  go_ret
  exact ⟨rfl, (by repeat' (first | (with_reducible exact Below.refl _ _) | (with_reducible assumption) | (with_reducible refine below_drewN ?_ _) | (with_reducible refine Below.setCell ?_ ?_ _) | (with_reducible refine Below.alloc ?_ ?_ _) | (with_reducible refine Below.drew ?_) | (with_reducible refine below_setRow ?_ ?_ _) | (with_reducible refine below_after ?_ (by with_reducible assumption) ?_) | go_size))⟩

set_option maxRecDepth 100000 in
set_option maxHeartbeats 2000000 in
theorem ck_impl_1 (a b : ByteArray) (w : World) (h : a.size ≤ 20000) (h' : b.size ≤ 20000) (h6 : (a.toList == b.toList) = false) (e0 : (dg a).a = (dg b).a) (e1 : (dg a).b ≠ (dg b).b) :
    Calls Try.prog 32 #[.agg #[.string a, .string b]] w fun e w' => e = .returned (.bool false) ∧ Below w.heap.size w w' := by
  have h1 : (a.size : Int) ≤ 20000 := by omega
  have h2 : decide ((a.size : Int) ≤ 20000) = true := by simp; omega
  have h3 : (b.size : Int) ≤ 20000 := by omega
  have h4 : decide ((b.size : Int) ≤ 20000) = true := by simp; omega
  have h7 : decide ((20000 : Int) < (a.size : Int)) = false := by simp; omega
  have h8 : decide ((20000 : Int) < (b.size : Int)) = false := by simp; omega
  have i0 : ((((dg a).a.toNat : Nat) : Int) == (((dg b).a.toNat : Nat) : Int)) = true := by rw [e0]; exact beq_self_eq_true _
  have n0 : ((dg a).a.toNat == (dg b).a.toNat) = true := by rw [e0]; exact beq_self_eq_true _
  have i1 : ((((dg a).b.toNat : Nat) : Int) == (((dg b).b.toNat : Nat) : Int)) = false := by rw [beq_eq_false_iff_ne]; intro e; exact e1 (UInt64.toNat.inj (by omega))
  have n1 : ((dg a).b.toNat == (dg b).b.toNat) = false := by rw [beq_eq_false_iff_ne]; intro e; exact e1 (UInt64.toNat.inj e)
  clear h h' e0 e1
  go_enter Try.func32, Try.ntmps32
  go_wp2_with fail
  go_region_held3 (fun w' => w'.cell? ⟨w.heap.size, 0, none⟩ = some (Value.string a) ∧ w'.cell? ⟨w.heap.size, 1, none⟩ = some (Value.string b)) ((refine ⟨?_, ?_⟩ <;> (first | ((repeat (first | (with_reducible assumption) | (with_reducible refine c_drew ?_) | (with_reducible refine c_drewN ?_) | (with_reducible refine c_alloc ?_) | (with_reducible refine c_set ?_ (by first | (simp; done) | (simp; omega) | omega)))); done) | (go_simp; done) | (simp [go_sem]; done) | (simp [go_sem, *]; done)))) (first
      | (go_at_call 22; refine (ho_impl_all _ _).mono ?_; rintro e wN ⟨rfl, hbN⟩; have hzN := hbN.size; (try simp only [World.size_drew] at hzN); (try simp only [World.size_alloc] at hzN); have fN0 : wN.cell? ⟨w.heap.size, 0, none⟩ = some (Value.string a) := (hbN.cell (p := ⟨w.heap.size, 0, none⟩) (by first | (simp; done) | (simp; omega) | omega)).trans (by (first | ((repeat (first | (with_reducible assumption) | (with_reducible refine c_drew ?_) | (with_reducible refine c_drewN ?_) | (with_reducible refine c_alloc ?_) | (with_reducible refine c_set ?_ (by first | (simp; done) | (simp; omega) | omega)))); done) | (go_simp; done) | (simp [go_sem]; done) | (simp [go_sem, *]; done))); have fN1 : wN.cell? ⟨w.heap.size, 1, none⟩ = some (Value.string b) := (hbN.cell (p := ⟨w.heap.size, 1, none⟩) (by first | (simp; done) | (simp; omega) | omega)).trans (by (first | ((repeat (first | (with_reducible assumption) | (with_reducible refine c_drew ?_) | (with_reducible refine c_drewN ?_) | (with_reducible refine c_alloc ?_) | (with_reducible refine c_set ?_ (by first | (simp; done) | (simp; omega) | omega)))); done) | (go_simp; done) | (simp [go_sem]; done) | (simp [go_sem, *]; done)))))
  go_wp2_with fail
  go_ret
  exact ⟨rfl, (by repeat' (first | (with_reducible exact Below.refl _ _) | (with_reducible assumption) | (with_reducible refine below_drewN ?_ _) | (with_reducible refine Below.setCell ?_ ?_ _) | (with_reducible refine Below.alloc ?_ ?_ _) | (with_reducible refine Below.drew ?_) | (with_reducible refine below_setRow ?_ ?_ _) | (with_reducible refine below_after ?_ (by with_reducible assumption) ?_) | go_size))⟩

set_option maxRecDepth 100000 in
set_option maxHeartbeats 2000000 in
theorem ck_impl_2 (a b : ByteArray) (w : World) (h : a.size ≤ 20000) (h' : b.size ≤ 20000) (h6 : (a.toList == b.toList) = false) (e0 : (dg a).a = (dg b).a) (e1 : (dg a).b = (dg b).b) (e2 : (dg a).c ≠ (dg b).c) :
    Calls Try.prog 32 #[.agg #[.string a, .string b]] w fun e w' => e = .returned (.bool false) ∧ Below w.heap.size w w' := by
  have h1 : (a.size : Int) ≤ 20000 := by omega
  have h2 : decide ((a.size : Int) ≤ 20000) = true := by simp; omega
  have h3 : (b.size : Int) ≤ 20000 := by omega
  have h4 : decide ((b.size : Int) ≤ 20000) = true := by simp; omega
  have h7 : decide ((20000 : Int) < (a.size : Int)) = false := by simp; omega
  have h8 : decide ((20000 : Int) < (b.size : Int)) = false := by simp; omega
  have i0 : ((((dg a).a.toNat : Nat) : Int) == (((dg b).a.toNat : Nat) : Int)) = true := by rw [e0]; exact beq_self_eq_true _
  have n0 : ((dg a).a.toNat == (dg b).a.toNat) = true := by rw [e0]; exact beq_self_eq_true _
  have i1 : ((((dg a).b.toNat : Nat) : Int) == (((dg b).b.toNat : Nat) : Int)) = true := by rw [e1]; exact beq_self_eq_true _
  have n1 : ((dg a).b.toNat == (dg b).b.toNat) = true := by rw [e1]; exact beq_self_eq_true _
  have i2 : ((((dg a).c.toNat : Nat) : Int) == (((dg b).c.toNat : Nat) : Int)) = false := by rw [beq_eq_false_iff_ne]; intro e; exact e2 (UInt64.toNat.inj (by omega))
  have n2 : ((dg a).c.toNat == (dg b).c.toNat) = false := by rw [beq_eq_false_iff_ne]; intro e; exact e2 (UInt64.toNat.inj e)
  clear h h' e0 e1 e2
  go_enter Try.func32, Try.ntmps32
  go_wp2_with fail
  go_region_held3 (fun w' => w'.cell? ⟨w.heap.size, 0, none⟩ = some (Value.string a) ∧ w'.cell? ⟨w.heap.size, 1, none⟩ = some (Value.string b)) ((refine ⟨?_, ?_⟩ <;> (first | ((repeat (first | (with_reducible assumption) | (with_reducible refine c_drew ?_) | (with_reducible refine c_drewN ?_) | (with_reducible refine c_alloc ?_) | (with_reducible refine c_set ?_ (by first | (simp; done) | (simp; omega) | omega)))); done) | (go_simp; done) | (simp [go_sem]; done) | (simp [go_sem, *]; done)))) (first
      | (go_at_call 22; refine (ho_impl_all _ _).mono ?_; rintro e wN ⟨rfl, hbN⟩; have hzN := hbN.size; (try simp only [World.size_drew] at hzN); (try simp only [World.size_alloc] at hzN); have fN0 : wN.cell? ⟨w.heap.size, 0, none⟩ = some (Value.string a) := (hbN.cell (p := ⟨w.heap.size, 0, none⟩) (by first | (simp; done) | (simp; omega) | omega)).trans (by (first | ((repeat (first | (with_reducible assumption) | (with_reducible refine c_drew ?_) | (with_reducible refine c_drewN ?_) | (with_reducible refine c_alloc ?_) | (with_reducible refine c_set ?_ (by first | (simp; done) | (simp; omega) | omega)))); done) | (go_simp; done) | (simp [go_sem]; done) | (simp [go_sem, *]; done))); have fN1 : wN.cell? ⟨w.heap.size, 1, none⟩ = some (Value.string b) := (hbN.cell (p := ⟨w.heap.size, 1, none⟩) (by first | (simp; done) | (simp; omega) | omega)).trans (by (first | ((repeat (first | (with_reducible assumption) | (with_reducible refine c_drew ?_) | (with_reducible refine c_drewN ?_) | (with_reducible refine c_alloc ?_) | (with_reducible refine c_set ?_ (by first | (simp; done) | (simp; omega) | omega)))); done) | (go_simp; done) | (simp [go_sem]; done) | (simp [go_sem, *]; done)))))
  go_wp2_with fail
  go_ret
  exact ⟨rfl, (by repeat' (first | (with_reducible exact Below.refl _ _) | (with_reducible assumption) | (with_reducible refine below_drewN ?_ _) | (with_reducible refine Below.setCell ?_ ?_ _) | (with_reducible refine Below.alloc ?_ ?_ _) | (with_reducible refine Below.drew ?_) | (with_reducible refine below_setRow ?_ ?_ _) | (with_reducible refine below_after ?_ (by with_reducible assumption) ?_) | go_size))⟩

set_option maxRecDepth 100000 in
set_option maxHeartbeats 2000000 in
theorem ck_impl_3 (a b : ByteArray) (w : World) (h : a.size ≤ 20000) (h' : b.size ≤ 20000) (h6 : (a.toList == b.toList) = false) (e0 : (dg a).a = (dg b).a) (e1 : (dg a).b = (dg b).b) (e2 : (dg a).c = (dg b).c) (e3 : (dg a).d ≠ (dg b).d) :
    Calls Try.prog 32 #[.agg #[.string a, .string b]] w fun e w' => e = .returned (.bool false) ∧ Below w.heap.size w w' := by
  have h1 : (a.size : Int) ≤ 20000 := by omega
  have h2 : decide ((a.size : Int) ≤ 20000) = true := by simp; omega
  have h3 : (b.size : Int) ≤ 20000 := by omega
  have h4 : decide ((b.size : Int) ≤ 20000) = true := by simp; omega
  have h7 : decide ((20000 : Int) < (a.size : Int)) = false := by simp; omega
  have h8 : decide ((20000 : Int) < (b.size : Int)) = false := by simp; omega
  have i0 : ((((dg a).a.toNat : Nat) : Int) == (((dg b).a.toNat : Nat) : Int)) = true := by rw [e0]; exact beq_self_eq_true _
  have n0 : ((dg a).a.toNat == (dg b).a.toNat) = true := by rw [e0]; exact beq_self_eq_true _
  have i1 : ((((dg a).b.toNat : Nat) : Int) == (((dg b).b.toNat : Nat) : Int)) = true := by rw [e1]; exact beq_self_eq_true _
  have n1 : ((dg a).b.toNat == (dg b).b.toNat) = true := by rw [e1]; exact beq_self_eq_true _
  have i2 : ((((dg a).c.toNat : Nat) : Int) == (((dg b).c.toNat : Nat) : Int)) = true := by rw [e2]; exact beq_self_eq_true _
  have n2 : ((dg a).c.toNat == (dg b).c.toNat) = true := by rw [e2]; exact beq_self_eq_true _
  have i3 : ((((dg a).d.toNat : Nat) : Int) == (((dg b).d.toNat : Nat) : Int)) = false := by rw [beq_eq_false_iff_ne]; intro e; exact e3 (UInt64.toNat.inj (by omega))
  have n3 : ((dg a).d.toNat == (dg b).d.toNat) = false := by rw [beq_eq_false_iff_ne]; intro e; exact e3 (UInt64.toNat.inj e)
  clear h h' e0 e1 e2 e3
  go_enter Try.func32, Try.ntmps32
  go_wp2_with fail
  go_region_held3 (fun w' => w'.cell? ⟨w.heap.size, 0, none⟩ = some (Value.string a) ∧ w'.cell? ⟨w.heap.size, 1, none⟩ = some (Value.string b)) ((refine ⟨?_, ?_⟩ <;> (first | ((repeat (first | (with_reducible assumption) | (with_reducible refine c_drew ?_) | (with_reducible refine c_drewN ?_) | (with_reducible refine c_alloc ?_) | (with_reducible refine c_set ?_ (by first | (simp; done) | (simp; omega) | omega)))); done) | (go_simp; done) | (simp [go_sem]; done) | (simp [go_sem, *]; done)))) (first
      | (go_at_call 22; refine (ho_impl_all _ _).mono ?_; rintro e wN ⟨rfl, hbN⟩; have hzN := hbN.size; (try simp only [World.size_drew] at hzN); (try simp only [World.size_alloc] at hzN); have fN0 : wN.cell? ⟨w.heap.size, 0, none⟩ = some (Value.string a) := (hbN.cell (p := ⟨w.heap.size, 0, none⟩) (by first | (simp; done) | (simp; omega) | omega)).trans (by (first | ((repeat (first | (with_reducible assumption) | (with_reducible refine c_drew ?_) | (with_reducible refine c_drewN ?_) | (with_reducible refine c_alloc ?_) | (with_reducible refine c_set ?_ (by first | (simp; done) | (simp; omega) | omega)))); done) | (go_simp; done) | (simp [go_sem]; done) | (simp [go_sem, *]; done))); have fN1 : wN.cell? ⟨w.heap.size, 1, none⟩ = some (Value.string b) := (hbN.cell (p := ⟨w.heap.size, 1, none⟩) (by first | (simp; done) | (simp; omega) | omega)).trans (by (first | ((repeat (first | (with_reducible assumption) | (with_reducible refine c_drew ?_) | (with_reducible refine c_drewN ?_) | (with_reducible refine c_alloc ?_) | (with_reducible refine c_set ?_ (by first | (simp; done) | (simp; omega) | omega)))); done) | (go_simp; done) | (simp [go_sem]; done) | (simp [go_sem, *]; done)))))
  go_wp2_with fail
  go_ret
  exact ⟨rfl, (by repeat' (first | (with_reducible exact Below.refl _ _) | (with_reducible assumption) | (with_reducible refine below_drewN ?_ _) | (with_reducible refine Below.setCell ?_ ?_ _) | (with_reducible refine Below.alloc ?_ ?_ _) | (with_reducible refine Below.drew ?_) | (with_reducible refine below_setRow ?_ ?_ _) | (with_reducible refine below_after ?_ (by with_reducible assumption) ?_) | go_size))⟩

set_option maxRecDepth 100000 in
set_option maxHeartbeats 2000000 in
theorem ck_impl_4 (a b : ByteArray) (w : World) (h : a.size ≤ 20000) (h' : b.size ≤ 20000) (h6 : (a.toList == b.toList) = false) (e0 : (dg a).a = (dg b).a) (e1 : (dg a).b = (dg b).b) (e2 : (dg a).c = (dg b).c) (e3 : (dg a).d = (dg b).d) :
    Calls Try.prog 32 #[.agg #[.string a, .string b]] w fun e w' => e = .returned (.bool true) ∧ Below w.heap.size w w' := by
  have h1 : (a.size : Int) ≤ 20000 := by omega
  have h2 : decide ((a.size : Int) ≤ 20000) = true := by simp; omega
  have h3 : (b.size : Int) ≤ 20000 := by omega
  have h4 : decide ((b.size : Int) ≤ 20000) = true := by simp; omega
  have h7 : decide ((20000 : Int) < (a.size : Int)) = false := by simp; omega
  have h8 : decide ((20000 : Int) < (b.size : Int)) = false := by simp; omega
  have i0 : ((((dg a).a.toNat : Nat) : Int) == (((dg b).a.toNat : Nat) : Int)) = true := by rw [e0]; exact beq_self_eq_true _
  have n0 : ((dg a).a.toNat == (dg b).a.toNat) = true := by rw [e0]; exact beq_self_eq_true _
  have i1 : ((((dg a).b.toNat : Nat) : Int) == (((dg b).b.toNat : Nat) : Int)) = true := by rw [e1]; exact beq_self_eq_true _
  have n1 : ((dg a).b.toNat == (dg b).b.toNat) = true := by rw [e1]; exact beq_self_eq_true _
  have i2 : ((((dg a).c.toNat : Nat) : Int) == (((dg b).c.toNat : Nat) : Int)) = true := by rw [e2]; exact beq_self_eq_true _
  have n2 : ((dg a).c.toNat == (dg b).c.toNat) = true := by rw [e2]; exact beq_self_eq_true _
  have i3 : ((((dg a).d.toNat : Nat) : Int) == (((dg b).d.toNat : Nat) : Int)) = true := by rw [e3]; exact beq_self_eq_true _
  have n3 : ((dg a).d.toNat == (dg b).d.toNat) = true := by rw [e3]; exact beq_self_eq_true _
  clear h h' e0 e1 e2 e3
  go_enter Try.func32, Try.ntmps32
  go_wp2_with fail
  go_region_held3 (fun w' => w'.cell? ⟨w.heap.size, 0, none⟩ = some (Value.string a) ∧ w'.cell? ⟨w.heap.size, 1, none⟩ = some (Value.string b)) ((refine ⟨?_, ?_⟩ <;> (first | ((repeat (first | (with_reducible assumption) | (with_reducible refine c_drew ?_) | (with_reducible refine c_drewN ?_) | (with_reducible refine c_alloc ?_) | (with_reducible refine c_set ?_ (by first | (simp; done) | (simp; omega) | omega)))); done) | (go_simp; done) | (simp [go_sem]; done) | (simp [go_sem, *]; done)))) (first
      | (go_at_call 22; refine (ho_impl_all _ _).mono ?_; rintro e wN ⟨rfl, hbN⟩; have hzN := hbN.size; (try simp only [World.size_drew] at hzN); (try simp only [World.size_alloc] at hzN); have fN0 : wN.cell? ⟨w.heap.size, 0, none⟩ = some (Value.string a) := (hbN.cell (p := ⟨w.heap.size, 0, none⟩) (by first | (simp; done) | (simp; omega) | omega)).trans (by (first | ((repeat (first | (with_reducible assumption) | (with_reducible refine c_drew ?_) | (with_reducible refine c_drewN ?_) | (with_reducible refine c_alloc ?_) | (with_reducible refine c_set ?_ (by first | (simp; done) | (simp; omega) | omega)))); done) | (go_simp; done) | (simp [go_sem]; done) | (simp [go_sem, *]; done))); have fN1 : wN.cell? ⟨w.heap.size, 1, none⟩ = some (Value.string b) := (hbN.cell (p := ⟨w.heap.size, 1, none⟩) (by first | (simp; done) | (simp; omega) | omega)).trans (by (first | ((repeat (first | (with_reducible assumption) | (with_reducible refine c_drew ?_) | (with_reducible refine c_drewN ?_) | (with_reducible refine c_alloc ?_) | (with_reducible refine c_set ?_ (by first | (simp; done) | (simp; omega) | omega)))); done) | (go_simp; done) | (simp [go_sem]; done) | (simp [go_sem, *]; done)))))
  go_wp2_with fail
  go_ret
  exact ⟨rfl, (by repeat' (first | (with_reducible exact Below.refl _ _) | (with_reducible assumption) | (with_reducible refine below_drewN ?_ _) | (with_reducible refine Below.setCell ?_ ?_ _) | (with_reducible refine Below.alloc ?_ ?_ _) | (with_reducible refine Below.drew ?_) | (with_reducible refine below_setRow ?_ ?_ _) | (with_reducible refine below_after ?_ (by with_reducible assumption) ?_) | go_size))⟩

end Go.Proofs.Ytjfiafnbmejaeaa
