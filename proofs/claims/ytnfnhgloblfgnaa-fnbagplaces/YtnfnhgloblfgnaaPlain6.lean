/-
  Bytes in digits of sixteen, and back.
-/
import Derived.Test.YtnfnhgloblfgnaaPlain5
namespace Go.Proofs.Ytnfnhgloblfgnaa
open Go

/-- A digit of sixteen. -/
def hx (n : Nat) : UInt8 := UInt8.ofNat (if n < 10 then 48 + n else 87 + n)
/-- Bytes in digits. -/
def hexs : List UInt8 → List UInt8
  | [] => []
  | x :: l => hx (x.toNat / 16) :: hx (x.toNat % 16) :: hexs l
/-- Whether a sign is a digit; what it tells. -/
def okd (c : UInt8) : Bool := (decide (48 ≤ c.toNat) && decide (c.toNat ≤ 57)) || (decide (97 ≤ c.toNat) && decide (c.toNat ≤ 102))
def dv (c : UInt8) : Nat := if 48 ≤ c.toNat ∧ c.toNat ≤ 57 then c.toNat - 48 else if 97 ≤ c.toNat ∧ c.toNat ≤ 102 then c.toNat - 87 else 0
/-- Digits as bytes, two by two. -/
def unb : List UInt8 → List UInt8
  | x :: y :: l => UInt8.ofNat (16 * dv x + dv y) :: unb l
  | _ => []

theorem dv_lt (c : UInt8) : dv c < 16 := by unfold dv; split; omega; split <;> omega
theorem hx_dv (c : UInt8) : hx (dv c) = c ↔ okd c = true := by
  have h := u8_lt c
  have key : ∀ n, n < 256 → (hx (dv (UInt8.ofNat n)) = UInt8.ofNat n ↔ okd (UInt8.ofNat n) = true) := by decide +kernel
  have := key c.toNat h
  rwa [UInt8.ofNat_toNat] at this
theorem dv_hx (n : Nat) (h : n < 16) : dv (hx n) = n := by
  have key : ∀ n, n < 16 → dv (hx n) = n := by decide +kernel
  exact key n h
theorem okd_hx (n : Nat) (h : n < 16) : okd (hx n) = true := by
  have key : ∀ n, n < 16 → okd (hx n) = true := by decide +kernel
  exact key n h
theorem hexs_length (l : List UInt8) : (hexs l).length = 2 * l.length := by
  induction l with
  | nil => rfl
  | cons x l ih => simp only [hexs, List.length_cons, ih]; omega
theorem hexs_append (k l : List UInt8) : hexs (k ++ l) = hexs k ++ hexs l := by
  induction k with
  | nil => rfl
  | cons x k ih => simp only [List.cons_append, hexs, ih]
theorem pair_div (x y : UInt8) : (UInt8.ofNat (16 * dv x + dv y)).toNat / 16 = dv x ∧ (UInt8.ofNat (16 * dv x + dv y)).toNat % 16 = dv y := by
  have h1 := dv_lt x
  have h2 := dv_lt y
  rw [UInt8.toNat_ofNat']
  omega
theorem unb_hexs (l : List UInt8) : unb (hexs l) = l := by
  induction l with
  | nil => rfl
  | cons x l ih =>
    have h := u8_lt x
    simp only [hexs, unb, ih]
    rw [dv_hx _ (by omega), dv_hx _ (by omega)]
    congr 1
    refine UInt8.toNat.inj ?_
    rw [UInt8.toNat_ofNat']
    omega
/-- Written again, it is the same just if all signs are digits. -/
theorem hexs_unb : ∀ (n : Nat) (l : List UInt8), l.length = 2 * n → (hexs (unb l) = l ↔ l.all okd = true)
  | 0, l, h => by
    have : l = [] := List.length_eq_zero_iff.1 (by omega)
    subst this
    simp [hexs, unb]
  | n + 1, l, h => by
    match l, h with
    | x :: y :: l, h =>
      have ih := hexs_unb n l (by simp at h; omega)
      simp only [unb, hexs, (pair_div x y).1, (pair_div x y).2, List.cons.injEq, List.all_cons, Bool.and_eq_true, ih, hx_dv]
theorem unb_length : ∀ (n : Nat) (l : List UInt8), l.length = 2 * n → (unb l).length = n
  | 0, l, h => by
    have : l = [] := List.length_eq_zero_iff.1 (by omega)
    subst this
    rfl
  | n + 1, l, h => by
    match l, h with
    | x :: y :: l, h =>
      have ih := unb_length n l (by simp at h; omega)
      simp only [unb, List.length_cons, ih]
theorem unb_append : ∀ (n : Nat) (k l : List UInt8), k.length = 2 * n → unb (k ++ l) = unb k ++ unb l
  | 0, k, l, h => by
    have : k = [] := List.length_eq_zero_iff.1 (by omega)
    subst this
    rfl
  | n + 1, k, l, h => by
    match k, h with
    | x :: y :: k, h =>
      have ih := unb_append n k l (by simp at h; omega)
      simp only [List.cons_append, unb, ih]
theorem all_hexs (l : List UInt8) : (hexs l).all okd = true := by
  induction l with
  | nil => rfl
  | cons x l ih =>
    have h := u8_lt x
    simp only [hexs, List.all_cons, ih, Bool.and_true, Bool.and_eq_true]
    exact ⟨okd_hx _ (by omega), okd_hx _ (by omega)⟩
theorem take_two (l : List UInt8) (k : Nat) (h : 2 * k + 1 < l.length) : l.take (2 * (k + 1)) = l.take (2 * k) ++ [l[2 * k], l[2 * k + 1]] := by
  rw [show 2 * (k + 1) = 2 * k + 1 + 1 by omega, List.take_succ_eq_append_getElem h, List.take_succ_eq_append_getElem (by omega), List.append_assoc]
  rfl
theorem unb_take (l : List UInt8) (k : Nat) (h : 2 * k + 1 < l.length) : unb (l.take (2 * (k + 1))) = unb (l.take (2 * k)) ++ [UInt8.ofNat (16 * dv l[2 * k] + dv l[2 * k + 1])] := by
  rw [take_two l k h, unb_append k _ _ (by simp; omega)]
  rfl
theorem hexs_take (l : List UInt8) (k : Nat) (h : k < l.length) : hexs (l.take (k + 1)) = hexs (l.take k) ++ [hx (l[k].toNat / 16), hx (l[k].toNat % 16)] := by
  rw [List.take_succ_eq_append_getElem h, hexs_append]
  rfl
end Go.Proofs.Ytnfnhgloblfgnaa
