/-
  Bytes in digits of sixteen, and back.
-/
import Derived.Test.YtbmkknbbikoilaaPlain5
import Derived.Test.YtbmkknbbikoilaaRows
import Derived.Test.YtbmkknbbikoilaaJoinB2
import Derived.Deep.QuietTactic
import Derived.BigQuiet
import Derived.Deep.RegionWith
import Derived.Deep.RegionHeld3
import Derived.Deep.CutRange
import Derived.Deep.DeepCutAuto
import Derived.Deep.CutBlock
import Derived.Laws.Tables
import Derived.Test.YtbmkknbbikoilaaWalks14
import Derived.Test.YtbmkknbbikoilaaJoinB14
import Derived.Deep.RegionLaw
namespace Go.Proofs.Ytbmkknbbikoilaa
open Go

/-- A digit of sixteen. -/
def hx (n : Nat) : UInt8 := UInt8.ofNat (if n < 10 then 48 + n else 87 + n)
/-- Bytes in digits. -/
def hexs : List UInt8 → List UInt8
  | [] => []
  | x :: l => hx (x.toNat / 16) :: hx (x.toNat % 16) :: hexs l
/-- Whether a sign is a digit; what it tells. -/
def okd (c : UInt8) : Bool := (decide (48 ≤ c.toNat) && decide (c.toNat ≤ 57)) || (decide (97 ≤ c.toNat) && decide (c.toNat ≤ 102))
def dv (c : UInt8) : Nat := if 48 ≤ c.toNat ∧ c.toNat ≤ 57 then c.toNat - 48 else if 97 ≤ c.toNat ∧ c.toNat ≤ 102 then c.toNat - 87 else 0
/-- Digits as bytes, two by two. -/
def unb : List UInt8 → List UInt8
  | x :: y :: l => UInt8.ofNat (16 * dv x + dv y) :: unb l
  | _ => []

theorem dv_lt (c : UInt8) : dv c < 16 := by unfold dv; split; omega; split <;> omega
theorem hx_dv (c : UInt8) : hx (dv c) = c ↔ okd c = true := by
  have h := u8_lt c
  have key : ∀ n, n < 256 → (hx (dv (UInt8.ofNat n)) = UInt8.ofNat n ↔ okd (UInt8.ofNat n) = true) := by decide +kernel
  have := key c.toNat h
  rwa [UInt8.ofNat_toNat] at this
theorem dv_hx (n : Nat) (h : n < 16) : dv (hx n) = n := by
  have key : ∀ n, n < 16 → dv (hx n) = n := by decide +kernel
  exact key n h
theorem okd_hx (n : Nat) (h : n < 16) : okd (hx n) = true := by
  have key : ∀ n, n < 16 → okd (hx n) = true := by decide +kernel
  exact key n h
theorem hexs_length (l : List UInt8) : (hexs l).length = 2 * l.length := by
  induction l with
  | nil => rfl
  | cons x l ih => simp only [hexs, List.length_cons, ih]; omega
theorem hexs_append (k l : List UInt8) : hexs (k ++ l) = hexs k ++ hexs l := by
  induction k with
  | nil => rfl
  | cons x k ih => simp only [List.cons_append, hexs, ih]
theorem pair_div (x y : UInt8) : (UInt8.ofNat (16 * dv x + dv y)).toNat / 16 = dv x ∧ (UInt8.ofNat (16 * dv x + dv y)).toNat % 16 = dv y := by
  have h1 := dv_lt x
  have h2 := dv_lt y
  rw [UInt8.toNat_ofNat']
  omega
theorem unb_hexs (l : List UInt8) : unb (hexs l) = l := by
  induction l with
  | nil => rfl
  | cons x l ih =>
    have h := u8_lt x
    simp only [hexs, unb, ih]
    rw [dv_hx _ (by omega), dv_hx _ (by omega)]
    congr 1
    refine UInt8.toNat.inj ?_
    rw [UInt8.toNat_ofNat']
    omega
/-- Written again, it is the same just if all signs are digits. -/
theorem hexs_unb : ∀ (n : Nat) (l : List UInt8), l.length = 2 * n → (hexs (unb l) = l ↔ l.all okd = true)
  | 0, l, h => by
    have : l = [] := List.length_eq_zero_iff.1 (by omega)
    subst this
    simp [hexs, unb]
  | n + 1, l, h => by
    match l, h with
    | x :: y :: l, h =>
      have ih := hexs_unb n l (by simp at h; omega)
      simp only [unb, hexs, (pair_div x y).1, (pair_div x y).2, List.cons.injEq, List.all_cons, Bool.and_eq_true, ih, hx_dv]
theorem unb_length : ∀ (n : Nat) (l : List UInt8), l.length = 2 * n → (unb l).length = n
  | 0, l, h => by
    have : l = [] := List.length_eq_zero_iff.1 (by omega)
    subst this
    rfl
  | n + 1, l, h => by
    match l, h with
    | x :: y :: l, h =>
      have ih := unb_length n l (by simp at h; omega)
      simp only [unb, List.length_cons, ih]
theorem unb_append : ∀ (n : Nat) (k l : List UInt8), k.length = 2 * n → unb (k ++ l) = unb k ++ unb l
  | 0, k, l, h => by
    have : k = [] := List.length_eq_zero_iff.1 (by omega)
    subst this
    rfl
  | n + 1, k, l, h => by
    match k, h with
    | x :: y :: k, h =>
      have ih := unb_append n k l (by simp at h; omega)
      simp only [List.cons_append, unb, ih]
theorem all_hexs (l : List UInt8) : (hexs l).all okd = true := by
  induction l with
  | nil => rfl
  | cons x l ih =>
    have h := u8_lt x
    simp only [hexs, List.all_cons, ih, Bool.and_true, Bool.and_eq_true]
    exact ⟨okd_hx _ (by omega), okd_hx _ (by omega)⟩
theorem take_two (l : List UInt8) (k : Nat) (h : 2 * k + 1 < l.length) : l.take (2 * (k + 1)) = l.take (2 * k) ++ [l[2 * k], l[2 * k + 1]] := by
  rw [show 2 * (k + 1) = 2 * k + 1 + 1 by omega, List.take_succ_eq_append_getElem h, List.take_succ_eq_append_getElem (by omega), List.append_assoc]
  rfl
theorem unb_take (l : List UInt8) (k : Nat) (h : 2 * k + 1 < l.length) : unb (l.take (2 * (k + 1))) = unb (l.take (2 * k)) ++ [UInt8.ofNat (16 * dv l[2 * k] + dv l[2 * k + 1])] := by
  rw [take_two l k h, unb_append k _ _ (by simp; omega)]
  rfl
theorem hexs_take (l : List UInt8) (k : Nat) (h : k < l.length) : hexs (l.take (k + 1)) = hexs (l.take k) ++ [hx (l[k].toNat / 16), hx (l[k].toNat % 16)] := by
  rw [List.take_succ_eq_append_getElem h, hexs_append]
  rfl
end Go.Proofs.Ytbmkknbbikoilaa

/-
  l1Hex, digitsOfBytes: bytes in digits of sixteen, walked.
-/
namespace Go.Proofs.Ytbmkknbbikoilaa
open Go.RowKit

theorem hx_val (n : Nat) (h : n < 16) : ((hx n).toNat : Int) = if n < 10 then 48 + (n : Int) else 87 + (n : Int) := by
  have key : ∀ n, n < 16 → ((hx n).toNat : Int) = if n < 10 then 48 + (n : Int) else 87 + (n : Int) := by decide +kernel
  exact key n h

/-- The high and the low digit of a byte. -/
def hx8 (x : UInt8) : UInt8 := hx (x.toNat / 16)
def lx8 (x : UInt8) : UInt8 := hx (x.toNat % 16)
theorem dig_at (n : Nat) (h : n < (⟨#[48, 49, 50, 51, 52, 53, 54, 55, 56, 57, 97, 98, 99, 100, 101, 102]⟩ : ByteArray).size) : ((⟨#[48, 49, 50, 51, 52, 53, 54, 55, 56, 57, 97, 98, 99, 100, 101, 102]⟩ : ByteArray)[n]'h) = hx n := by
  have key : ∀ n : Fin 16, ((⟨#[48, 49, 50, 51, 52, 53, 54, 55, 56, 57, 97, 98, 99, 100, 101, 102]⟩ : ByteArray)[n.val]'(by have := n.isLt; exact this)) = hx n.val := by decide +kernel
  exact key ⟨n, h⟩
/-- The cells of a row of bytes. -/
theorem cell_row (W : World) (g t : Nat) (L : List UInt8) (h : W.heap[g]? = some (.cells (bv L).toArray t)) (i : Nat) (hi : i < L.length) : W.cell? ⟨g, i, none⟩ = some (.int .u8 (L[i].toNat : Int)) := by
  rw [cell_of_row W g i _ t (0, 0) h]
  simp [bv, hi]
/-- Two digits more. -/
theorem set_two (A : List UInt8) (m n : Nat) (x y : UInt8) (hn : A.length = n) : ((A ++ List.replicate (m + 2) 0).set n x).set (n + 1) y = (A ++ [x, y]) ++ List.replicate m 0 := by
  subst hn
  have e : List.replicate (m + 2) (0 : UInt8) = 0 :: 0 :: List.replicate m 0 := rfl
  rw [e]
  simp

end Go.Proofs.Ytbmkknbbikoilaa

/-
  HashText of the program and of the specification, and its law, walked.
-/
namespace Go.Proofs.Ytbmkknbbikoilaa
open Go.RowKit

/-- append(b, x, y), b bytes of the call's own, as one step of a region that draws. -/
theorem step_append_two {w : World} {ops : Array Oper} {o : Oper} {a : Act} {K : Act → World → Prop} {Q : Exit → Act → World → Prop} {E : Prop} (hgd : o.guard = none) (s x : Operand)
    (ho : o.op = .call { callee := .builtin .append, args := #[s, x], argTypes := #[43, 43] })
    (base : Nat) (v : Value) (l : List UInt8) (y z : UInt8) (hs : a.eval s = v) (hown : w.ownsRow base 5 1 v l.length (bv l))
    (ad : Addr) (hx : a.eval x = .slice (some ad) 2 2) (hcell : w.cell? ad = some (.int .u8 (y.toNat : Int))) (hcell1 : w.cell? (ad.add 1) = some (.int .u8 (z.toNat : Int)))
    (hlen : l.length < 1000000000) (hbase : base ≤ w.heap.size)
    (h : ∀ v' w', w'.ownsRow base 5 1 v' (l ++ [y, z]).length (bv (l ++ [y, z])) → w.grownBy w' v.ownBlock → K (a.put o.dst v') w') : if Region.wanted o (yielded ops a.tmps) = true then Oper.wp Try.prog o a w K Q else E := by
  have hw : Region.wanted o (yielded ops a.tmps) = true := by simp [Region.wanted, hgd]
  rw [if_pos hw]
  obtain ⟨i0, hi, hz0, hz1, hz2⟩ := info_parts info5
  refine wp_append_own w s x 43 ho base 5 i0 (.int .u8 0) 1 1 Try.underlying43 hi hz0 hz1 hz2 rfl (by decide) v l.length (bv l) hs hown ad 2 2 [.int .u8 (y.toNat : Int), .int .u8 (z.toNat : Int)] hx rfl ?_ ?_ ?_ ?_ hbase ?_
  · intro j u hj
    match j, hj with
    | 0, hj => simp at hj; subst hj; simpa [Addr.add] using hcell
    | 1, hj => simp at hj; subst hj; exact hcell1
  · intro u hu; simp at hu; rcases hu with rfl | rfl <;> rfl
  · unfold maxLen; omega
  · omega
  · intro v' w' h1 h2 _
    refine h v' w' ?_ h2
    simpa [bv] using h1

end Go.Proofs.Ytbmkknbbikoilaa
