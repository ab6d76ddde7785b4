/-
  l1Hex, digitsOfBytes: bytes in digits of sixteen, walked.
-/
import Derived.Test.YtnfnhgloblfgnaaRows
import Derived.Test.YtnfnhgloblfgnaaPlain6
import Derived.Test.YtnfnhgloblfgnaaJoinB13
import Derived.Deep.QuietTactic
import Derived.BigQuiet
import Derived.Deep.RegionWith
import Derived.Deep.RegionHeld3
import Derived.Deep.CutRange
import Derived.Deep.DeepCutAuto
import Derived.Deep.CutBlock
import Derived.Laws.Tables
import Derived.Test.YtnfnhgloblfgnaaJoinB42
import Derived.Deep.RegionLaw
import Derived.Test.YtnfnhgloblfgnaaRd2
import Derived.Test.YtnfnhgloblfgnaaJoinB14
import Derived.Test.YtnfnhgloblfgnaaJoinB36
namespace Go.Proofs.Ytnfnhgloblfgnaa
open Go.RowKit

theorem hx_val (n : Nat) (h : n < 16) : ((hx n).toNat : Int) = if n < 10 then 48 + (n : Int) else 87 + (n : Int) := by
  have key : ∀ n, n < 16 → ((hx n).toNat : Int) = if n < 10 then 48 + (n : Int) else 87 + (n : Int) := by decide +kernel
  exact key n h

/-- The high and the low digit of a byte. -/
def hx8 (x : UInt8) : UInt8 := hx (x.toNat / 16)
def lx8 (x : UInt8) : UInt8 := hx (x.toNat % 16)
theorem dig_at (n : Nat) (h : n < (⟨#[48, 49, 50, 51, 52, 53, 54, 55, 56, 57, 97, 98, 99, 100, 101, 102]⟩ : ByteArray).size) : ((⟨#[48, 49, 50, 51, 52, 53, 54, 55, 56, 57, 97, 98, 99, 100, 101, 102]⟩ : ByteArray)[n]'h) = hx n := by
  have key : ∀ n : Fin 16, ((⟨#[48, 49, 50, 51, 52, 53, 54, 55, 56, 57, 97, 98, 99, 100, 101, 102]⟩ : ByteArray)[n.val]'(by have := n.isLt; exact this)) = hx n.val := by decide +kernel
  exact key ⟨n, h⟩
/-- The cells of a row of bytes. -/
theorem cell_row (W : World) (g t : Nat) (L : List UInt8) (h : W.heap[g]? = some (.cells (bv L).toArray t)) (i : Nat) (hi : i < L.length) : W.cell? ⟨g, i, none⟩ = some (.int .u8 (L[i].toNat : Int)) := by
  rw [cell_of_row W g i _ t (0, 0) h]
  simp [bv, hi]
/-- Two digits more. -/
theorem set_two (A : List UInt8) (m n : Nat) (x y : UInt8) (hn : A.length = n) : ((A ++ List.replicate (m + 2) 0).set n x).set (n + 1) y = (A ++ [x, y]) ++ List.replicate m 0 := by
  subst hn
  have e : List.replicate (m + 2) (0 : UInt8) = 0 :: 0 :: List.replicate m 0 := rfl
  rw [e]
  simp

end Go.Proofs.Ytnfnhgloblfgnaa

/-
  HashText of the program and of the specification, and its law, walked.
-/
namespace Go.Proofs.Ytnfnhgloblfgnaa
open Go.RowKit

/-- append(b, x, y), b bytes of the call's own, as one step of a region that draws. -/
theorem step_append_two {w : World} {ops : Array Oper} {o : Oper} {a : Act} {K : Act → World → Prop} {Q : Exit → Act → World → Prop} {E : Prop} (hgd : o.guard = none) (s x : Operand)
    (ho : o.op = .call { callee := .builtin .append, args := #[s, x], argTypes := #[22, 22] })
    (base : Nat) (v : Value) (l : List UInt8) (y z : UInt8) (hs : a.eval s = v) (hown : w.ownsRow base 5 1 v l.length (bv l))
    (ad : Addr) (hx : a.eval x = .slice (some ad) 2 2) (hcell : w.cell? ad = some (.int .u8 (y.toNat : Int))) (hcell1 : w.cell? (ad.add 1) = some (.int .u8 (z.toNat : Int)))
    (hlen : l.length < 1000000000) (hbase : base ≤ w.heap.size)
    (h : ∀ v' w', w'.ownsRow base 5 1 v' (l ++ [y, z]).length (bv (l ++ [y, z])) → w.grownBy w' v.ownBlock → K (a.put o.dst v') w') : if Region.wanted o (yielded ops a.tmps) = true then Oper.wp Try.prog o a w K Q else E := by
  have hw : Region.wanted o (yielded ops a.tmps) = true := by simp [Region.wanted, hgd]
  rw [if_pos hw]
  obtain ⟨i0, hi, hz0, hz1, hz2⟩ := info_parts info5
  refine wp_append_own w s x 22 ho base 5 i0 (.int .u8 0) 1 1 Try.underlying22 hi hz0 hz1 hz2 rfl (by decide) v l.length (bv l) hs hown ad 2 2 [.int .u8 (y.toNat : Int), .int .u8 (z.toNat : Int)] hx rfl ?_ ?_ ?_ ?_ hbase ?_
  · intro j u hj
    match j, hj with
    | 0, hj => simp at hj; subst hj; simpa [Addr.add] using hcell
    | 1, hj => simp at hj; subst hj; exact hcell1
  · intro u hu; simp at hu; rcases hu with rfl | rfl <;> rfl
  · unfold maxLen; omega
  · omega
  · intro v' w' h1 h2 _
    refine h v' w' ?_ h2
    simpa [bv] using h1

end Go.Proofs.Ytnfnhgloblfgnaa

/-
  DrawHashBytes, DrawHashBack, walked: whatever they draw.
-/
namespace Go.Proofs.Ytnfnhgloblfgnaa
open Go.RowKit

theorem RdAt.call {B : Nat} {v : Value} {L : List UInt8} {p : Nat} {W W' : World} (h : RdAt B v L p W) (hb : Below W.heap.size W W') : RdAt B v L p W' := by
  obtain ⟨h0, h1, h2, h3, h4, h5⟩ := h
  refine ⟨Nat.lt_of_lt_of_le h0 hb.size, (hb.cell h0).trans h1, (hb.cell h0).trans h2, (hb.frozen h0).trans h3, h4, ?_⟩
  rcases h5 with h5 | ⟨a, cap, hv, hl, hbl, hc⟩
  · exact .inl h5
  · exact .inr ⟨a, cap, hv, hl, hbl, fun i hi => (hb.cell (by rw [add_block']; omega)).trans (hc i hi)⟩
theorem below_far {base B : Nat} {w W W' : World} (h : Below base w W) (g : W.grownBy W' (some B)) (hB : base ≤ B) (hs : base ≤ W.heap.size) : Below base w W' :=
  h.grown g hs (fun k e => by have e2 : B = k := (by simpa using e); omega)

theorem str_le (t : List UInt8) (k : Nat) (h : t.length ≤ k) : (str t).size ≤ k := by
  have e : (str t).size = t.length := by simp [ByteArray.size]
  rw [e]; exact h
theorem ext_le (S : ByteArray) (i j k : Nat) (h : S.size ≤ k) : (S.extract i j).size ≤ k := by rw [ByteArray.size_extract]; omega
theorem app_le (x y : ByteArray) (a b c : Nat) (hx : x.size ≤ a) (hy : y.size ≤ b) (h : a + b ≤ c) : (x ++ y).size ≤ c := by rw [ByteArray.size_append]; omega
theorem add_ok (x y : ByteArray) (hx : x.size ≤ 1000) (hy : y.size ≤ 1000) (W : World) : (Op.stringOp .add x y).run Try.prog W = .ok (.string (x ++ y)) W := run_string_add_sum W x y (by omega)
theorem ext_size (S : ByteArray) (k : Nat) (t : List UInt8) (hS : S.size = 32) (ht : t.length ≤ 1) : (S.extract k 32 ++ str t).size ≤ 100 :=
  app_le _ _ 32 1 100 (ext_le _ _ _ _ (by omega)) (str_le _ _ ht) (by omega)
theorem ext_size2 (S : ByteArray) (i j : Nat) (t : List UInt8) (hS : S.size = 64) (ht : t.length ≤ 1) : (S.extract 0 i ++ str t ++ S.extract j 64).size ≤ 200 :=
  app_le _ _ 65 64 200 (app_le _ _ 64 1 65 (ext_le _ _ _ _ (by omega)) (str_le _ _ ht) (by omega)) (ext_le _ _ _ _ (by omega)) (by omega)

end Go.Proofs.Ytnfnhgloblfgnaa

/-
  l1Many, pad and DrawClashOk, walked: whatever is drawn.
-/
namespace Go.Proofs.Ytnfnhgloblfgnaa
open Go.RowKit

/-- The block B holds two texts that may be written over. -/
def Box2 (B : Nat) (W : World) : Prop := B < W.heap.size ∧ (∃ x, W.cell? ⟨B, 0, none⟩ = some x) ∧ (∃ x, W.cell? ⟨B, 1, none⟩ = some x) ∧ W.frozen? ⟨B, 0, none⟩ = false ∧ W.frozen? ⟨B, 1, none⟩ = false
theorem Box2.call {B : Nat} {W W' : World} (h : Box2 B W) (hb : Below W.heap.size W W') : Box2 B W' := by
  obtain ⟨h0, ⟨x, hx⟩, ⟨y, hy⟩, f0, f1⟩ := h
  exact ⟨Nat.lt_of_lt_of_le h0 hb.size, ⟨x, (hb.cell h0).trans hx⟩, ⟨y, (hb.cell h0).trans hy⟩, (hb.frozen h0).trans f0, (hb.frozen h0).trans f1⟩
theorem Box2.far {b B : Nat} {W W' : World} (h : Box2 b W) (g : W.grownBy W' (some B)) (hne : b ≠ B) : Box2 b W' := by
  obtain ⟨h0, ⟨x, hx⟩, ⟨y, hy⟩, f0, f1⟩ := h
  have ne : some b ≠ some B := fun e => hne (by simpa using e)
  exact ⟨Nat.lt_of_lt_of_le h0 g.size, ⟨x, g.cell hx ne⟩, ⟨y, g.cell hy ne⟩, (g.frozen_far _ h0 ne).trans f0, (g.frozen_far _ h0 ne).trans f1⟩
theorem two_set {w : World} {b : Nat} {x0 x1 : Value} (h : Box2 b w) : ((w.setCell ⟨b, 0, none⟩ x0).setCell ⟨b, 1, none⟩ x1).cell? ⟨b, 0, none⟩ = some x0 ∧ ((w.setCell ⟨b, 0, none⟩ x0).setCell ⟨b, 1, none⟩ x1).cell? ⟨b, 1, none⟩ = some x1 := by
  obtain ⟨h0, ⟨x, hx⟩, ⟨y, hy⟩, f0, f1⟩ := h
  refine ⟨?_, ?_⟩
  · rw [set_off (by omega), set_same (by rw [hx]; rfl)]
  · rw [set_same (by rw [set_off (by omega), hy]; rfl)]

end Go.Proofs.Ytnfnhgloblfgnaa
