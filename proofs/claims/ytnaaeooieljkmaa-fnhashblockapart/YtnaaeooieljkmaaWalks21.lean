/-
  l1Hex, digitsOfBytes: bytes in digits of sixteen, walked.
-/
import Derived.Test.YtnaaeooieljkmaaRows
import Derived.Test.YtnaaeooieljkmaaPlain6
import Derived.Test.YtnaaeooieljkmaaKit5
import Derived.Deep.QuietTactic
import Derived.BigQuiet
import Derived.Deep.RegionWith
import Derived.Deep.RegionHeld3
import Derived.Deep.CutRange
import Derived.Deep.DeepCutAuto
import Derived.Deep.CutBlock
import Derived.Laws.Tables
import Derived.Test.YtnaaeooieljkmaaWalks14
namespace Go.Proofs.Ytnaaeooieljkmaa
open Go.RowKit

theorem hx_val (n : Nat) (h : n < 16) : ((hx n).toNat : Int) = if n < 10 then 48 + (n : Int) else 87 + (n : Int) := by
  have key : ∀ n, n < 16 → ((hx n).toNat : Int) = if n < 10 then 48 + (n : Int) else 87 + (n : Int) := by decide +kernel
  exact key n h

/-- The high and the low digit of a byte. -/
def hx8 (x : UInt8) : UInt8 := hx (x.toNat / 16)
def lx8 (x : UInt8) : UInt8 := hx (x.toNat % 16)
theorem dig_at (n : Nat) (h : n < (⟨#[48, 49, 50, 51, 52, 53, 54, 55, 56, 57, 97, 98, 99, 100, 101, 102]⟩ : ByteArray).size) : ((⟨#[48, 49, 50, 51, 52, 53, 54, 55, 56, 57, 97, 98, 99, 100, 101, 102]⟩ : ByteArray)[n]'h) = hx n := by
  have key : ∀ n : Fin 16, ((⟨#[48, 49, 50, 51, 52, 53, 54, 55, 56, 57, 97, 98, 99, 100, 101, 102]⟩ : ByteArray)[n.val]'(by have := n.isLt; exact this)) = hx n.val := by decide +kernel
  exact key ⟨n, h⟩
/-- The cells of a row of bytes. -/
theorem cell_row (W : World) (g t : Nat) (L : List UInt8) (h : W.heap[g]? = some (.cells (bv L).toArray t)) (i : Nat) (hi : i < L.length) : W.cell? ⟨g, i, none⟩ = some (.int .u8 (L[i].toNat : Int)) := by
  rw [cell_of_row W g i _ t (0, 0) h]
  simp [bv, hi]
/-- Two digits more. -/
theorem set_two (A : List UInt8) (m n : Nat) (x y : UInt8) (hn : A.length = n) : ((A ++ List.replicate (m + 2) 0).set n x).set (n + 1) y = (A ++ [x, y]) ++ List.replicate m 0 := by
  subst hn
  have e : List.replicate (m + 2) (0 : UInt8) = 0 :: 0 :: List.replicate m 0 := rfl
  rw [e]
  simp

end Go.Proofs.Ytnaaeooieljkmaa
