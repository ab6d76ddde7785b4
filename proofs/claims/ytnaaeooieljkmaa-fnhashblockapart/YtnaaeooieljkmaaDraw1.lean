/-
  DrawHashBytes, DrawHashBack, walked: whatever they draw.
-/
import Derived.Test.YtnaaeooieljkmaaRd2
import Derived.Test.YtnaaeooieljkmaaWalks7
import Derived.Test.YtnaaeooieljkmaaWalks20
import Derived.Test.YtnaaeooieljkmaaWalks22
import Derived.Test.YtnaaeooieljkmaaWalks11
namespace Go.Proofs.Ytnaaeooieljkmaa
open Go.RowKit

theorem RdAt.call {B : Nat} {v : Value} {L : List UInt8} {p : Nat} {W W' : World} (h : RdAt B v L p W) (hb : Below W.heap.size W W') : RdAt B v L p W' := by
  obtain ⟨h0, h1, h2, h3, h4, h5⟩ := h
  refine ⟨Nat.lt_of_lt_of_le h0 hb.size, (hb.cell h0).trans h1, (hb.cell h0).trans h2, (hb.frozen h0).trans h3, h4, ?_⟩
  rcases h5 with h5 | ⟨a, cap, hv, hl, hbl, hc⟩
  · exact .inl h5
  · exact .inr ⟨a, cap, hv, hl, hbl, fun i hi => (hb.cell (by rw [add_block']; omega)).trans (hc i hi)⟩
theorem below_far {base B : Nat} {w W W' : World} (h : Below base w W) (g : W.grownBy W' (some B)) (hB : base ≤ B) (hs : base ≤ W.heap.size) : Below base w W' :=
  h.grown g hs (fun k e => by have e2 : B = k := (by simpa using e); omega)

theorem str_le (t : List UInt8) (k : Nat) (h : t.length ≤ k) : (str t).size ≤ k := by
  have e : (str t).size = t.length := by simp [ByteArray.size]
  rw [e]; exact h
theorem ext_le (S : ByteArray) (i j k : Nat) (h : S.size ≤ k) : (S.extract i j).size ≤ k := by rw [ByteArray.size_extract]; omega
theorem app_le (x y : ByteArray) (a b c : Nat) (hx : x.size ≤ a) (hy : y.size ≤ b) (h : a + b ≤ c) : (x ++ y).size ≤ c := by rw [ByteArray.size_append]; omega
theorem add_ok (x y : ByteArray) (hx : x.size ≤ 1000) (hy : y.size ≤ 1000) (W : World) : (Op.stringOp .add x y).run Try.prog W = .ok (.string (x ++ y)) W := run_string_add_sum W x y (by omega)
theorem ext_size (S : ByteArray) (k : Nat) (t : List UInt8) (hS : S.size = 32) (ht : t.length ≤ 1) : (S.extract k 32 ++ str t).size ≤ 100 :=
  app_le _ _ 32 1 100 (ext_le _ _ _ _ (by omega)) (str_le _ _ ht) (by omega)
theorem ext_size2 (S : ByteArray) (i j : Nat) (t : List UInt8) (hS : S.size = 64) (ht : t.length ≤ 1) : (S.extract 0 i ++ str t ++ S.extract j 64).size ≤ 200 :=
  app_le _ _ 65 64 200 (app_le _ _ 64 1 65 (ext_le _ _ _ _ (by omega)) (str_le _ _ ht) (by omega)) (ext_le _ _ _ _ (by omega)) (by omega)

end Go.Proofs.Ytnaaeooieljkmaa
