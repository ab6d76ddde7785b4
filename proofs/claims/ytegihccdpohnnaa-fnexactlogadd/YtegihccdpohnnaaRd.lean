/-
  The reader of a code: what it holds; pick, walked.
-/
import Derived.Test.YtegihccdpohnnaaRows
import Derived.Test.YtegihccdpohnnaaKit
import Derived.Deep.QuietTactic
import Derived.BigQuiet
import Derived.Deep.RegionWith
import Derived.Deep.RegionHeld3
import Derived.Deep.CutRange
import Derived.Deep.DeepCutAuto
import Derived.Deep.CutBlock
import Derived.Maps.AppendAt
import Derived.Deep.AppendLies
import Derived.Laws.BitsAllLaws
namespace Go.Proofs.Ytegihccdpohnnaa
open Go.RowKit Go.BigFrame

theorem add_block' (a : Addr) (i : Nat) : (a.add i).block = a.block := by
  unfold Addr.add
  split <;> rfl
/-- A reader in the block B: its bytes L, p of them read. -/
def RdAt (B : Nat) (v : Value) (L : List UInt8) (p : Nat) (W : World) : Prop :=
  B < W.heap.size ∧ W.cell? ⟨B, 0, none⟩ = some v ∧ W.cell? ⟨B, 1, none⟩ = some (.int .i64 (p : Int)) ∧ W.frozen? ⟨B, 1, none⟩ = false ∧ L.length ≤ 2000 ∧
  ((∃ a cap, v = .slice a 0 cap ∧ L = []) ∨ ∃ (a : Addr) (cap : Nat), v = .slice (some a) L.length cap ∧ 0 < L.length ∧ a.block < B ∧ ∀ (i : Nat) (h : i < L.length), W.cell? (a.add i) = some (.int .u8 (L[i].toNat : Int)))
theorem RdAt.grown {B : Nat} {v : Value} {L : List UInt8} {p : Nat} {W W' : World} (h : RdAt B v L p W) (g : W.grownBy W' none) : RdAt B v L p W' := by
  obtain ⟨h0, h1, h2, h3, h4, h5⟩ := h
  refine ⟨Nat.lt_of_lt_of_le h0 g.size, g.cell h1 (by simp), g.cell h2 (by simp), (g.frozen_far _ h0 (by simp)).trans h3, h4, ?_⟩
  rcases h5 with h5 | ⟨a, cap, hv, hl, hb, hc⟩
  · exact .inl h5
  · exact .inr ⟨a, cap, hv, hl, hb, fun i hi => g.cell (hc i hi) (by simp)⟩
theorem RdAt.drew {B : Nat} {v : Value} {L : List UInt8} {p : Nat} {W : World} (h : RdAt B v L p W) : RdAt B v L p W.drew := h
theorem RdAt.step {B : Nat} {v : Value} {L : List UInt8} {p : Nat} {W : World} (h : RdAt B v L p W) (p' : Nat) : RdAt B v L p' (W.setCell ⟨B, 1, none⟩ (.int .i64 (p' : Int))) := by
  obtain ⟨h0, h1, h2, h3, h4, h5⟩ := h
  refine ⟨by simp only [World.size_setCell]; exact h0, ?_, ?_, by rw [World.frozen?_setCell]; exact h3, h4, ?_⟩
  · rw [set_off (by omega)]; exact h1
  · exact set_same (by rw [h2]; rfl)
  · rcases h5 with h5 | ⟨a, cap, hv, hl, hb, hc⟩
    · exact .inl h5
    · exact .inr ⟨a, cap, hv, hl, hb, fun i hi => c_set (hc i hi) (by show B ≠ _; rw [add_block']; omega)⟩
theorem grownR_set (W : World) (B o : Nat) (x : Value) : W.grownBy (W.setCell ⟨B, o, none⟩ x) (some B) :=
  ⟨rfl, rfl, rfl, by simp, fun i _ hne => heap_setCell_other _ _ _ _ (fun e => hne (by rw [e]))⟩
theorem grown_drew {W W' : World} {r : Option Nat} (h : W.grownBy W' r) : W.grownBy W'.drew r := ⟨h.os, h.tape, h.output, h.size, h.block⟩

theorem wrap_small (p : Nat) (h : p ≤ 100000000) : IntKind.i64.wrap (p : Int) = (p : Int) ∧ wrap64 (p : Int) = (p : Int) := by
  refine ⟨IntWalk.i64_in _ (by omega), ?_⟩
  unfold wrap64
  omega

theorem i64_xor_nat (a b : Nat) (ha : a < 4611686018427387904) (hb : b < 4611686018427387904) : bits .xor .i64 (a : Int) (b : Int) = ((a ^^^ b : Nat) : Int) := by
  have hx : a ^^^ b < 2 ^ 62 := Nat.xor_lt_two_pow (by omega) (by omega)
  show IntKind.i64.wrap ((BitVec.ofInt 64 (a : Int) ^^^ BitVec.ofInt 64 (b : Int)).toNat : Int) = _
  rw [BitVec.toNat_xor, ofInt_u64 a (by omega), ofInt_u64 b (by omega)]
  exact IntWalk.i64_in _ (by omega)
end Go.Proofs.Ytegihccdpohnnaa
