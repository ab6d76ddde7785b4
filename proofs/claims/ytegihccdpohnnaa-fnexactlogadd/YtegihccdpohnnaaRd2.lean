/-
  The reader of a code: opened; texts, words and digests that it draws: walked.
-/
import Derived.Test.YtegihccdpohnnaaRd
import Derived.Test.YtegihccdpohnnaaKit5
import Derived.Test.YtegihccdpohnnaaBox
import Derived.Deep.RegionLaw
import Derived.Maps.Range
namespace Go.Proofs.Ytegihccdpohnnaa
open Go.RowKit

/-- The slice v holds the bytes L. -/
def Byt (W : World) (v : Value) (L : List UInt8) : Prop :=
  (v = .slice none 0 0 ∧ L = []) ∨ ∃ (a : Addr) (cap : Nat), v = .slice (some a) L.length cap ∧ L.length ≤ cap ∧ cap ≤ maxLen ∧ (0 < L.length → a.block < W.heap.size) ∧ ∀ (i : Nat) (h : i < L.length), W.cell? (a.add i) = some (.int .u8 (L[i].toNat : Int))
theorem Byt.call {W W' : World} {v : Value} {L : List UInt8} (h : Byt W v L) (hb : Below W.heap.size W W') : Byt W' v L := by
  rcases h with h | ⟨a, cap, hv, hl, hm, hbl, hc⟩
  · exact .inl h
  · refine .inr ⟨a, cap, hv, hl, hm, fun h0 => Nat.lt_of_lt_of_le (hbl h0) hb.size, fun i hi => ?_⟩
    rw [hb.cell (p := a.add i) (by rw [add_block']; exact hbl (by omega))]
    exact hc i hi
theorem own_far {w w' : World} {base e size n B : Nat} {v : Value} {xs : List Value} (h : w.ownsRow base e size v n xs) (g : w.grownBy w' (some B)) (hB : B < base) : w'.ownsRow base e size v n xs := by
  obtain ⟨h0, h⟩ := h
  refine ⟨h0, ?_⟩
  rcases h with h | ⟨k, cap, cur, hv, hb, hg, hn, hc, hs, ht⟩
  · exact .inl h
  · exact .inr ⟨k, cap, cur, hv, hb, (g.block k (Array.getElem?_eq_some_iff.1 hg).1 (fun e => by have e2 : k = B := (by simpa using e); omega)).trans hg, hn, hc, hs, ht⟩

theorem RdAt.far {B : Nat} {v : Value} {L : List UInt8} {p : Nat} {W W' : World} {row : Option Nat} (h : RdAt B v L p W) (g : W.grownBy W' row) (hr : ∀ k, row = some k → B < k) : RdAt B v L p W' := by
  have ne : ∀ b, b ≤ B → some b ≠ row := fun b hb e => by have := hr b e.symm; omega
  obtain ⟨h0, h1, h2, h3, h4, h5⟩ := h
  refine ⟨Nat.lt_of_lt_of_le h0 g.size, g.cell h1 (ne B (Nat.le_refl _)), g.cell h2 (ne B (Nat.le_refl _)), (g.frozen_far _ h0 (ne B (Nat.le_refl _))).trans h3, h4, ?_⟩
  rcases h5 with h5 | ⟨a, cap, hv, hl, hb, hc⟩
  · exact .inl h5
  · exact .inr ⟨a, cap, hv, hl, hb, fun i hi => g.cell (hc i hi) (by rw [add_block']; exact ne a.block (by omega))⟩

theorem u64_of_nat (r : Nat) (h : r < 18446744073709551616) : Ending.returned (Value.int IntKind.u64 (r : Int)) = Ending.returned (Value.int IntKind.u64 ((UInt64.ofNat r).toNat : Int)) := by
  rw [UInt64.toNat_ofNat', Nat.mod_eq_of_lt h]
theorem xor_max (r : Nat) (h : r < 18446744073709551616) : bits .xor .u64 IntKind.u64.max (r : Int) = ((18446744073709551615 ^^^ r : Nat) : Int) ∧ (18446744073709551615 ^^^ r) < 18446744073709551616 := by
  have e : IntKind.u64.max = ((18446744073709551615 : Nat) : Int) := by decide
  rw [e]
  exact ⟨u64_xor_nat _ _ (by omega) h, Nat.xor_lt_two_pow (n := 64) (by omega) (by omega)⟩

theorem Box.far {b B : Nat} {W W' : World} (h : Box b W) (g : W.grownBy W' (some B)) (hne : b ≠ B) : Box b W' :=
  ⟨Nat.lt_of_lt_of_le h.1 g.size, fun j hj => ⟨g.cell (h.2 j hj).1 (fun e => hne (by simpa using e)), (g.frozen_far _ h.1 (fun e => hne (by simpa using e))).trans (h.2 j hj).2⟩⟩
/-- Four stores into a box of one's own. -/
theorem RdAt.four {B b : Nat} {v : Value} {L : List UInt8} {p : Nat} {W : World} {x0 x1 x2 x3 : Value} (h : RdAt B v L p W) (hb : B < b) : RdAt B v L p ((((W.setCell ⟨b, 0, none⟩ x0).setCell ⟨b, 1, none⟩ x1).setCell ⟨b, 2, none⟩ x2).setCell ⟨b, 3, none⟩ x3) := by
  have hr : ∀ k, some b = some k → B < k := fun k e => by have e2 : b = k := (by simpa using e); omega
  exact (((h.far (grownR_set W b 0 x0) hr).far (grownR_set _ b 1 x1) hr).far (grownR_set _ b 2 x2) hr).far (grownR_set _ b 3 x3) hr
theorem grown_four {W0 W : World} {B b : Nat} {x0 x1 x2 x3 : Value} (h : W0.grownBy W (some B)) (hb : W0.heap.size ≤ b) : W0.grownBy ((((W.setCell ⟨b, 0, none⟩ x0).setCell ⟨b, 1, none⟩ x1).setCell ⟨b, 2, none⟩ x2).setCell ⟨b, 3, none⟩ x3) (some B) := by
  have hr : ∀ j, some b = some j → W0.heap.size ≤ j ∨ (some B) = some j := fun k e => .inl (by have e2 : b = k := (by simpa using e); omega)
  exact (((h.andThen (grownR_set W b 0 x0) hr).andThen (grownR_set _ b 1 x1) hr).andThen (grownR_set _ b 2 x2) hr).andThen (grownR_set _ b 3 x3) hr

end Go.Proofs.Ytegihccdpohnnaa
