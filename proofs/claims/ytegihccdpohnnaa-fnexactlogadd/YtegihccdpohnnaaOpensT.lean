/-
  A slice of texts that came in, opened.
-/
import Derived.Test.YtegihccdpohnnaaTxt
import Derived.Test.YtegihccdpohnnaaOpens0
import Derived.SliceStrings
namespace Go.Proofs.Ytegihccdpohnnaa
open Go.ChangeShapes Go.WideShapes Go.ChangeAt Go.RowKit Go.Joins
namespace Opens
theorem cellsStr : Try.prog.cellsOf 9 = 1 := by kernel_rfl
set_option maxRecDepth 100000 in
theorem open_texts {H : Type} {enc : TypeId × Value → H} {W : World} {r : Reach} {base b0 : Nat} {spare : Nat → Bool} {held : Bool} {v : Value} {d : DataW H} {p : List MemPlace}
    (hv : Value.okWide Try.prog W r b0 22 v) (h : DataW.Trod enc Try.prog W base spare held 22 v d p) : ∃ S : List ByteArray, Txt W v S ∧ ∀ s ∈ S, s.size ≤ maxLen := by
  obtain ⟨a0, len, cap, rfl⟩ := okWide_slice Try.underlying22 hv
  obtain ⟨fuel, hf⟩ := h
  rcases open_strings Try.underlying22 Try.underlying9 cellsStr hf with ⟨hcs, hx⟩ | ⟨a, len', cap', ss, hcs, _, hl, hm, hz, hx, hcell, hsz⟩
  · simp [Value.cells] at hcs
    obtain ⟨rfl, rfl, rfl⟩ := hcs
    exact ⟨[], .inl ⟨rfl, rfl⟩, fun s hs => by cases hs⟩
  · simp [Value.cells] at hcs
    obtain ⟨rfl, rfl, rfl⟩ := hcs
    have hle : len ≤ ss.length := by rw [hz]; split <;> omega
    have hlt : (ss.take len).length = len := by rw [List.length_take]; omega
    have hc : ∀ (i : Nat) (h : i < (ss.take len).length), W.cell? (a.add i) = some (.string (ss.take len)[i]) := fun i hi => by
      rw [hcell i (by omega)]
      simp [List.getD, List.getElem?_eq_getElem (show i < ss.length by omega)]
    refine ⟨ss.take len, .inr ⟨a, cap, by rw [hlt], by omega, hm, fun h0 => ?_, hc⟩, fun s hs => hsz s (List.mem_of_mem_take hs)⟩
    have h1 := block_lt_of_cell (hc 0 h0)
    rwa [add_block] at h1
end Opens
end Go.Proofs.Ytegihccdpohnnaa
