/-
  A log that came in, opened.
-/
import Derived.Test.YtegihccdpohnnaaOpensT
import Derived.ChangeSame
namespace Go.Proofs.Ytegihccdpohnnaa
open Go.ChangeShapes Go.WideShapes Go.ChangeAt Go.RowKit Go.Joins
namespace Opens
theorem cellsLog : Try.prog.cellsOf 24 = 1 := by kernel_rfl
theorem cellsStrs : Try.prog.cellsOf 22 = 1 := by kernel_rfl
set_option maxRecDepth 100000 in
theorem open_log {H : Type} {enc : TypeId × Value → H} {W : World} {r : Reach} {base b0 : Nat} {spare : Nat → Bool} {held : Bool} {v : Value} {d : DataW H} {p : List MemPlace}
    (hv : Value.okWide Try.prog W r b0 24 v) (h : DataW.Trod enc Try.prog W base spare held 24 v d p) : ∃ (u : Value) (S : List ByteArray), v = .agg #[u] ∧ Txt W u S ∧ ∀ s ∈ S, s.size ≤ maxLen := by
  obtain ⟨cs, rfl, hsz⟩ := okWide_struct Try.underlying24 hv
  rw [cellsLog] at hsz
  obtain ⟨l⟩ := cs
  match l, hsz with
  | [c0], _ =>
    obtain ⟨fuel, hf⟩ := h
    obtain ⟨y0, n, _, _, h0⟩ := trod_struct1 Try.underlying24 hf
    simp only [Value.cells, cellsStrs, List.drop_zero, List.take_succ_cons, List.take_zero] at h0
    rcases open_strings Try.underlying22 Try.underlying9 cellsStr h0 with ⟨hcs, hx⟩ | ⟨a, len, cap, ss, hcs, _, hl, hm, hz, hx, hcell, hsz⟩
    · simp at hcs
      subst hcs
      exact ⟨_, [], rfl, .inl ⟨rfl, rfl⟩, fun s hs => by cases hs⟩
    · simp at hcs
      subst hcs
      have hle : len ≤ ss.length := by rw [hz]; split <;> omega
      have hlt : (ss.take len).length = len := by rw [List.length_take]; omega
      have hc : ∀ (i : Nat) (h : i < (ss.take len).length), W.cell? (a.add i) = some (.string (ss.take len)[i]) := fun i hi => by
        rw [hcell i (by omega)]
        simp [List.getD, List.getElem?_eq_getElem (show i < ss.length by omega)]
      refine ⟨_, ss.take len, rfl, .inr ⟨a, cap, by rw [hlt], by omega, hm, fun h0 => ?_, hc⟩, fun s hs => hsz s (List.mem_of_mem_take hs)⟩
      have h1 := block_lt_of_cell (hc 0 h0)
      rwa [add_block] at h1
end Opens
end Go.Proofs.Ytegihccdpohnnaa
