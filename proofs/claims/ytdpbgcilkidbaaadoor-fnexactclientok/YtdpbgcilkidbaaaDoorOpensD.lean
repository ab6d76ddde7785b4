/-
  A slice of digests that came in, opened.
-/
import Derived.Test.YtdpbgcilkidbaaaDoorDgs
import Derived.Test.YtdpbgcilkidbaaaDoorOpens
import Derived.SliceStrings
import Derived.Deep.Slices
namespace Go.Proofs.YtdpbgcilkidbaaaDoor
open Go.ChangeShapes Go.WideShapes Go.ChangeAt Go.RowKit Go.Joins
namespace Opens
theorem cells64 : Tryd.prog.cellsOf 22 = 1 := by kernel_rfl
set_option maxRecDepth 100000 in
theorem digest_cells {H : Type} {enc : TypeId × Value → H} {W : World} {base n : Nat} {spare : Nat → Bool} {held : Bool} {a : Addr} {cs : List Value} {x : DataW H × List MemPlace}
    (h1 : W.cells? base a 4 = some cs) (h2 : DataW.trod enc Tryd.prog W base spare held n 24 cs = some x) : ∃ q : Qd, DAt W a q := by
  obtain ⟨_, hlen, hcell⟩ := World.cells?_some h1
  obtain ⟨y0, y1, y2, y3, m, _, _, h0, h1', h2', h3⟩ := trod_struct4 Tryd.underlying24 h2
  match cs, hlen with
  | [c0, c1, c2, c3], _ =>
    simp only [cells64, List.drop_zero, List.drop_succ_cons, List.take_succ_cons, List.take_zero] at h0 h1' h2' h3
    obtain ⟨xa, e0, _, wa⟩ := DataW.trod_int Tryd.underlying22 h0
    obtain ⟨xb, e1, _, wb⟩ := DataW.trod_int Tryd.underlying22 h1'
    obtain ⟨xc, e2, _, wc⟩ := DataW.trod_int Tryd.underlying22 h2'
    obtain ⟨xd, e3, _, wd⟩ := DataW.trod_int Tryd.underlying22 h3
    obtain ⟨ua, rfl⟩ := of_wf wa
    obtain ⟨ub, rfl⟩ := of_wf wb
    obtain ⟨uc, rfl⟩ := of_wf wc
    obtain ⟨ud, rfl⟩ := of_wf wd
    simp at e0 e1 e2 e3
    subst e0 e1 e2 e3
    refine ⟨⟨ua, ub, uc, ud⟩, ?_, ?_, ?_, ?_⟩
    · have := hcell 0 (by omega); simpa [Addr.add] using this
    · have := hcell 1 (by omega); simpa [Addr.add] using this
    · have := hcell 2 (by omega); simpa [Addr.add] using this
    · have := hcell 3 (by omega); simpa [Addr.add] using this
theorem choose_list {P : Nat → Qd → Prop} : ∀ n : Nat, (∀ i, i < n → ∃ q, P i q) → ∃ L : List Qd, L.length = n ∧ ∀ (i : Nat) (h : i < L.length), P i L[i]
  | 0, _ => ⟨[], rfl, fun i h => by simp at h⟩
  | n + 1, h => by
    obtain ⟨L, hl, hL⟩ := choose_list n (fun i hi => h i (by omega))
    obtain ⟨q, hq⟩ := h n (by omega)
    refine ⟨L ++ [q], by simp [hl], fun i hi => ?_⟩
    by_cases e : i < L.length
    · rw [List.getElem_append_left e]; exact hL i e
    · have e2 : i = L.length := by simp at hi; omega
      subst e2
      rw [List.getElem_concat_length rfl, hl]
      exact hq
end Opens
end Go.Proofs.YtdpbgcilkidbaaaDoor
