/-
  Raw writes that came in, opened.
-/
import Derived.Test.YtofcpeginapjdaaJoinB36
import Derived.Test.YtofcpeginapjdaaOpensSl
import Derived.Test.YtofcpeginapjdaaRaw
import Derived.Deep.Strs
import Derived.SliceStrings
import Derived.Deep.Slices
namespace Go.Proofs.Ytofcpeginapjdaa
open Go.ChangeShapes Go.WideShapes Go.ChangeAt Go.RowKit Go.Joins
namespace Opens
theorem cellsIw : Try.prog.cellsOf 3 = 1 := by kernel_rfl
theorem cellsRw : Try.prog.cellsOf 62 = 3 := by kernel_rfl
set_option maxRecDepth 100000 in
theorem raw_cells {H : Type} {enc : TypeId × Value → H} {W : World} {base n : Nat} {spare : Nat → Bool} {held : Bool} {cs : List Value} {x : DataW H × List MemPlace}
    (hl : cs.length = 3) (h : DataW.trod enc Try.prog W base spare held n 62 cs = some x) : ∃ l : Rw, cs = [.int .i64 l.f, .int .i64 l.t, .int .u64 (l.s.toNat : Int)] := by
  match cs, hl with
  | [c0, c1, c2], _ =>
    obtain ⟨y0, y1, y2, m, _, _, h0, h1, h2⟩ := Go.Deep.trod_struct3 Try.underlying62 h
    simp only [cellsIw, cells64, List.drop_zero, List.drop_succ_cons, List.take_succ_cons, List.take_zero] at h0 h1 h2
    obtain ⟨f, e0, _, _⟩ := DataW.trod_int Try.underlying3 h0
    obtain ⟨t, e1, _, _⟩ := DataW.trod_int Try.underlying3 h1
    obtain ⟨xs, e2, _, ws⟩ := DataW.trod_int Try.underlying22 h2
    obtain ⟨us, rfl⟩ := of_wf ws
    simp at e0 e1 e2
    subst e0 e1 e2
    exact ⟨⟨f, t, us⟩, rfl⟩
theorem choose_raws {P : Nat → Rw → Prop} : ∀ n : Nat, (∀ i, i < n → ∃ q, P i q) → ∃ L : List Rw, L.length = n ∧ ∀ (i : Nat) (h : i < L.length), P i L[i]
  | 0, _ => ⟨[], rfl, fun i h => by simp at h⟩
  | n + 1, h => by
    obtain ⟨L, hl, hL⟩ := choose_raws n (fun i hi => h i (by omega))
    obtain ⟨q, hq⟩ := h n (by omega)
    refine ⟨L ++ [q], by simp [hl], fun i hi => ?_⟩
    by_cases e : i < L.length
    · rw [List.getElem_append_left e]; exact hL i e
    · have e2 : i = L.length := by simp at hi; omega
      subst e2
      rw [List.getElem_concat_length rfl, hl]
      exact hq
set_option maxRecDepth 100000 in
theorem open_raws {H : Type} {enc : TypeId × Value → H} {W : World} {r : Reach} {base b0 : Nat} {spare : Nat → Bool} {held : Bool} {v : Value} {d : DataW H} {p : List MemPlace}
    (hv : Value.okWide Try.prog W r b0 40 v) (h : DataW.Trod enc Try.prog W base spare held 40 v d p) : ∃ L : List Rw, Rws W v L := by
  obtain ⟨a0, len, cap, rfl⟩ := okWide_slice Try.underlying40 hv
  obtain ⟨fuel, hf⟩ := h
  rcases DataW.trod_slice Try.underlying40 hf with ⟨hcs, _⟩ | ⟨a, len', cap', elems, rest, n, _, hcs, _, hb, hl, hm, hlen, hel, _, _⟩
  · simp [Value.cells] at hcs
    obtain ⟨rfl, rfl, rfl⟩ := hcs
    exact ⟨[], .inl ⟨rfl, rfl⟩⟩
  · simp [Value.cells] at hcs
    obtain ⟨rfl, rfl, rfl⟩ := hcs
    have each : ∀ i, i < len → ∃ l : Rw, RAt W (a.add (i * 3)) l := fun i hi => by
      have h1 := hel i hi
      rw [cellsRw, List.getElem?_eq_getElem (by omega), Option.bind_eq_some_iff] at h1
      obtain ⟨cs, h2, h3⟩ := h1
      obtain ⟨_, hln, hcell⟩ := World.cells?_some h2
      obtain ⟨l, e⟩ := raw_cells hln h3
      subst e
      refine ⟨l, ?_, ?_, ?_⟩
      · have := hcell 0 (by omega); simpa [Addr.add] using this
      · have := hcell 1 (by omega); simpa [Addr.add] using this
      · have := hcell 2 (by omega); simpa [Addr.add] using this
    obtain ⟨L, hL, hc⟩ := choose_raws len each
    refine ⟨L, .inr ⟨a, cap, by rw [hL], by omega, hm, fun h0 => ?_, fun i hi => hc i hi⟩⟩
    have h1 := block_lt_of_cell (hc 0 h0).1
    rwa [add_block] at h1
end Opens
end Go.Proofs.Ytofcpeginapjdaa
