/-
  Two facts of the program that every row asks for.
-/
import Derived.Test.YtoeealomnifddaaRows
import Derived.WalkKit
import Derived.ProofKit
import Derived.OpenShut
import Derived.ShutString
import Derived.ChangeOld
import Derived.Below
import Derived.Lib.SmallJoins
import Derived.Deep.Strs
import Derived.Test.YtoeealomnifddaaBag
import Derived.SliceStrings
import Derived.Deep.Slices
namespace Go.Proofs.Ytoeealomnifddaa
open Go.ChangeShapes Go.WideShapes Go.ChangeAt Go.RowKit Go.Joins
namespace Opens
theorem own : ownKnob Try.prog.godebug = none := by kernel_rfl
theorem laidOut : laidOutB Try.prog = true := by kernel_rfl
end Opens
end Go.Proofs.Ytoeealomnifddaa

/-
  A letter that came in, opened.
-/
namespace Go.Proofs.Ytoeealomnifddaa
open Go.ChangeShapes Go.WideShapes Go.ChangeAt Go.RowKit Go.Joins
namespace Opens
theorem cellsI : Try.prog.cellsOf 3 = 1 := by kernel_rfl
theorem cellsS : Try.prog.cellsOf 9 = 1 := by kernel_rfl
theorem cellsLe : Try.prog.cellsOf 48 = 3 := by kernel_rfl
set_option maxRecDepth 100000 in
theorem letter_cells {H : Type} {enc : TypeId × Value → H} {W : World} {base n : Nat} {spare : Nat → Bool} {held : Bool} {cs : List Value} {x : DataW H × List MemPlace}
    (hl : cs.length = 3) (h : DataW.trod enc Try.prog W base spare held n 48 cs = some x) : ∃ (f t : Int) (s : ByteArray), cs = [.int .i64 f, .int .i64 t, .string s] ∧ s.size ≤ maxLen := by
  match cs, hl with
  | [c0, c1, c2], _ =>
    obtain ⟨y0, y1, y2, m, _, _, h0, h1, h2⟩ := Go.Deep.trod_struct3 Try.underlying48 h
    simp only [cellsI, cellsS, List.drop_zero, List.drop_succ_cons, List.take_succ_cons, List.take_zero] at h0 h1 h2
    obtain ⟨f, e0, _, _⟩ := DataW.trod_int Try.underlying3 h0
    obtain ⟨t, e1, _, _⟩ := DataW.trod_int Try.underlying3 h1
    obtain ⟨s, e2, _, hs⟩ := DataW.trod_string Try.underlying9 h2
    simp at e0 e1 e2
    subst e0 e1 e2
    exact ⟨f, t, s, rfl, hs⟩
set_option maxRecDepth 100000 in
theorem open_letter {H : Type} {enc : TypeId × Value → H} {W : World} {r : Reach} {base b0 : Nat} {spare : Nat → Bool} {held : Bool} {v : Value} {d : DataW H} {p : List MemPlace}
    (hv : Value.okWide Try.prog W r b0 48 v) (h : DataW.Trod enc Try.prog W base spare held 48 v d p) : ∃ (f t : Int) (s : ByteArray), v = .agg #[.int .i64 f, .int .i64 t, .string s] ∧ s.size ≤ maxLen := by
  obtain ⟨cs, rfl, hsz⟩ := okWide_struct Try.underlying48 hv
  rw [cellsLe] at hsz
  obtain ⟨l⟩ := cs
  obtain ⟨fuel, hf⟩ := h
  obtain ⟨f, t, s, e, hs⟩ := letter_cells (cs := l) hsz hf
  subst e
  exact ⟨f, t, s, rfl, hs⟩
end Opens
end Go.Proofs.Ytoeealomnifddaa

/-
  A bag that came in, opened.
-/
namespace Go.Proofs.Ytoeealomnifddaa
open Go.ChangeShapes Go.WideShapes Go.ChangeAt Go.RowKit Go.Joins
namespace Opens
theorem cellsBg : Try.prog.cellsOf 47 = 2 := by kernel_rfl
theorem cellsLs : Try.prog.cellsOf 45 = 1 := by kernel_rfl
theorem choose_letters {P : Nat → Lt → Prop} : ∀ n : Nat, (∀ i, i < n → ∃ q, P i q) → ∃ L : List Lt, L.length = n ∧ ∀ (i : Nat) (h : i < L.length), P i L[i]
  | 0, _ => ⟨[], rfl, fun i h => by simp at h⟩
  | n + 1, h => by
    obtain ⟨L, hl, hL⟩ := choose_letters n (fun i hi => h i (by omega))
    obtain ⟨q, hq⟩ := h n (by omega)
    refine ⟨L ++ [q], by simp [hl], fun i hi => ?_⟩
    by_cases e : i < L.length
    · rw [List.getElem_append_left e]; exact hL i e
    · have e2 : i = L.length := by simp at hi; omega
      subst e2
      rw [List.getElem_concat_length rfl, hl]
      exact hq
set_option maxRecDepth 100000 in
theorem open_bag {H : Type} {enc : TypeId × Value → H} {W : World} {r : Reach} {base b0 : Nat} {spare : Nat → Bool} {held : Bool} {v : Value} {d : DataW H} {p : List MemPlace}
    (hv : Value.okWide Try.prog W r b0 47 v) (h : DataW.Trod enc Try.prog W base spare held 47 v d p) : ∃ (m : Int) (u : Value) (L : List Lt), v = .agg #[.int .i64 m, u] ∧ Lts W u L ∧ ∀ l ∈ L, l.s.size ≤ maxLen := by
  obtain ⟨cs, rfl, hsz⟩ := okWide_struct Try.underlying47 hv
  rw [cellsBg] at hsz
  obtain ⟨l⟩ := cs
  match l, hsz with
  | [c0, c1], _ =>
    obtain ⟨fuel, hf⟩ := h
    obtain ⟨y0, y1, n, _, _, h0, h1⟩ := trod_struct2 Try.underlying47 hf
    simp only [Value.cells, cellsI, cellsLs, List.drop_zero, List.drop_succ_cons, List.take_succ_cons, List.take_zero] at h0 h1
    obtain ⟨m, e, _, _⟩ := DataW.trod_int Try.underlying3 h0
    simp at e
    subst e
    rcases DataW.trod_slice Try.underlying45 h1 with ⟨hcs, _⟩ | ⟨a, len, cap, elems, rest, n, _, hcs, _, hb, hl, hm, hlen, hel, _, _⟩
    · simp at hcs
      subst hcs
      exact ⟨m, _, [], rfl, .inl ⟨rfl, rfl⟩, fun l h => by cases h⟩
    · simp at hcs
      subst hcs
      have each : ∀ i, i < len → ∃ l : Lt, LAt W (a.add (i * 3)) l ∧ l.s.size ≤ maxLen := fun i hi => by
        have h1 := hel i hi
        rw [cellsLe, List.getElem?_eq_getElem (by omega), Option.bind_eq_some_iff] at h1
        obtain ⟨cs, h2, h3⟩ := h1
        obtain ⟨_, hln, hcell⟩ := World.cells?_some h2
        obtain ⟨f, t, s, e, hs⟩ := letter_cells hln h3
        subst e
        refine ⟨⟨f, t, s⟩, ⟨?_, ?_, ?_⟩, hs⟩
        · have := hcell 0 (by omega); simpa [Addr.add] using this
        · have := hcell 1 (by omega); simpa [Addr.add] using this
        · have := hcell 2 (by omega); simpa [Addr.add] using this
      obtain ⟨L, hL, hc⟩ := choose_letters len each
      refine ⟨m, _, L, rfl, .inr ⟨a, cap, by rw [hL], by omega, hm, fun h0 => ?_, fun i hi => (hc i hi).1⟩, fun l hl' => ?_⟩
      · have h1 := block_lt_of_cell (hc 0 h0).1.1
        rwa [add_block] at h1
      · obtain ⟨i, hi, rfl⟩ := List.mem_iff_getElem.1 hl'
        exact (hc i hi).2
end Opens
end Go.Proofs.Ytoeealomnifddaa
