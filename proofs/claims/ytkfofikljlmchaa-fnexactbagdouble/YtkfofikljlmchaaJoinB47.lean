/-
  The law of BagSend, its letter's parts apart.
-/
import Derived.Test.YtkfofikljlmchaaLawBS
import Derived.Test.YtkfofikljlmchaaRows
import Derived.WalkKit
import Derived.ProofKit
import Derived.OpenShut
import Derived.ShutString
import Derived.ChangeOld
import Derived.Below
import Derived.Lib.SmallJoins
import Derived.Deep.Strs
namespace Go.Proofs.Ytkfofikljlmchaa
open Go.RowKit
theorem lawBagSendP (m : Int) (v : Value) (L : List Lt) (f t : Int) (s : ByteArray) (w : World) (h : Lts w v L ∧ ∀ l ∈ L, l.s.size ≤ maxLen) (hs : s.size ≤ maxLen) :
    Calls Try.prog 6 #[.agg #[.int .i64 m, v], .agg #[.int .i64 f, .int .i64 t, .string s]] w fun e w' => e = .returned (.bool true) ∧ Below w.heap.size w w' :=
  lawBagSend m v L ⟨f, t, s⟩ w ⟨h.1, h.2, hs⟩
end Go.Proofs.Ytkfofikljlmchaa

/-
  Two facts of the program that every row asks for.
-/
namespace Go.Proofs.Ytkfofikljlmchaa
open Go.ChangeShapes Go.WideShapes Go.ChangeAt Go.RowKit Go.Joins
namespace Opens
theorem own : ownKnob Try.prog.godebug = none := by kernel_rfl
theorem laidOut : laidOutB Try.prog = true := by kernel_rfl
end Opens
end Go.Proofs.Ytkfofikljlmchaa

/-
  A letter that came in, opened.
-/
namespace Go.Proofs.Ytkfofikljlmchaa
open Go.ChangeShapes Go.WideShapes Go.ChangeAt Go.RowKit Go.Joins
namespace Opens
theorem cellsI : Try.prog.cellsOf 3 = 1 := by kernel_rfl
theorem cellsS : Try.prog.cellsOf 9 = 1 := by kernel_rfl
theorem cellsLe : Try.prog.cellsOf 48 = 3 := by kernel_rfl
set_option maxRecDepth 100000 in
theorem letter_cells {H : Type} {enc : TypeId × Value → H} {W : World} {base n : Nat} {spare : Nat → Bool} {held : Bool} {cs : List Value} {x : DataW H × List MemPlace}
    (hl : cs.length = 3) (h : DataW.trod enc Try.prog W base spare held n 48 cs = some x) : ∃ (f t : Int) (s : ByteArray), cs = [.int .i64 f, .int .i64 t, .string s] ∧ s.size ≤ maxLen := by
  match cs, hl with
  | [c0, c1, c2], _ =>
    obtain ⟨y0, y1, y2, m, _, _, h0, h1, h2⟩ := Go.Deep.trod_struct3 Try.underlying48 h
    simp only [cellsI, cellsS, List.drop_zero, List.drop_succ_cons, List.take_succ_cons, List.take_zero] at h0 h1 h2
    obtain ⟨f, e0, _, _⟩ := DataW.trod_int Try.underlying3 h0
    obtain ⟨t, e1, _, _⟩ := DataW.trod_int Try.underlying3 h1
    obtain ⟨s, e2, _, hs⟩ := DataW.trod_string Try.underlying9 h2
    simp at e0 e1 e2
    subst e0 e1 e2
    exact ⟨f, t, s, rfl, hs⟩
set_option maxRecDepth 100000 in
theorem open_letter {H : Type} {enc : TypeId × Value → H} {W : World} {r : Reach} {base b0 : Nat} {spare : Nat → Bool} {held : Bool} {v : Value} {d : DataW H} {p : List MemPlace}
    (hv : Value.okWide Try.prog W r b0 48 v) (h : DataW.Trod enc Try.prog W base spare held 48 v d p) : ∃ (f t : Int) (s : ByteArray), v = .agg #[.int .i64 f, .int .i64 t, .string s] ∧ s.size ≤ maxLen := by
  obtain ⟨cs, rfl, hsz⟩ := okWide_struct Try.underlying48 hv
  rw [cellsLe] at hsz
  obtain ⟨l⟩ := cs
  obtain ⟨fuel, hf⟩ := h
  obtain ⟨f, t, s, e, hs⟩ := letter_cells (cs := l) hsz hf
  subst e
  exact ⟨f, t, s, rfl, hs⟩
end Opens
end Go.Proofs.Ytkfofikljlmchaa
