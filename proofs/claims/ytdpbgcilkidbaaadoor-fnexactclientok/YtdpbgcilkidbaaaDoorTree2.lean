/-
  treeOfLeaves and rootOfNode of the program, walked.
-/
import Derived.Test.YtdpbgcilkidbaaaDoorTree
namespace Go.Proofs.YtdpbgcilkidbaaaDoor
open Go.RowKit

theorem ta_yes {P : Program} (t xT : TypeId) (v : Value) (W : World) (h : ∃ fs, P.underlying t = some (.struct fs)) : (Instr.typeAssert (.iface t v) xT t true).run P W = .ok (.tuple #[v, .bool true]) W := by
  obtain ⟨fs, h⟩ := h
  simp [Instr.typeAssert, run_underlying h, go_sem, Result.andThen]
theorem ta_no {P : Program} (t a xT : TypeId) (v z : Value) (W : World) (h : ∃ fs, P.underlying a = some (.struct fs)) (hne : t ≠ a) (hz : (P.info? a).map (·.zero) = some (some z)) : (Instr.typeAssert (.iface t v) xT a true).run P W = .ok (.tuple #[z, .bool false]) W := by
  obtain ⟨fs, h⟩ := h
  cases hq : P.info? a with
  | none => simp [hq] at hz
  | some i =>
    simp [hq] at hz
    simp [Instr.typeAssert, run_underlying h, go_sem, Result.andThen, hne, zeroValue, typeInfo, hq, hz]
theorem ta_nil {P : Program} (a xT : TypeId) (z : Value) (W : World) (h : ∃ fs, P.underlying a = some (.struct fs)) (hz : (P.info? a).map (·.zero) = some (some z)) : (Instr.typeAssert .nilIface xT a true).run P W = .ok (.tuple #[z, .bool false]) W := by
  obtain ⟨fs, h⟩ := h
  cases hq : P.info? a with
  | none => simp [hq] at hz
  | some i =>
    simp [hq] at hz
    simp [Instr.typeAssert, run_underlying h, go_sem, Result.andThen, zeroValue, typeInfo, hq, hz]
/-- The root that TreeRoot tells. -/
def trv (S : List ByteArray) : Qd := if lok S then rootN 256 S else { a := 0, b := 0, c := 0, d := 0 }
theorem lok_yes {S : List ByteArray} (h : lok S = true) : S.length ≤ 256 ∧ ∀ s ∈ S, s.size ≤ 40 := by
  unfold lok at h
  rw [Bool.and_eq_true, decide_eq_true_iff, List.all_eq_true] at h
  exact ⟨h.1, fun s hs => by simpa using h.2 s hs⟩
end Go.Proofs.YtdpbgcilkidbaaaDoor
