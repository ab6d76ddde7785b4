/-
  HashOf of the specification.
-/
import Derived.Test.YtegihccdpohnnaaRows
import Derived.Test.YtegihccdpohnnaaPlain2
import Derived.Test.YtegihccdpohnnaaKit5
import Derived.Deep.QuietTactic
import Derived.BigQuiet
import Derived.Deep.RegionWith
import Derived.Deep.RegionHeld3
import Derived.Deep.CutRange
import Derived.Deep.DeepCutAuto
import Derived.Deep.CutBlock
import Derived.Laws.Tables
import Derived.Test.YtegihccdpohnnaaPlain3
import Derived.Test.YtegihccdpohnnaaWalks2
import Derived.Test.YtegihccdpohnnaaWalks6
import Derived.Test.YtegihccdpohnnaaWalks8
import Derived.Test.YtegihccdpohnnaaWalks10
namespace Go.Proofs.Ytegihccdpohnnaa
open Go.RowKit

theorem four_set_at {w : World} {b : Nat} {q : Qd} {y0 y1 y2 y3 : Value} (h0 : w.cell? ⟨b, 0, none⟩ = some y0) (h1 : w.cell? ⟨b, 1, none⟩ = some y1) (h2 : w.cell? ⟨b, 2, none⟩ = some y2) (h3 : w.cell? ⟨b, 3, none⟩ = some y3) :
    ((((w.setCell ⟨b, 0, none⟩ (Value.int IntKind.u64 ((q.a).toNat : Int))).setCell ⟨b, 1, none⟩ (Value.int IntKind.u64 ((q.b).toNat : Int))).setCell ⟨b, 2, none⟩ (Value.int IntKind.u64 ((q.c).toNat : Int))).setCell ⟨b, 3, none⟩ (Value.int IntKind.u64 ((q.d).toNat : Int))).cell? ⟨b, 0, none⟩ = some (Value.int IntKind.u64 ((q.a).toNat : Int)) ∧ ((((w.setCell ⟨b, 0, none⟩ (Value.int IntKind.u64 ((q.a).toNat : Int))).setCell ⟨b, 1, none⟩ (Value.int IntKind.u64 ((q.b).toNat : Int))).setCell ⟨b, 2, none⟩ (Value.int IntKind.u64 ((q.c).toNat : Int))).setCell ⟨b, 3, none⟩ (Value.int IntKind.u64 ((q.d).toNat : Int))).cell? ⟨b, 1, none⟩ = some (Value.int IntKind.u64 ((q.b).toNat : Int)) ∧ ((((w.setCell ⟨b, 0, none⟩ (Value.int IntKind.u64 ((q.a).toNat : Int))).setCell ⟨b, 1, none⟩ (Value.int IntKind.u64 ((q.b).toNat : Int))).setCell ⟨b, 2, none⟩ (Value.int IntKind.u64 ((q.c).toNat : Int))).setCell ⟨b, 3, none⟩ (Value.int IntKind.u64 ((q.d).toNat : Int))).cell? ⟨b, 2, none⟩ = some (Value.int IntKind.u64 ((q.c).toNat : Int)) ∧ ((((w.setCell ⟨b, 0, none⟩ (Value.int IntKind.u64 ((q.a).toNat : Int))).setCell ⟨b, 1, none⟩ (Value.int IntKind.u64 ((q.b).toNat : Int))).setCell ⟨b, 2, none⟩ (Value.int IntKind.u64 ((q.c).toNat : Int))).setCell ⟨b, 3, none⟩ (Value.int IntKind.u64 ((q.d).toNat : Int))).cell? ⟨b, 3, none⟩ = some (Value.int IntKind.u64 ((q.d).toNat : Int)) :=
  four_set (w := w) (b := b) (x0 := Value.int IntKind.u64 ((q.a).toNat : Int)) (x1 := Value.int IntKind.u64 ((q.b).toNat : Int)) (x2 := Value.int IntKind.u64 ((q.c).toNat : Int)) (x3 := Value.int IntKind.u64 ((q.d).toNat : Int)) (fun i hi => by
    have hi' : i = 0 ∨ i = 1 ∨ i = 2 ∨ i = 3 := by omega
    rcases hi' with rfl | rfl | rfl | rfl
    · rw [h0]; rfl
    · rw [h1]; rfl
    · rw [h2]; rfl
    · rw [h3]; rfl)

/-- One byte in a row, as a string. -/
theorem run_str_one (W : World) (b : Nat) (x : UInt8) (h : W.cell? ⟨b, 0, none⟩ = some (.int .u8 (x.toNat : Int))) :
    (convert 45 9 (.slice (some ⟨b, 0, none⟩) 1 1)).run Try.prog W = .ok (.string (str [x])) W := by
  rw [run_convert_bytes_string _ 45 9 5 _ _ _ Try.underlying45 Try.underlying5 Try.underlying9]
  refine run_str_cells _ _ _ _ [x] rfl (fun j u hu => ?_)
  match j, hu with
  | 0, hu => simp [bv] at hu; subst hu; simpa [Addr.add] using h

end Go.Proofs.Ytegihccdpohnnaa
