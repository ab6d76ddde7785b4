/-
  HashOf of the specification.
-/
import Derived.Test.YtdpbgcilkidbaaaDoorRows
import Derived.Test.YtdpbgcilkidbaaaDoorPlain2
import Derived.Test.YtdpbgcilkidbaaaDoorKit5
import Derived.Deep.QuietTactic
import Derived.BigQuiet
import Derived.Deep.RegionWith
import Derived.Deep.RegionHeld3
import Derived.Deep.CutRange
import Derived.Deep.DeepCutAuto
import Derived.Deep.CutBlock
import Derived.Laws.Tables
import Derived.Test.YtdpbgcilkidbaaaDoorPlain3
import Derived.Test.YtdpbgcilkidbaaaDoorWalks2
import Derived.Test.YtdpbgcilkidbaaaDoorJoinB18
import Derived.Test.YtdpbgcilkidbaaaDoorWalks10
namespace Go.Proofs.YtdpbgcilkidbaaaDoor
open Go.RowKit

theorem four_set_at {w : World} {b : Nat} {q : Qd} {y0 y1 y2 y3 : Value} (h0 : w.cell? ⟨b, 0, none⟩ = some y0) (h1 : w.cell? ⟨b, 1, none⟩ = some y1) (h2 : w.cell? ⟨b, 2, none⟩ = some y2) (h3 : w.cell? ⟨b, 3, none⟩ = some y3) :
    ((((w.setCell ⟨b, 0, none⟩ (Value.int IntKind.u64 ((q.a).toNat : Int))).setCell ⟨b, 1, none⟩ (Value.int IntKind.u64 ((q.b).toNat : Int))).setCell ⟨b, 2, none⟩ (Value.int IntKind.u64 ((q.c).toNat : Int))).setCell ⟨b, 3, none⟩ (Value.int IntKind.u64 ((q.d).toNat : Int))).cell? ⟨b, 0, none⟩ = some (Value.int IntKind.u64 ((q.a).toNat : Int)) ∧ ((((w.setCell ⟨b, 0, none⟩ (Value.int IntKind.u64 ((q.a).toNat : Int))).setCell ⟨b, 1, none⟩ (Value.int IntKind.u64 ((q.b).toNat : Int))).setCell ⟨b, 2, none⟩ (Value.int IntKind.u64 ((q.c).toNat : Int))).setCell ⟨b, 3, none⟩ (Value.int IntKind.u64 ((q.d).toNat : Int))).cell? ⟨b, 1, none⟩ = some (Value.int IntKind.u64 ((q.b).toNat : Int)) ∧ ((((w.setCell ⟨b, 0, none⟩ (Value.int IntKind.u64 ((q.a).toNat : Int))).setCell ⟨b, 1, none⟩ (Value.int IntKind.u64 ((q.b).toNat : Int))).setCell ⟨b, 2, none⟩ (Value.int IntKind.u64 ((q.c).toNat : Int))).setCell ⟨b, 3, none⟩ (Value.int IntKind.u64 ((q.d).toNat : Int))).cell? ⟨b, 2, none⟩ = some (Value.int IntKind.u64 ((q.c).toNat : Int)) ∧ ((((w.setCell ⟨b, 0, none⟩ (Value.int IntKind.u64 ((q.a).toNat : Int))).setCell ⟨b, 1, none⟩ (Value.int IntKind.u64 ((q.b).toNat : Int))).setCell ⟨b, 2, none⟩ (Value.int IntKind.u64 ((q.c).toNat : Int))).setCell ⟨b, 3, none⟩ (Value.int IntKind.u64 ((q.d).toNat : Int))).cell? ⟨b, 3, none⟩ = some (Value.int IntKind.u64 ((q.d).toNat : Int)) :=
  four_set (w := w) (b := b) (x0 := Value.int IntKind.u64 ((q.a).toNat : Int)) (x1 := Value.int IntKind.u64 ((q.b).toNat : Int)) (x2 := Value.int IntKind.u64 ((q.c).toNat : Int)) (x3 := Value.int IntKind.u64 ((q.d).toNat : Int)) (fun i hi => by
    have hi' : i = 0 ∨ i = 1 ∨ i = 2 ∨ i = 3 := by omega
    rcases hi' with rfl | rfl | rfl | rfl
    · rw [h0]; rfl
    · rw [h1]; rfl
    · rw [h2]; rfl
    · rw [h3]; rfl)

end Go.Proofs.YtdpbgcilkidbaaaDoor
