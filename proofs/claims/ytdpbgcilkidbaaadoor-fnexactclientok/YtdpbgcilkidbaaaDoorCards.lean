/-
  DERIVED. GIVEN WITH THE SEED: THE CARDS: each row of YtdpbgcilkidbaaaDoorRows.lean that lists a variable, with what it lists TIED to the program's text (the seventh form; the later family's looks); each row that meets fmt, with fmt's text TOLD by the authors' own Lean function (tested against real Go, not proved from fmt's source: count such statements apart). THE CARD IS WHAT COUNTS. Prove the row's statement (the work); the ties are given (YtdpbgcilkidbaaaDoorTie.lean); close each card by the builder's one call (the guide's Derived/Test/ToyasCard.lean, 'card_holds'). Laid BY PROGRAM, IN A SANDBOX (cutbox-door.mjs). By AI agents, Wed Nov 11 2026. No macro, syntax, notation, axiom, sorry.
-/
import Derived.Test.YtdpbgcilkidbaaaDoorRows
import GoSem.ClaimSeven
namespace Go.Proofs.YtdpbgcilkidbaaaDoor
namespace Rows

/-- THE TIED CARD OF 'laws.FnExactClientOk'. -/
def fnExactClientOkCard : Claim7 := { stood := { row := fnExactClientOkRow, standIns := [], harness := (true, "f3199140f904dc02e7c81b2ff8aa19838ae31cb5a6cb3bb69d0a3d4c57233afb"), looks := false }, kinds := [], alts := [], laidByText := true, laidKinds := [.wider], laidTests := true, laidLooks := .later }
def FnExactClientOkCardSaid : Prop := Claim7.holds Tryd.pinned (.plain (OpenSpec.ofChange fnExactClientOkSpec)) fnExactClientOkCard

/-- THE TIED CARD OF 'laws.FnExactClientNew'. -/
def fnExactClientNewCard : Claim7 := { stood := { row := fnExactClientNewRow, standIns := [], harness := (true, "f3199140f904dc02e7c81b2ff8aa19838ae31cb5a6cb3bb69d0a3d4c57233afb"), looks := false }, kinds := [], alts := [], laidByText := true, laidKinds := [.wider], laidTests := true, laidLooks := .later }
def FnExactClientNewCardSaid : Prop := Claim7.holds Tryd.pinned (.plain (OpenSpec.ofChange fnExactClientNewSpec)) fnExactClientNewCard

/-- THE SECOND FORM's CARD OF 'laws.FnExactClientOk'. -/
def fnExactClientOkUptoCard : Claim7 := { stood := { row := fnExactClientOkUptoRow, standIns := [], harness := (true, "f3199140f904dc02e7c81b2ff8aa19838ae31cb5a6cb3bb69d0a3d4c57233afb"), looks := false }, kinds := [], alts := [], laidByText := true, laidKinds := [.wider], laidTests := true, laidLooks := .later }
def FnExactClientOkUptoCardSaid : Prop := Claim7.holds Tryd.pinned (.plain (OpenSpec.upto fnExactClientOkSpec)) fnExactClientOkUptoCard

/-- THE SECOND FORM's CARD OF 'laws.FnExactClientNew'. -/
def fnExactClientNewUptoCard : Claim7 := { stood := { row := fnExactClientNewUptoRow, standIns := [], harness := (true, "f3199140f904dc02e7c81b2ff8aa19838ae31cb5a6cb3bb69d0a3d4c57233afb"), looks := false }, kinds := [], alts := [], laidByText := true, laidKinds := [.wider], laidTests := true, laidLooks := .later }
def FnExactClientNewUptoCardSaid : Prop := Claim7.holds Tryd.pinned (.plain (OpenSpec.upto fnExactClientNewSpec)) fnExactClientNewUptoCard
end Rows
end Go.Proofs.YtdpbgcilkidbaaaDoor
