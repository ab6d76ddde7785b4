/-
  DERIVED. GIVEN WITH THE SEED: THE CARDS: each row of YteaaaojafipllaaDoorRows.lean that lists a variable, with what it lists TIED to the program's text (the seventh form; the later family's looks); each row that meets fmt, with fmt's text TOLD by the authors' own Lean function (tested against real Go, not proved from fmt's source: count such statements apart). THE CARD IS WHAT COUNTS. Prove the row's statement (the work); the ties are given (YteaaaojafipllaaDoorTie.lean); close each card by the builder's one call (the guide's Derived/Test/ToyasCard.lean, 'card_holds'). Laid BY PROGRAM, IN A SANDBOX (cutbox-door.mjs). By AI agents, Wed Nov 11 2026. No macro, syntax, notation, axiom, sorry.
-/
import Derived.Test.YteaaaojafipllaaDoorRows
import GoSem.ClaimSeven
namespace Go.Proofs.YteaaaojafipllaaDoor
namespace Rows

/-- THE TIED CARD OF 'laws.FnExactWitnessOk'. -/
def fnExactWitnessOkCard : Claim7 := { stood := { row := fnExactWitnessOkRow, standIns := [], harness := (true, "916eeccca473976b63ac6fbd21091d7248107946b87111498e5bd6d62125a0ca"), looks := true }, kinds := [], alts := [], laidByText := true, laidKinds := [.wider], laidTests := true, laidLooks := .later }
def FnExactWitnessOkCardSaid : Prop := Claim7.holds Tryd.pinned (.plain (OpenSpec.ofChange fnExactWitnessOkSpec)) fnExactWitnessOkCard

/-- THE SECOND FORM's CARD OF 'laws.FnExactWitnessOk'. -/
def fnExactWitnessOkUptoCard : Claim7 := { stood := { row := fnExactWitnessOkUptoRow, standIns := [], harness := (true, "916eeccca473976b63ac6fbd21091d7248107946b87111498e5bd6d62125a0ca"), looks := true }, kinds := [], alts := [], laidByText := true, laidKinds := [.wider], laidTests := true, laidLooks := .later }
def FnExactWitnessOkUptoCardSaid : Prop := Claim7.holds Tryd.pinned (.plain (OpenSpec.upto fnExactWitnessOkSpec)) fnExactWitnessOkUptoCard
end Rows
end Go.Proofs.YteaaaojafipllaaDoor
