/-
  DERIVED. GIVEN WITH THE SEED: THE CARDS: each row of YtcghliiodehijaaDoorRows.lean that lists a variable, with what it lists TIED to the program's text (the seventh form; the later family's looks); each row that meets fmt, with fmt's text TOLD by the authors' own Lean function (tested against real Go, not proved from fmt's source: count such statements apart). THE CARD IS WHAT COUNTS. Prove the row's statement (the work); the ties are given (YtcghliiodehijaaDoorTie.lean); close each card by the builder's one call (the guide's Derived/Test/ToyasCard.lean, 'card_holds'). Laid BY PROGRAM, IN A SANDBOX (cutbox-door.mjs). By AI agents, Wed Nov 11 2026. No macro, syntax, notation, axiom, sorry.
-/
import Derived.Test.YtcghliiodehijaaDoorRows
import GoSem.ClaimSeven
namespace Go.Proofs.YtcghliiodehijaaDoor
namespace Rows

/-- THE TIED CARD OF 'laws.FnExactWireName'. -/
def fnExactWireNameCard : Claim7 := { stood := { row := fnExactWireNameRow, standIns := [], harness := (true, "4784388fd5573e1fd7ab907d67f4b06bf99c93aff90cd63e3bb173658b8e0d38"), looks := false }, kinds := [], alts := [], laidByText := true, laidKinds := [.data], laidTests := true, laidLooks := .later }
def FnExactWireNameCardSaid : Prop := Claim7.holds Tryd.pinned (.plain (OpenSpec.ofChange fnExactWireNameSpec)) fnExactWireNameCard

/-- THE SECOND FORM's CARD OF 'laws.FnExactWireName'. -/
def fnExactWireNameUptoCard : Claim7 := { stood := { row := fnExactWireNameUptoRow, standIns := [], harness := (true, "4784388fd5573e1fd7ab907d67f4b06bf99c93aff90cd63e3bb173658b8e0d38"), looks := false }, kinds := [], alts := [], laidByText := true, laidKinds := [.data], laidTests := true, laidLooks := .later }
def FnExactWireNameUptoCardSaid : Prop := Claim7.holds Tryd.pinned (.plain (OpenSpec.upto fnExactWireNameSpec)) fnExactWireNameUptoCard
end Rows
end Go.Proofs.YtcghliiodehijaaDoor
