/-
  DERIVED. GIVEN WITH THE SEED: THE CARDS: each row of YtfmpcihghlnlnaaGreatDoorRows.lean that lists a variable, with what it lists TIED to the program's text (the seventh form; the later family's looks); each row that meets fmt, with fmt's text TOLD by the authors' own Lean function (tested against real Go, not proved from fmt's source: count such statements apart). THE CARD IS WHAT COUNTS. Prove the row's statement (the work); the ties are given (YtfmpcihghlnlnaaGreatDoorTie.lean); close each card by the builder's one call (the guide's Derived/Test/ToyasCard.lean, 'card_holds'). Laid BY PROGRAM, IN A SANDBOX (cutbox-door.mjs). By AI agents, Wed Nov 11 2026. No macro, syntax, notation, axiom, sorry.
-/
import Derived.Test.YtfmpcihghlnlnaaGreatDoorRows
import GoSem.ClaimSeven
namespace Go.Proofs.YtfmpcihghlnlnaaGreatDoor
namespace Rows

/-- THE TIED CARD OF 'laws.FnExactSitFree'. -/
def fnExactSitFreeCard : Claim7 := { stood := { row := fnExactSitFreeRow, standIns := [], harness := (true, "a8c870692e84ce2397f52a3e64497b06210a33f3795601965b386327aae422bb"), looks := true }, kinds := [], alts := [], laidByText := true, laidKinds := [.data, .data, .data], laidTests := true, laidLooks := .later }
def FnExactSitFreeCardSaid : Prop := Claim7.holds Tryz.pinned (.plain (OpenSpec.ofChange fnExactSitFreeSpec)) fnExactSitFreeCard

/-- THE SECOND FORM's CARD OF 'laws.FnExactSitFree'. -/
def fnExactSitFreeUptoCard : Claim7 := { stood := { row := fnExactSitFreeUptoRow, standIns := [], harness := (true, "a8c870692e84ce2397f52a3e64497b06210a33f3795601965b386327aae422bb"), looks := true }, kinds := [], alts := [], laidByText := true, laidKinds := [.data, .data, .data], laidTests := true, laidLooks := .later }
def FnExactSitFreeUptoCardSaid : Prop := Claim7.holds Tryz.pinned (.plain (OpenSpec.upto fnExactSitFreeSpec)) fnExactSitFreeUptoCard
end Rows
end Go.Proofs.YtfmpcihghlnlnaaGreatDoor
