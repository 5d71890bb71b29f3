/-
  DERIVED. GIVEN WITH THE SEED: THE CARDS: each row of YtdigmokjedckeaaGreatDoorRows.lean that lists a variable, with what it lists TIED to the program's text (the seventh form; the later family's looks); each row that meets fmt, with fmt's text TOLD by the authors' own Lean function (tested against real Go, not proved from fmt's source: count such statements apart). THE CARD IS WHAT COUNTS. Prove the row's statement (the work); the ties are given (YtdigmokjedckeaaGreatDoorTie.lean); close each card by the builder's one call (the guide's Derived/Test/ToyasCard.lean, 'card_holds'). Laid BY PROGRAM, IN A SANDBOX (cutbox-door.mjs). By AI agents, Wed Nov 11 2026. No macro, syntax, notation, axiom, sorry.
-/
import Derived.Test.YtdigmokjedckeaaGreatDoorRows
import GoSem.ClaimSeven
namespace Go.Proofs.YtdigmokjedckeaaGreatDoor
namespace Rows

/-- THE TIED CARD OF 'laws.FnExactSitOk'. -/
def fnExactSitOkCard : Claim7 := { stood := { row := fnExactSitOkRow, standIns := [], harness := (true, "22cc3d0a387a824cbb8d8aea7c1dcc550c4f3f41dfb7464ed651c0f115e8c369"), looks := true }, kinds := [], alts := [], laidByText := true, laidKinds := [.data, .data, .data], laidTests := true, laidLooks := .later }
def FnExactSitOkCardSaid : Prop := Claim7.holds Tryz.pinned (.plain (OpenSpec.ofChange fnExactSitOkSpec)) fnExactSitOkCard

/-- THE TIED CARD OF 'laws.FnExactClkOk'. -/
def fnExactClkOkCard : Claim7 := { stood := { row := fnExactClkOkRow, standIns := [], harness := (true, "22cc3d0a387a824cbb8d8aea7c1dcc550c4f3f41dfb7464ed651c0f115e8c369"), looks := true }, kinds := [], alts := [], laidByText := true, laidKinds := [.data, .data, .data], laidTests := true, laidLooks := .later }
def FnExactClkOkCardSaid : Prop := Claim7.holds Tryz.pinned (.plain (OpenSpec.ofChange fnExactClkOkSpec)) fnExactClkOkCard

/-- THE TIED CARD OF 'laws.FnExactClkReady'. -/
def fnExactClkReadyCard : Claim7 := { stood := { row := fnExactClkReadyRow, standIns := [], harness := (true, "22cc3d0a387a824cbb8d8aea7c1dcc550c4f3f41dfb7464ed651c0f115e8c369"), looks := true }, kinds := [], alts := [], laidByText := true, laidKinds := [.data, .data, .data], laidTests := true, laidLooks := .later }
def FnExactClkReadyCardSaid : Prop := Claim7.holds Tryz.pinned (.plain (OpenSpec.ofChange fnExactClkReadySpec)) fnExactClkReadyCard

/-- THE SECOND FORM's CARD OF 'laws.FnExactSitOk'. -/
def fnExactSitOkUptoCard : Claim7 := { stood := { row := fnExactSitOkUptoRow, standIns := [], harness := (true, "22cc3d0a387a824cbb8d8aea7c1dcc550c4f3f41dfb7464ed651c0f115e8c369"), looks := true }, kinds := [], alts := [], laidByText := true, laidKinds := [.data, .data, .data], laidTests := true, laidLooks := .later }
def FnExactSitOkUptoCardSaid : Prop := Claim7.holds Tryz.pinned (.plain (OpenSpec.upto fnExactSitOkSpec)) fnExactSitOkUptoCard

/-- THE SECOND FORM's CARD OF 'laws.FnExactClkOk'. -/
def fnExactClkOkUptoCard : Claim7 := { stood := { row := fnExactClkOkUptoRow, standIns := [], harness := (true, "22cc3d0a387a824cbb8d8aea7c1dcc550c4f3f41dfb7464ed651c0f115e8c369"), looks := true }, kinds := [], alts := [], laidByText := true, laidKinds := [.data, .data, .data], laidTests := true, laidLooks := .later }
def FnExactClkOkUptoCardSaid : Prop := Claim7.holds Tryz.pinned (.plain (OpenSpec.upto fnExactClkOkSpec)) fnExactClkOkUptoCard

/-- THE SECOND FORM's CARD OF 'laws.FnExactClkReady'. -/
def fnExactClkReadyUptoCard : Claim7 := { stood := { row := fnExactClkReadyUptoRow, standIns := [], harness := (true, "22cc3d0a387a824cbb8d8aea7c1dcc550c4f3f41dfb7464ed651c0f115e8c369"), looks := true }, kinds := [], alts := [], laidByText := true, laidKinds := [.data, .data, .data], laidTests := true, laidLooks := .later }
def FnExactClkReadyUptoCardSaid : Prop := Claim7.holds Tryz.pinned (.plain (OpenSpec.upto fnExactClkReadySpec)) fnExactClkReadyUptoCard
end Rows
end Go.Proofs.YtdigmokjedckeaaGreatDoor
