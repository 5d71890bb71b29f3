/-
  DERIVED. GIVEN WITH THE SEED: THE CARDS: each row of YtacjjhfbnbmnlaaGreatDoorRows.lean that lists a variable, with what it lists TIED to the program's text (the seventh form; the later family's looks); each row that meets fmt, with fmt's text TOLD by the authors' own Lean function (tested against real Go, not proved from fmt's source: count such statements apart). THE CARD IS WHAT COUNTS. Prove the row's statement (the work); the ties are given (YtacjjhfbnbmnlaaGreatDoorTie.lean); close each card by the builder's one call (the guide's Derived/Test/ToyasCard.lean, 'card_holds'). Laid BY PROGRAM, IN A SANDBOX (cutbox-door.mjs). By AI agents, Wed Nov 11 2026. No macro, syntax, notation, axiom, sorry.
-/
import Derived.Test.YtacjjhfbnbmnlaaGreatDoorRows
import GoSem.ClaimSeven
namespace Go.Proofs.YtacjjhfbnbmnlaaGreatDoor
namespace Rows

/-- THE TIED CARD OF 'laws.FnExactSitOk'. -/
def fnExactSitOkCard : Claim7 := { stood := { row := fnExactSitOkRow, standIns := [], harness := (true, "f6c781f4d5fdef9175580bc17f28a82e05f05377fc7d88dd690fda8268a85a46"), looks := true }, kinds := [], alts := [], goes := true, laidByText := true, laidKinds := [.data, .data, .data], laidTests := true, laidLooks := .later }
def FnExactSitOkCardSaid : Prop := Claim7.holds Tryz.pinned (.plain (OpenSpec.ofChange fnExactSitOkSpec)) fnExactSitOkCard

/-- THE TIED CARD OF 'laws.FnExactClkOk'. -/
def fnExactClkOkCard : Claim7 := { stood := { row := fnExactClkOkRow, standIns := [], harness := (true, "f6c781f4d5fdef9175580bc17f28a82e05f05377fc7d88dd690fda8268a85a46"), looks := true }, kinds := [], alts := [], goes := true, laidByText := true, laidKinds := [.data, .data, .data], laidTests := true, laidLooks := .later }
def FnExactClkOkCardSaid : Prop := Claim7.holds Tryz.pinned (.plain (OpenSpec.ofChange fnExactClkOkSpec)) fnExactClkOkCard

/-- THE TIED CARD OF 'laws.FnExactClkReady'. -/
def fnExactClkReadyCard : Claim7 := { stood := { row := fnExactClkReadyRow, standIns := [], harness := (true, "f6c781f4d5fdef9175580bc17f28a82e05f05377fc7d88dd690fda8268a85a46"), looks := true }, kinds := [], alts := [], goes := true, laidByText := true, laidKinds := [.data, .data, .data], laidTests := true, laidLooks := .later }
def FnExactClkReadyCardSaid : Prop := Claim7.holds Tryz.pinned (.plain (OpenSpec.ofChange fnExactClkReadySpec)) fnExactClkReadyCard

/-- THE TIED CARD OF 'laws.FnExactSitFall'. -/
def fnExactSitFallCard : Claim7 := { stood := { row := fnExactSitFallRow, standIns := [], harness := (true, "f6c781f4d5fdef9175580bc17f28a82e05f05377fc7d88dd690fda8268a85a46"), looks := true }, kinds := [], alts := [], goes := true, laidByText := true, laidKinds := [.data, .data, .data], laidTests := true, laidLooks := .later }
def FnExactSitFallCardSaid : Prop := Claim7.holds Tryz.pinned (.plain (OpenSpec.ofChange fnExactSitFallSpec)) fnExactSitFallCard

/-- THE TIED CARD OF 'laws.FnExactClkFall'. -/
def fnExactClkFallCard : Claim7 := { stood := { row := fnExactClkFallRow, standIns := [], harness := (true, "f6c781f4d5fdef9175580bc17f28a82e05f05377fc7d88dd690fda8268a85a46"), looks := true }, kinds := [], alts := [], goes := true, laidByText := true, laidKinds := [.data, .data, .data], laidTests := true, laidLooks := .later }
def FnExactClkFallCardSaid : Prop := Claim7.holds Tryz.pinned (.plain (OpenSpec.ofChange fnExactClkFallSpec)) fnExactClkFallCard

/-- THE TIED CARD OF 'laws.FnExactClkTick'. -/
def fnExactClkTickCard : Claim7 := { stood := { row := fnExactClkTickRow, standIns := [], harness := (true, "f6c781f4d5fdef9175580bc17f28a82e05f05377fc7d88dd690fda8268a85a46"), looks := true }, kinds := [], alts := [], goes := true, laidByText := true, laidKinds := [.data, .data, .data], laidTests := true, laidLooks := .later }
def FnExactClkTickCardSaid : Prop := Claim7.holds Tryz.pinned (.plain (OpenSpec.ofChange fnExactClkTickSpec)) fnExactClkTickCard

/-- THE SECOND FORM's CARD OF 'laws.FnExactSitOk'. -/
def fnExactSitOkUptoCard : Claim7 := { stood := { row := fnExactSitOkUptoRow, standIns := [], harness := (true, "f6c781f4d5fdef9175580bc17f28a82e05f05377fc7d88dd690fda8268a85a46"), looks := true }, kinds := [], alts := [], goes := true, laidByText := true, laidKinds := [.data, .data, .data], laidTests := true, laidLooks := .later }
def FnExactSitOkUptoCardSaid : Prop := Claim7.holds Tryz.pinned (.plain (OpenSpec.upto fnExactSitOkSpec)) fnExactSitOkUptoCard

/-- THE SECOND FORM's CARD OF 'laws.FnExactClkOk'. -/
def fnExactClkOkUptoCard : Claim7 := { stood := { row := fnExactClkOkUptoRow, standIns := [], harness := (true, "f6c781f4d5fdef9175580bc17f28a82e05f05377fc7d88dd690fda8268a85a46"), looks := true }, kinds := [], alts := [], goes := true, laidByText := true, laidKinds := [.data, .data, .data], laidTests := true, laidLooks := .later }
def FnExactClkOkUptoCardSaid : Prop := Claim7.holds Tryz.pinned (.plain (OpenSpec.upto fnExactClkOkSpec)) fnExactClkOkUptoCard

/-- THE SECOND FORM's CARD OF 'laws.FnExactClkReady'. -/
def fnExactClkReadyUptoCard : Claim7 := { stood := { row := fnExactClkReadyUptoRow, standIns := [], harness := (true, "f6c781f4d5fdef9175580bc17f28a82e05f05377fc7d88dd690fda8268a85a46"), looks := true }, kinds := [], alts := [], goes := true, laidByText := true, laidKinds := [.data, .data, .data], laidTests := true, laidLooks := .later }
def FnExactClkReadyUptoCardSaid : Prop := Claim7.holds Tryz.pinned (.plain (OpenSpec.upto fnExactClkReadySpec)) fnExactClkReadyUptoCard

/-- THE SECOND FORM's CARD OF 'laws.FnExactSitFall'. -/
def fnExactSitFallUptoCard : Claim7 := { stood := { row := fnExactSitFallUptoRow, standIns := [], harness := (true, "f6c781f4d5fdef9175580bc17f28a82e05f05377fc7d88dd690fda8268a85a46"), looks := true }, kinds := [], alts := [], goes := true, laidByText := true, laidKinds := [.data, .data, .data], laidTests := true, laidLooks := .later }
def FnExactSitFallUptoCardSaid : Prop := Claim7.holds Tryz.pinned (.plain (OpenSpec.upto fnExactSitFallSpec)) fnExactSitFallUptoCard

/-- THE SECOND FORM's CARD OF 'laws.FnExactClkFall'. -/
def fnExactClkFallUptoCard : Claim7 := { stood := { row := fnExactClkFallUptoRow, standIns := [], harness := (true, "f6c781f4d5fdef9175580bc17f28a82e05f05377fc7d88dd690fda8268a85a46"), looks := true }, kinds := [], alts := [], goes := true, laidByText := true, laidKinds := [.data, .data, .data], laidTests := true, laidLooks := .later }
def FnExactClkFallUptoCardSaid : Prop := Claim7.holds Tryz.pinned (.plain (OpenSpec.upto fnExactClkFallSpec)) fnExactClkFallUptoCard

/-- THE SECOND FORM's CARD OF 'laws.FnExactClkTick'. -/
def fnExactClkTickUptoCard : Claim7 := { stood := { row := fnExactClkTickUptoRow, standIns := [], harness := (true, "f6c781f4d5fdef9175580bc17f28a82e05f05377fc7d88dd690fda8268a85a46"), looks := true }, kinds := [], alts := [], goes := true, laidByText := true, laidKinds := [.data, .data, .data], laidTests := true, laidLooks := .later }
def FnExactClkTickUptoCardSaid : Prop := Claim7.holds Tryz.pinned (.plain (OpenSpec.upto fnExactClkTickSpec)) fnExactClkTickUptoCard
end Rows
end Go.Proofs.YtacjjhfbnbmnlaaGreatDoor
