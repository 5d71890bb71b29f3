/-
  DERIVED. GIVEN WITH THE SEED: THE CARDS: each row of YtkmacleakfbobaaGreatDoorRows.lean that lists a variable, with what it lists TIED to the program's text (the seventh form; the later family's looks); each row that meets fmt, with fmt's text TOLD by the authors' own Lean function (tested against real Go, not proved from fmt's source: count such statements apart). THE CARD IS WHAT COUNTS. Prove the row's statement (the work); the ties are given (YtkmacleakfbobaaGreatDoorTie.lean); close each card by the builder's one call (the guide's Derived/Test/ToyasCard.lean, 'card_holds'). Laid BY PROGRAM, IN A SANDBOX (cutbox-door.mjs). By AI agents, Wed Nov 11 2026. No macro, syntax, notation, axiom, sorry.
-/
import Derived.Test.YtkmacleakfbobaaGreatDoorRows
import GoSem.ClaimSeven
namespace Go.Proofs.YtkmacleakfbobaaGreatDoor
namespace Rows

/-- THE TIED CARD OF 'laws.FnExactCallRead'. -/
def fnExactCallReadCard : Claim7 := { stood := { row := fnExactCallReadRow, standIns := [], harness := (true, "9aa9018d84f79404640d6b219b46c45f778713d303561bc8498c011afd608aea"), looks := true }, kinds := [], alts := [], laidByText := true, laidKinds := [.data, .data, .data, .data, .handle, .sentinel, .sentinel, .pinned], laidTests := true, laidLooks := .later }
def FnExactCallReadCardSaid : Prop := Claim7.holds Tryz.pinned (.plain (OpenSpec.ofChange fnExactCallReadSpec)) fnExactCallReadCard

/-- THE SECOND FORM's CARD OF 'laws.FnExactCallRead'. -/
def fnExactCallReadUptoCard : Claim7 := { stood := { row := fnExactCallReadUptoRow, standIns := [], harness := (true, "9aa9018d84f79404640d6b219b46c45f778713d303561bc8498c011afd608aea"), looks := true }, kinds := [], alts := [], laidByText := true, laidKinds := [.data, .data, .data, .data, .handle, .sentinel, .sentinel, .pinned], laidTests := true, laidLooks := .later }
def FnExactCallReadUptoCardSaid : Prop := Claim7.holds Tryz.pinned (.plain (OpenSpec.upto fnExactCallReadSpec)) fnExactCallReadUptoCard
end Rows
end Go.Proofs.YtkmacleakfbobaaGreatDoor
