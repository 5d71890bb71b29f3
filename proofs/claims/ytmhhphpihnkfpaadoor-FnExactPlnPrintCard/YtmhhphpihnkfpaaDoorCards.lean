/-
  DERIVED. GIVEN WITH THE SEED: THE CARDS: each row of YtmhhphpihnkfpaaDoorRows.lean that lists a variable, with what it lists TIED to the program's text (the seventh form; the later family's looks); each row that meets fmt, with fmt's text TOLD by the authors' own Lean function (tested against real Go, not proved from fmt's source: count such statements apart). THE CARD IS WHAT COUNTS. Prove the row's statement (the work); the ties are given (YtmhhphpihnkfpaaDoorTie.lean); close each card by the builder's one call (the guide's Derived/Test/ToyasCard.lean, 'card_holds'). Laid BY PROGRAM, IN A SANDBOX (cutbox-door.mjs). By AI agents, Wed Nov 11 2026. No macro, syntax, notation, axiom, sorry.
-/
import Derived.Test.YtmhhphpihnkfpaaDoorRows
import GoSem.ClaimSeven
namespace Go.Proofs.YtmhhphpihnkfpaaDoor
namespace Rows

/-- THE TIED CARD OF 'laws.FnExactPlnPrint'. -/
def fnExactPlnPrintCard : Claim7 := { stood := { row := fnExactPlnPrintRow, standIns := [], harness := (true, "8a1facfc326fcaa64f08a56f30fd2648e7d2ca7cd9baaa3610243b439857cb35"), looks := false }, kinds := [], alts := [], laidByText := true, laidKinds := [.data, .data, .data], laidTests := true, laidLooks := .later }
def FnExactPlnPrintCardSaid : Prop := Claim7.holds Tryd.pinned (.plain (OpenSpec.ofChange fnExactPlnPrintSpec)) fnExactPlnPrintCard

/-- THE SECOND FORM's CARD OF 'laws.FnExactPlnPrint'. -/
def fnExactPlnPrintUptoCard : Claim7 := { stood := { row := fnExactPlnPrintUptoRow, standIns := [], harness := (true, "8a1facfc326fcaa64f08a56f30fd2648e7d2ca7cd9baaa3610243b439857cb35"), looks := false }, kinds := [], alts := [], laidByText := true, laidKinds := [.data, .data, .data], laidTests := true, laidLooks := .later }
def FnExactPlnPrintUptoCardSaid : Prop := Claim7.holds Tryd.pinned (.plain (OpenSpec.upto fnExactPlnPrintSpec)) fnExactPlnPrintUptoCard
end Rows
end Go.Proofs.YtmhhphpihnkfpaaDoor
