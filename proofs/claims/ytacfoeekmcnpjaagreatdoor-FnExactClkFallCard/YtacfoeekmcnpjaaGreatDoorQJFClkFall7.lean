/-
  Closed facts of the row of FnExactClkFall, a part of them.
-/
import Derived.JoinedOf
import Derived.SevenTiedAt
import Derived.Test.YtacfoeekmcnpjaaGreatDoorCards
import Derived.Test.YtacfoeekmcnpjaaGreatDoorQA
namespace Go.Proofs.YtacfoeekmcnpjaaGreatDoor.jfFnExactClkFall
set_option linter.unusedVariables false
set_option maxRecDepth 100000
set_option maxHeartbeats 25600000
theorem wfb : Rows.fnExactClkFallRow.wfByText (OpenSpec.ofChange Rows.fnExactClkFallSpec) = true := by kernel_rfl
theorem mn : Tryz.prog.mainIs = some (Rows.fnExactClkFallCard.stood.harness.1, Rows.fnExactClkFallCard.stood.harness.2.toList) := by kernel_rfl
theorem lk : Rows.fnExactClkFallCard.stood.looks = Tryz.prog.looks [] := by kernel_rfl
end Go.Proofs.YtacfoeekmcnpjaaGreatDoor.jfFnExactClkFall
