/-
  Closed facts of the row of FnExactClkFall, a part of them.
-/
import Derived.JoinedOf
import Derived.Test.YtacfoeekmcnpjaaGreatDoorQA
namespace Go.Proofs.YtacfoeekmcnpjaaGreatDoor.jfFnExactClkFall
set_option linter.unusedVariables false
set_option maxRecDepth 100000
set_option maxHeartbeats 25600000
theorem k10 : ((Rows.fnExactClkFallRow.unfollowed == Tryz.prog.unfollowed 8)) = true := by kernel_rfl
end Go.Proofs.YtacfoeekmcnpjaaGreatDoor.jfFnExactClkFall
