/-
  The closed facts of the row of FnExactClkFall.
-/
import Derived.Test.YtacfoeekmcnpjaaGreatDoorQJFClkFall0
import Derived.Test.YtacfoeekmcnpjaaGreatDoorQJFClkFall1
import Derived.Test.YtacfoeekmcnpjaaGreatDoorQJFClkFall2
import Derived.Test.YtacfoeekmcnpjaaGreatDoorQJFClkFall3
import Derived.Test.YtacfoeekmcnpjaaGreatDoorQJFClkFall4
import Derived.Test.YtacfoeekmcnpjaaGreatDoorQJFClkFall5
import Derived.Test.YtacfoeekmcnpjaaGreatDoorQJFClkFall6
import Derived.Test.YtacfoeekmcnpjaaGreatDoorQJFClkFall7
namespace Go.Proofs.YtacfoeekmcnpjaaGreatDoor.jfFnExactClkFall
set_option linter.unusedVariables false
set_option maxRecDepth 100000
set_option maxHeartbeats 25600000
theorem closed : joinedFacts Tryz.prog 8 Tryz.f8 Rows.fnExactClkFallSpec Rows.fnExactClkFallRow = true := by
 unfold joinedFacts
 simp only [Bool.and_eq_true]
 exact ⟨⟨⟨⟨⟨⟨⟨⟨⟨⟨⟨⟨⟨⟨⟨⟨⟨⟨⟨⟨⟨⟨⟨⟨⟨⟨⟨⟨⟨⟨⟨k0, k1⟩, k2⟩, k3⟩, k4⟩, k5⟩, k6⟩, k7⟩, k8⟩, k9⟩, k10⟩, k11⟩, k12⟩, k13⟩, k14⟩, k15⟩, k16⟩, k17⟩, k18⟩, k19⟩, k20⟩, k21⟩, k22⟩, k23⟩, k24⟩, k25⟩, k26⟩, k27⟩, k28⟩, k29⟩, k30⟩, k31⟩
end Go.Proofs.YtacfoeekmcnpjaaGreatDoor.jfFnExactClkFall
