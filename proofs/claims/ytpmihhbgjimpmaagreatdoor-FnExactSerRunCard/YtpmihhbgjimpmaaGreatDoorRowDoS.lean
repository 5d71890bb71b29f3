/-
  RowDo: what the specification's function comes to: the same code, tells and pots. Lengths at most 1048576.
-/
import Derived.Test.YtpmihhbgjimpmaaGreatDoorRowDoI
namespace Go.Proofs.YtpmihhbgjimpmaaGreatDoor
open Go.RowKit
set_option linter.unusedVariables false
set_option maxRecDepth 100000

end Go.Proofs.YtpmihhbgjimpmaaGreatDoor
