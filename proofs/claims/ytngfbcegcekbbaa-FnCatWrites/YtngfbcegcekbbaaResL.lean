/-
  What an act came to, held against another, marked; a row's lists marked. Lengths at most 1048576.
-/
import Derived.Test.YtngfbcegcekbbaaRowDoS
import Derived.Test.YtngfbcegcekbbaaMarkS2
namespace Go.Proofs.Ytngfbcegcekbbaa
open Go.RowKit
set_option linter.unusedVariables false
set_option maxRecDepth 100000

end Go.Proofs.Ytngfbcegcekbbaa
