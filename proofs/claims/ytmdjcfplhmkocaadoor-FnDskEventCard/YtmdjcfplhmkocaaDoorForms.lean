/-
  What the functions over forms answer: whether one is ok, a copy of one, one held against another, its size. Lengths at most 1048576 where one is copied.
-/
import Derived.Test.YtmdjcfplhmkocaaDoorWalks
namespace Go.Proofs.YtmdjcfplhmkocaaDoor
open Go.RowKit
set_option linter.unusedVariables false

end Go.Proofs.YtmdjcfplhmkocaaDoor
