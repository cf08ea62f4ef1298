/-
  The place of a block's field, in the program and in the model: the same number.
-/
import Derived.Test.YtooljeddnfkphaaDoorPlan3
namespace Go.Proofs.YtooljeddnfkphaaDoor
open Go.RowKit
set_option linter.unusedVariables false
set_option linter.unusedSimpArgs false
end Go.Proofs.YtooljeddnfkphaaDoor
