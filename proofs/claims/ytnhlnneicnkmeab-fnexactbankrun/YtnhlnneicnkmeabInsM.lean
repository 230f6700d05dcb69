/-
  A row cut in two, and what is set between.
-/
import Derived.Test.YtnhlnneicnkmeabInsE0
namespace Go.Proofs.Ytnhlnneicnkmeab
open Go.ChangeShapes Go.WideShapes Go.ChangeAt Go.RowKit
set_option linter.unusedVariables false
end Go.Proofs.Ytnhlnneicnkmeab
