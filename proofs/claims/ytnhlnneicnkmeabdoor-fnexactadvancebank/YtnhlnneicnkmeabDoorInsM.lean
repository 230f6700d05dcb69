/-
  A row cut in two, and what is set between.
-/
import Derived.Test.YtnhlnneicnkmeabDoorInsE0
namespace Go.Proofs.YtnhlnneicnkmeabDoor
open Go.ChangeShapes Go.WideShapes Go.ChangeAt Go.RowKit
set_option linter.unusedVariables false
end Go.Proofs.YtnhlnneicnkmeabDoor
