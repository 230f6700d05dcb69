/-
  Rows of structs of one's own: a cell is written.
-/
import Derived.Test.YtfhjenohgafjlabDoorBankOw
namespace Go.Proofs.YtfhjenohgafjlabDoor
open Go.ChangeShapes Go.WideShapes Go.ChangeAt Go.RowKit
set_option linter.unusedVariables false
end Go.Proofs.YtfhjenohgafjlabDoor
