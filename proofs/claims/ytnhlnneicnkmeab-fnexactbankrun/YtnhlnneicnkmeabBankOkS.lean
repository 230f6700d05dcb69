/-
  BankOK of the model (written by tools/mkbankok.py)
-/
import Derived.Test.YtnhlnneicnkmeabBankOk
import Derived.Test.YtnhlnneicnkmeabBox4
import Derived.Test.YtnhlnneicnkmeabAnyH
namespace Go.Proofs.Ytnhlnneicnkmeab
open Go.ChangeShapes Go.WideShapes Go.ChangeAt Go.RowKit
set_option linter.unusedVariables false
end Go.Proofs.Ytnhlnneicnkmeab
