/-
  sessionsOK and BankOK of the program (written by tools/mkbankok.py)
-/
import Derived.Test.YtnhlnneicnkmeabBankOk2
import Derived.Test.YtnhlnneicnkmeabBox4
import Derived.Test.YtnhlnneicnkmeabAnyH
namespace Go.Proofs.Ytnhlnneicnkmeab
open Go.ChangeShapes Go.WideShapes Go.ChangeAt Go.RowKit
set_option linter.unusedVariables false
end Go.Proofs.Ytnhlnneicnkmeab
