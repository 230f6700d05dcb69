/-
  registersOK, sessionsOK and BankOK of the program (written by tools/mkbankok.py)
-/
import Derived.Test.YtfhjenohgafjlabBankOk
import Derived.Test.YtfhjenohgafjlabAnyH
namespace Go.Proofs.Ytfhjenohgafjlab
open Go.ChangeShapes Go.WideShapes Go.ChangeAt Go.RowKit
set_option linter.unusedVariables false
end Go.Proofs.Ytfhjenohgafjlab
