/-
  BankOK of the model (written by tools/mkbankok.py)
-/
import Derived.Test.YtfhjenohgafjlabBankOk
import Derived.Test.YtfhjenohgafjlabBox4
import Derived.Test.YtfhjenohgafjlabAnyH
namespace Go.Proofs.Ytfhjenohgafjlab
open Go.ChangeShapes Go.WideShapes Go.ChangeAt Go.RowKit
set_option linter.unusedVariables false
end Go.Proofs.Ytfhjenohgafjlab
