/-
  l11Put of the model (written by tools/mkl11put.py).
-/
import Derived.Test.YtendfgepmjgldacFileOk0
import Derived.Test.YtendfgepmjgldacFileMk
import Derived.Deep.Cut
namespace Go.Proofs.Ytendfgepmjgldac
open Go.ChangeShapes Go.WideShapes Go.ChangeAt Go.RowKit
set_option linter.unusedVariables false
end Go.Proofs.Ytendfgepmjgldac
