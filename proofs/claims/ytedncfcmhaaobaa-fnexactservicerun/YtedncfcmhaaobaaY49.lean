/-
  Texts of the proof, joined: QuCp.
-/
import Derived.Test.YtedncfcmhaaobaaY26
import Derived.Test.YtedncfcmhaaobaaY34
import Derived.Deep.DeepCutAuto
namespace Go.Proofs.Ytedncfcmhaaobaa
open Go.ChangeShapes Go.WideShapes Go.ChangeAt Go.RowKit
set_option linter.unusedVariables false
end Go.Proofs.Ytedncfcmhaaobaa
