/-
  Texts of the proof, joined: IntK.
-/
import Derived.Test.YtedncfcmhaaobaaV04
import Derived.Test.YtedncfcmhaaobaaV07
namespace Go.Proofs.Ytedncfcmhaaobaa
open Go.ChangeShapes Go.WideShapes Go.ChangeAt Go.RowKit
set_option linter.unusedVariables false
end Go.Proofs.Ytedncfcmhaaobaa
