/-
  Texts of the proof, joined: QuX.
-/
import Derived.Test.YtedncfcmhaaobaaY47
import Derived.Test.YtedncfcmhaaobaaY48
import Derived.Test.YtedncfcmhaaobaaY43
import Derived.Test.YtedncfcmhaaobaaY49
namespace Go.Proofs.Ytedncfcmhaaobaa
open Go.ChangeShapes Go.WideShapes Go.ChangeAt Go.RowKit
set_option linter.unusedVariables false
end Go.Proofs.Ytedncfcmhaaobaa
