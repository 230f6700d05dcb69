/-
  Texts of the proof, joined: SvcH.
-/
import Derived.Test.YtedncfcmhaaobaaY19
namespace Go.Proofs.Ytedncfcmhaaobaa
open Go.ChangeShapes Go.WideShapes Go.ChangeAt Go.RowKit
set_option linter.unusedVariables false
end Go.Proofs.Ytedncfcmhaaobaa
