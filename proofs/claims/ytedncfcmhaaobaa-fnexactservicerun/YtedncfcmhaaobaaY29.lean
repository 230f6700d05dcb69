/-
  Texts of the proof, joined: SvcW.
-/
import Derived.Test.YtedncfcmhaaobaaY28
namespace Go.Proofs.Ytedncfcmhaaobaa
open Go.ChangeShapes Go.WideShapes Go.ChangeAt Go.RowKit
set_option linter.unusedVariables false
end Go.Proofs.Ytedncfcmhaaobaa
