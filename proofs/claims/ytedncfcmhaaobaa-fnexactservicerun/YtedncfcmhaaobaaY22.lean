/-
  Texts of the proof, joined: SvcJ.
-/
import Derived.Test.YtedncfcmhaaobaaY21
namespace Go.Proofs.Ytedncfcmhaaobaa
open Go.ChangeShapes Go.WideShapes Go.ChangeAt Go.RowKit
set_option linter.unusedVariables false
end Go.Proofs.Ytedncfcmhaaobaa
