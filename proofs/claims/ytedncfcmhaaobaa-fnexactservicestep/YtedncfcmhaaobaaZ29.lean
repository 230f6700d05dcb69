/-
  Texts of the proof, joined: QuN.
-/
import Derived.Test.YtedncfcmhaaobaaZ28
import Derived.Test.YtedncfcmhaaobaaZ08
namespace Go.Proofs.Ytedncfcmhaaobaa
open Go.ChangeShapes Go.WideShapes Go.ChangeAt Go.RowKit
set_option linter.unusedVariables false
def sNew (n : Nat) : Sv := ⟨n, fun _ => rpZ, 0, 0, fun _ => ⟨0, 0, 0, fun _ => 0, 0, 0⟩, 0, fun _ => ⟨0, fun _ => 0, 0, 0, 0, 0⟩⟩
end Go.Proofs.Ytedncfcmhaaobaa
