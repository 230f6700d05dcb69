/-
  Texts of the proof, joined: Raise.
-/
import Derived.Test.YtpngjkhncfbnpaaDoorU37
import Derived.Test.YtpngjkhncfbnpaaDoorU38
import Derived.Deep.DeepCutAuto
namespace Go.Proofs.YtpngjkhncfbnpaaDoor
open Go.ChangeShapes Go.WideShapes Go.ChangeAt Go.RowKit
set_option linter.unusedVariables false
end Go.Proofs.YtpngjkhncfbnpaaDoor
