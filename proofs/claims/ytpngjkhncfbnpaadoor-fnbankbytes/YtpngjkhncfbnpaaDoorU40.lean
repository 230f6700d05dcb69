/-
  Texts of the proof, joined: Answer.
-/
import Derived.Test.YtpngjkhncfbnpaaDoorU39
namespace Go.Proofs.YtpngjkhncfbnpaaDoor
open Go.ChangeShapes Go.WideShapes Go.ChangeAt Go.RowKit
set_option linter.unusedVariables false
end Go.Proofs.YtpngjkhncfbnpaaDoor
