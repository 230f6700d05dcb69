/-
  Texts of the proof, joined: RowES.
-/
import Derived.Test.YtpngjkhncfbnpaaDoorV33
namespace Go.Proofs.YtpngjkhncfbnpaaDoor
open Go.ChangeShapes Go.WideShapes Go.ChangeAt Go.RowKit
set_option linter.unusedVariables false
end Go.Proofs.YtpngjkhncfbnpaaDoor
