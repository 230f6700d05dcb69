/-
  Texts of the proof, joined: PutT.
-/
import Derived.Test.YtpngjkhncfbnpaaDoorU31
namespace Go.Proofs.YtpngjkhncfbnpaaDoor
open Go.ChangeShapes Go.WideShapes Go.ChangeAt Go.RowKit
set_option linter.unusedVariables false
end Go.Proofs.YtpngjkhncfbnpaaDoor
