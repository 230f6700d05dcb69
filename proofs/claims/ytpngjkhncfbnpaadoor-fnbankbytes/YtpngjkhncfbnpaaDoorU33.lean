/-
  Texts of the proof, joined: InsE0.
-/
import Derived.Test.YtpngjkhncfbnpaaDoorU32
namespace Go.Proofs.YtpngjkhncfbnpaaDoor
open Go.ChangeShapes Go.WideShapes Go.ChangeAt Go.RowKit
set_option linter.unusedVariables false
end Go.Proofs.YtpngjkhncfbnpaaDoor
