/-
  Texts of the proof, joined: BankOkS.
-/
import Derived.Test.YtpngjkhncfbnpaaDoorV19
import Derived.Test.YtpngjkhncfbnpaaDoorV22
import Derived.Test.YtpngjkhncfbnpaaDoorV20
namespace Go.Proofs.YtpngjkhncfbnpaaDoor
open Go.ChangeShapes Go.WideShapes Go.ChangeAt Go.RowKit
set_option linter.unusedVariables false
end Go.Proofs.YtpngjkhncfbnpaaDoor
