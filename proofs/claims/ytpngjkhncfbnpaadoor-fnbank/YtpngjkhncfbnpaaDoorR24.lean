/-
  Texts of the proof, joined: BankOkS.
-/
import Derived.Test.YtpngjkhncfbnpaaDoorR19
import Derived.Test.YtpngjkhncfbnpaaDoorR22
import Derived.Test.YtpngjkhncfbnpaaDoorR20
namespace Go.Proofs.YtpngjkhncfbnpaaDoor
open Go.ChangeShapes Go.WideShapes Go.ChangeAt Go.RowKit
set_option linter.unusedVariables false
end Go.Proofs.YtpngjkhncfbnpaaDoor
