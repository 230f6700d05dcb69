/-
  Texts of the proof, joined: InsE1.
-/
import Derived.Test.YtpngjkhncfbnpaaDoorU34
import Derived.Test.YtpngjkhncfbnpaaDoorU35
import Derived.Shelf.RegionOpenPlain
import Derived.Laws.Externs
namespace Go.Proofs.YtpngjkhncfbnpaaDoor
open Go.ChangeShapes Go.WideShapes Go.ChangeAt Go.RowKit
set_option linter.unusedVariables false
end Go.Proofs.YtpngjkhncfbnpaaDoor
