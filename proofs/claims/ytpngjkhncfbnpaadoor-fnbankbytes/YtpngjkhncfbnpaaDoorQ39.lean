/-
  Texts of the proof, joined: InsE1.
-/
import Derived.Test.YtpngjkhncfbnpaaDoorQ37
import Derived.Test.YtpngjkhncfbnpaaDoorQ38
import Derived.Shelf.RegionOpenPlain
import Derived.Laws.Externs
namespace Go.Proofs.YtpngjkhncfbnpaaDoor
open Go.ChangeShapes Go.WideShapes Go.ChangeAt Go.RowKit
set_option linter.unusedVariables false
end Go.Proofs.YtpngjkhncfbnpaaDoor
