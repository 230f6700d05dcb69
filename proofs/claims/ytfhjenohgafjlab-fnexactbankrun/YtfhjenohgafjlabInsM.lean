/-
  A row cut in two, and what is set between.
-/
import Derived.Test.YtfhjenohgafjlabInsE0
namespace Go.Proofs.Ytfhjenohgafjlab
open Go.ChangeShapes Go.WideShapes Go.ChangeAt Go.RowKit
set_option linter.unusedVariables false
end Go.Proofs.Ytfhjenohgafjlab
