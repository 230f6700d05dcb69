/-
  Links in the laws: copied, sized, compared, marked and held.
-/
import Derived.Test.YtkhglllicblbbaaDoorBoolB
import Derived.Test.YtkhglllicblbbaaDoorBox4
import Derived.Test.YtkhglllicblbbaaDoorRetCell
namespace Go.Proofs.YtkhglllicblbbaaDoor
open Go.ChangeShapes Go.WideShapes Go.ChangeAt Go.RowKit
set_option linter.unusedVariables false
end Go.Proofs.YtkhglllicblbbaaDoor
