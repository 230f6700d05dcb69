/-
  CodeWord of the program, over a world in which the table of words holds its twenty words.
-/
import Derived.Test.YtfhjenohgafjlabRows
import Derived.WalkKit
import Derived.ProofKit
import Derived.Below
import Derived.Deep.MidRow
import Derived.Deep.OwnRows
import Derived.Test.YtfhjenohgafjlabStrS
namespace Go.Proofs.Ytfhjenohgafjlab
open Go.ChangeShapes Go.WideShapes Go.ChangeAt Go.RowKit
end Go.Proofs.Ytfhjenohgafjlab
