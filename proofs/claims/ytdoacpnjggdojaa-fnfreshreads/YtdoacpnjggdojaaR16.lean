/-
  Texts of the proof, joined: SvcJ.
-/
import Derived.Test.YtdoacpnjggdojaaR15
namespace Go.Proofs.Ytdoacpnjggdojaa
open Go.ChangeShapes Go.WideShapes Go.ChangeAt Go.RowKit
set_option linter.unusedVariables false
end Go.Proofs.Ytdoacpnjggdojaa
