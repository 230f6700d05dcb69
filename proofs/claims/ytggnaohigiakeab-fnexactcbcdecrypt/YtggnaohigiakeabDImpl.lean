/-
  The contract of impl.DecryptBlock.
-/
import Derived.Test.YtggnaohigiakeabDecrypt
import Derived.Test.YtggnaohigiakeabEImpl
namespace Go.Proofs.Ytggnaohigiakeab
open Go.ChangeShapes Go.WideShapes Go.ChangeAt Go.RowKit
end Go.Proofs.Ytggnaohigiakeab
