/-
  The contract of impl.EncryptBlock.
-/
import Derived.Test.YtggnaohigiakeabEncrypt
import Derived.Test.YtggnaohigiakeabStateOf
import Derived.Test.YtggnaohigiakeabKImpl
namespace Go.Proofs.Ytggnaohigiakeab
open Go.ChangeShapes Go.WideShapes Go.ChangeAt Go.RowKit
end Go.Proofs.Ytggnaohigiakeab
