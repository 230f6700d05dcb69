/-
  The contract of impl.EncryptBlock.
-/
import Derived.Test.YtggnaohigiakeaaEncrypt
import Derived.Test.YtggnaohigiakeaaStateOf
import Derived.Test.YtggnaohigiakeaaKImpl
namespace Go.Proofs.Ytggnaohigiakeaa
open Go.ChangeShapes Go.WideShapes Go.ChangeAt Go.RowKit
end Go.Proofs.Ytggnaohigiakeaa
