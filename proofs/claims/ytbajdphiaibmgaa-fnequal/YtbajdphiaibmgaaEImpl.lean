/-
  The contract of impl.EncryptBlock.
-/
import Derived.Test.YtbajdphiaibmgaaEncrypt
import Derived.Test.YtbajdphiaibmgaaStateOf
import Derived.Test.YtbajdphiaibmgaaKImpl
namespace Go.Proofs.Ytbajdphiaibmgaa
open Go.ChangeShapes Go.WideShapes Go.ChangeAt Go.RowKit
end Go.Proofs.Ytbajdphiaibmgaa
