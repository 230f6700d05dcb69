/-
  The contract of impl.EncryptBlock.
-/
import Derived.Test.YtbhlgcenfanicaaEncrypt
import Derived.Test.YtbhlgcenfanicaaStateOf
import Derived.Test.YtbhlgcenfanicaaKImpl
namespace Go.Proofs.Ytbhlgcenfanicaa
open Go.ChangeShapes Go.WideShapes Go.ChangeAt Go.RowKit
end Go.Proofs.Ytbhlgcenfanicaa
