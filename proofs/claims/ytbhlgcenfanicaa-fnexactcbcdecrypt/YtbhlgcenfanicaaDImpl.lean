/-
  The contract of impl.DecryptBlock.
-/
import Derived.Test.YtbhlgcenfanicaaDecrypt
import Derived.Test.YtbhlgcenfanicaaEImpl
namespace Go.Proofs.Ytbhlgcenfanicaa
open Go.ChangeShapes Go.WideShapes Go.ChangeAt Go.RowKit
end Go.Proofs.Ytbhlgcenfanicaa
