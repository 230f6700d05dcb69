/-
  The model's chains: l02CbcEncrypt, CbcEncrypt.
-/
import Derived.Test.YtbajdphiaibmgaaCbcS
namespace Go.Proofs.Ytbajdphiaibmgaa
open Go.ChangeShapes Go.WideShapes Go.ChangeAt Go.RowKit
end Go.Proofs.Ytbajdphiaibmgaa
