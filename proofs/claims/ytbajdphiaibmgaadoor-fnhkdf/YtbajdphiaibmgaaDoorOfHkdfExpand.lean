/-
  The exact law of HkdfExpand: what it asks of the program and of the model.
-/
import Derived.Test.YtbajdphiaibmgaaDoorByteS
import Derived.Test.YtbajdphiaibmgaaDoorAfter
namespace Go.Proofs.YtbajdphiaibmgaaDoor
open Go.ChangeShapes Go.WideShapes Go.ChangeAt Go.RowKit
end Go.Proofs.YtbajdphiaibmgaaDoor
