/-
  Contracts of padding: impl's padded, unpaddedSize, PadBlocks, UnpadBlocks.
-/
import Derived.Test.YtbajdphiaibmgaaSlices2
import Derived.Test.YtbajdphiaibmgaaPadMath
namespace Go.Proofs.Ytbajdphiaibmgaa
open Go.ChangeShapes Go.WideShapes Go.ChangeAt Go.RowKit
end Go.Proofs.Ytbajdphiaibmgaa
