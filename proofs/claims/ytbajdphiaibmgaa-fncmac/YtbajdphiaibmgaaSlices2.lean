/-
  Contracts of slices.Repeat and slices.Concat at slices of bytes.
-/
import Derived.Test.YtbajdphiaibmgaaSlices
import Derived.Deep.Cut
import Derived.Deep.CutRange
import Derived.Deep.DeepCutAuto
import Derived.Deep.RegionHeld3
namespace Go.Proofs.Ytbajdphiaibmgaa
open Go.ChangeShapes Go.WideShapes Go.ChangeAt Go.RowKit
end Go.Proofs.Ytbajdphiaibmgaa
