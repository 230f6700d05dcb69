/-
  Texts of the proof, joined: MarkK, OfSealBytes.
-/
import Derived.Test.YtboekhegbachpaaGreatDoorS05
import Derived.Test.YtboekhegbachpaaGreatDoorS10
import Derived.Test.YtboekhegbachpaaGreatDoorS07
namespace Go.Proofs.YtboekhegbachpaaGreatDoor
open Go.ChangeShapes Go.WideShapes Go.ChangeAt Go.RowKit
end Go.Proofs.YtboekhegbachpaaGreatDoor
namespace Go.Proofs.YtboekhegbachpaaGreatDoor
open Go.ChangeShapes Go.WideShapes Go.ChangeAt Go.RowKit
end Go.Proofs.YtboekhegbachpaaGreatDoor
