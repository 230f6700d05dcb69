/-
  Texts of the proof, joined: GfLaws, MixMath, MixSpec, DecMath.
-/
import Derived.Test.YtboekhegbachpaaGreatDoorS09
import Derived.Test.YtboekhegbachpaaGreatDoorS20
import Derived.OwnWalk
import Derived.Laws.OwnMore
namespace Go.Proofs.YtboekhegbachpaaGreatDoor.Gf
end Go.Proofs.YtboekhegbachpaaGreatDoor.Gf
namespace Go.Proofs.YtboekhegbachpaaGreatDoor.Gf
end Go.Proofs.YtboekhegbachpaaGreatDoor.Gf
namespace Go.Proofs.YtboekhegbachpaaGreatDoor
open Go.ChangeShapes Go.WideShapes Go.ChangeAt Go.RowKit
namespace Gf
end Gf
namespace Gf
end Gf
end Go.Proofs.YtboekhegbachpaaGreatDoor
namespace Go.Proofs.YtboekhegbachpaaGreatDoor
namespace Gf
end Gf
end Go.Proofs.YtboekhegbachpaaGreatDoor
