/-
  A disk copied; a step of the program.
-/
import Derived.Test.YtgdfhgepbamhmaaDoorDriveDo
import Derived.Test.YtgdfhgepbamhmaaDoorDiskTo
import Derived.Test.YtgdfhgepbamhmaaDoorDiskOkI
namespace Go.Proofs.YtgdfhgepbamhmaaDoor
open Go.ChangeShapes Go.WideShapes Go.ChangeAt Go.RowKit
/-- Three rows of a disk of the call's own, each at its own place. -/
structure Rows3 (w : World) (B : Nat) (d : Dk) (v0 v1 v2 : Value) : Prop where
  t0 : TxR w B v0 d.nb d.B
  t1 : PnR w B v1 d.nc d.A d.D
  t2 : TxR w B v2 d.ns d.S
  n01 : ∀ g, v0.ownBlock = some g → v1.ownBlock ≠ some g
  n02 : ∀ g, v0.ownBlock = some g → v2.ownBlock ≠ some g
  n12 : ∀ g, v1.ownBlock = some g → v2.ownBlock ≠ some g
theorem Rows3.below {w w' : World} {B : Nat} {d : Dk} {v0 v1 v2 : Value} (h : Rows3 w B d v0 v1 v2) (hb : Below w.heap.size w w') : Rows3 w' B d v0 v1 v2 := ⟨h.t0.below hb, h.t1.below hb, h.t2.below hb, h.n01, h.n02, h.n12⟩
end Go.Proofs.YtgdfhgepbamhmaaDoor
