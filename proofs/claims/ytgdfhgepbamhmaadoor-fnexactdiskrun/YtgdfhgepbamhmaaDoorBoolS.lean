/-
  Rows of bools below what comes.
-/
import Derived.Test.YtgdfhgepbamhmaaDoorBoolB
import Derived.Test.YtgdfhgepbamhmaaDoorDriveCr
import Derived.Test.YtgdfhgepbamhmaaDoorDiskTo
namespace Go.Proofs.YtgdfhgepbamhmaaDoor
open Go.ChangeShapes Go.WideShapes Go.ChangeAt Go.RowKit
/-- A slice of bools lies below what comes. -/
theorem Bools.bls {w : World} {a : Option Addr} {n : Nat} {f : Nat → Bool} (h : Bools w a n f) : Bls w w.heap.size a n f := fun i hi => by
  obtain ⟨b, off, ha, hc⟩ := h i hi
  exact ⟨b, off, ha, strBlock hc, hc⟩
end Go.Proofs.YtgdfhgepbamhmaaDoor
