/-
  Whether a disk is right: DiskOK of the program.
-/
import Derived.Test.YtgdfhgepbamhmaaDoorDiskOk
namespace Go.Proofs.YtgdfhgepbamhmaaDoor
open Go.ChangeShapes Go.WideShapes Go.ChangeAt Go.RowKit
theorem diskV_of_rows {w : World} {d : Dk} {g0 g1 g2 : Nat} (h0 : w.rowIs g0 9 d.nb (fun i => .string (d.B i))) (h1 : PenRow w g1 d.nc d.A d.D) (h2 : w.rowIs g2 9 d.ns (fun i => .string (d.S i))) : DiskV w d (some ⟨g0, 0, none⟩) (some ⟨g1, 0, none⟩) (some ⟨g2, 0, none⟩) := ⟨Strs.ofRow h0, h1.pens, Strs.ofRow h2⟩
end Go.Proofs.YtgdfhgepbamhmaaDoor
