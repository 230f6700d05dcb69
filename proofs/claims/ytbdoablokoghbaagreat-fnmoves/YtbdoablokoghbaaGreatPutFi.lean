/-
  slices.Insert of one file, and put by path (written by tools/mkputfi.py).
-/
import Derived.Test.YtbdoablokoghbaaGreatRowFi
import Derived.Test.YtbdoablokoghbaaGreatFileF
import Derived.Test.YtbdoablokoghbaaGreatInsG
import Derived.Test.YtbdoablokoghbaaGreatBox3
import Derived.Shelf.RegionOpenPlain
import Derived.Laws.Externs
namespace Go.Proofs.YtbdoablokoghbaaGreat
open Go.ChangeShapes Go.WideShapes Go.ChangeAt Go.RowKit
set_option linter.unusedVariables false
theorem grown_ofF {w u w' : World} {o : Option Nat} (hb : Below w.heap.size w u) (hg : u.grownBy w' o) : w.grownBy w' o := ⟨hg.os.trans hb.os, hg.tape.trans hb.tape, hg.output.trans hb.output, Nat.le_trans hb.size hg.size, fun g h1 h2 => (hg.block g (Nat.lt_of_lt_of_le h1 hb.size) h2).trans (hb.block g h1)⟩
end Go.Proofs.YtbdoablokoghbaaGreat
