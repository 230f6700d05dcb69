/-
  Texts of the proof, joined: IntK.
-/
import Derived.Test.YtdoacpnjggdojaaR04
import Derived.Test.YtdoacpnjggdojaaR07
namespace Go.Proofs.Ytdoacpnjggdojaa
open Go.ChangeShapes Go.WideShapes Go.ChangeAt Go.RowKit
set_option linter.unusedVariables false
theorem Num.ints {w : World} {a : Option Addr} {n : Nat} {C : Nat → Int} (h : Num w a n C) : Ints w a n C := fun i hi => by
 obtain ⟨b, off, ha, hc⟩ := h.opened (by omega)
 exact ⟨b, off, ha, hc i hi⟩
end Go.Proofs.Ytdoacpnjggdojaa
