/-
  Texts of the proof, joined: BankTo.
-/
import Derived.Test.YtpngjkhncfbnpaaDoorU18
namespace Go.Proofs.YtpngjkhncfbnpaaDoor
open Go.ChangeShapes Go.WideShapes Go.ChangeAt Go.RowKit
set_option linter.unusedVariables false
theorem Box2.loadB {w : World} {b : Nat} {x y : Value} (h : Box2 w b 46 x y) : (loadVar 46 ⟨b, 0, none⟩).run Tryd.prog w = .ok (.agg #[x, y]) w := by
  have h0 := h.c0
  have h1 := h.c1
  go_simp
end Go.Proofs.YtpngjkhncfbnpaaDoor
