/-
  Texts of the proof, joined: RdSupS, RdSupB.
-/
import Derived.Test.YtkmakpbphdjbcaaGreatDoorQ32
import Derived.Laws.Strings2
import Derived.Laws.Strings3
namespace Go.Proofs.YtkmakpbphdjbcaaGreatDoor
open Go.ChangeShapes Go.WideShapes Go.ChangeAt Go.RowKit
set_option linter.unusedVariables false
theorem EO.notBox3 {w : World} {B : Nat} {v : Value} {n : Nat} {F : Nat → Nat → Value} (h : EO w B 36 2 v n F) {sb : Nat} {x y z : Value} (hb : Box3 w sb 25 x y z) : ∀ g, v.ownBlock = some g → g ≠ sb := fun g e e3 => by
  obtain ⟨hl, ⟨h1, h2⟩ | ⟨g', cap, cur, hv, hBB, hh, _⟩⟩ := h
  · rw [h1] at e
    cases e
  · rw [hv] at e
    have e2 : g' = g := Option.some.inj e
    obtain ⟨cur', hh', _⟩ := hb
    rw [e2, e3, hh'] at hh
    cases hh
end Go.Proofs.YtkmakpbphdjbcaaGreatDoor
namespace Go.Proofs.YtkmakpbphdjbcaaGreatDoor
open Go.ChangeShapes Go.WideShapes Go.ChangeAt Go.RowKit
set_option linter.unusedVariables false
end Go.Proofs.YtkmakpbphdjbcaaGreatDoor
