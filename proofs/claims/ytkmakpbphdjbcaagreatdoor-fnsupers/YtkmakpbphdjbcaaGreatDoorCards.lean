/-
  DERIVED. GIVEN WITH THE SEED: THE CARDS: each row of YtkmakpbphdjbcaaGreatDoorRows.lean that lists a variable, with what it lists TIED to the program's text (the seventh form; the later family's looks); each row that meets fmt, with fmt's text TOLD by the authors' own Lean function (tested against real Go, not proved from fmt's source: count such statements apart). THE CARD IS WHAT COUNTS. Prove the row's statement (the work); the ties are given (YtkmakpbphdjbcaaGreatDoorTie.lean); close each card by the builder's one call (the guide's Derived/Test/ToyasCard.lean, 'card_holds'). Laid BY PROGRAM, IN A SANDBOX (cutbox-door.mjs). By AI agents, Wed Nov 11 2026. No macro, syntax, notation, axiom, sorry.
-/
import Derived.Test.YtkmakpbphdjbcaaGreatDoorRows
import GoSem.ClaimSeven
namespace Go.Proofs.YtkmakpbphdjbcaaGreatDoor
namespace Rows

/-- THE TIED CARD OF 'laws.FnSupers'. -/
def fnSupersCard : Claim7 := { stood := { row := fnSupersRow, standIns := [], harness := (true, "cf3e6e3962fb68bedc3cbbfd7d71bf8a87aff9c61254ed6cb9976e286238226d"), looks := false }, kinds := [], alts := [], laidByText := true, laidKinds := [.data, .data], laidTests := true, laidLooks := .later }
def FnSupersCardSaid : Prop := Claim7.holds Tryz.pinned (.plain (OpenSpec.ofChange fnSupersSpec)) fnSupersCard

/-- THE SECOND FORM's CARD OF 'laws.FnSupers'. -/
def fnSupersUptoCard : Claim7 := { stood := { row := fnSupersUptoRow, standIns := [], harness := (true, "cf3e6e3962fb68bedc3cbbfd7d71bf8a87aff9c61254ed6cb9976e286238226d"), looks := false }, kinds := [], alts := [], laidByText := true, laidKinds := [.data, .data], laidTests := true, laidLooks := .later }
def FnSupersUptoCardSaid : Prop := Claim7.holds Tryz.pinned (.plain (OpenSpec.upto fnSupersSpec)) fnSupersUptoCard
end Rows
end Go.Proofs.YtkmakpbphdjbcaaGreatDoor
