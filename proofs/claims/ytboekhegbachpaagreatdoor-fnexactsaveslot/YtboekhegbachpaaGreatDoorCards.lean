/-
  DERIVED. GIVEN WITH THE SEED: THE CARDS: each row of YtboekhegbachpaaGreatDoorRows.lean that lists a variable, with what it lists TIED to the program's text (the seventh form; the later family's looks); each row that meets fmt, with fmt's text TOLD by the authors' own Lean function (tested against real Go, not proved from fmt's source: count such statements apart). THE CARD IS WHAT COUNTS. Prove the row's statement (the work); the ties are given (YtboekhegbachpaaGreatDoorTie.lean); close each card by the builder's one call (the guide's Derived/Test/ToyasCard.lean, 'card_holds'). Laid BY PROGRAM, IN A SANDBOX (cutbox-door.mjs). By AI agents, Wed Nov 11 2026. No macro, syntax, notation, axiom, sorry.
-/
import Derived.Test.YtboekhegbachpaaGreatDoorRows
import GoSem.ClaimSeven
namespace Go.Proofs.YtboekhegbachpaaGreatDoor
namespace Rows

/-- THE TIED CARD OF 'laws.FnExactSaveSlot'. -/
def fnExactSaveSlotCard : Claim7 := { stood := { row := fnExactSaveSlotRow, standIns := [], harness := (true, "8a9b00f41d69457f086cd65057b047e861186c044ff2f39c69bbf3ba79c0d6f1"), looks := false }, kinds := [], alts := [], laidByText := true, laidKinds := [.data, .data, .sentinel, .sentinel, .sentinel, .sentinel, .sentinel], laidTests := true, laidLooks := .later }
def FnExactSaveSlotCardSaid : Prop := Claim7.holds Tryz.pinned (.plain (OpenSpec.ofChange fnExactSaveSlotSpec)) fnExactSaveSlotCard

/-- THE SECOND FORM's CARD OF 'laws.FnExactSaveSlot'. -/
def fnExactSaveSlotUptoCard : Claim7 := { stood := { row := fnExactSaveSlotUptoRow, standIns := [], harness := (true, "8a9b00f41d69457f086cd65057b047e861186c044ff2f39c69bbf3ba79c0d6f1"), looks := false }, kinds := [], alts := [], laidByText := true, laidKinds := [.data, .data, .sentinel, .sentinel, .sentinel, .sentinel, .sentinel], laidTests := true, laidLooks := .later }
def FnExactSaveSlotUptoCardSaid : Prop := Claim7.holds Tryz.pinned (.plain (OpenSpec.upto fnExactSaveSlotSpec)) fnExactSaveSlotUptoCard
end Rows
end Go.Proofs.YtboekhegbachpaaGreatDoor
