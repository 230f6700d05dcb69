/-
  DERIVED. GIVEN WITH THE SEED: THE CARDS: each row of YtnhlnneicnkmeabDoorRows.lean that lists a variable, with what it lists TIED to the program's text (the seventh form; the later family's looks); each row that meets fmt, with fmt's text TOLD by the authors' own Lean function (tested against real Go, not proved from fmt's source: count such statements apart). THE CARD IS WHAT COUNTS. Prove the row's statement (the work); the ties are given (YtnhlnneicnkmeabDoorTie.lean); close each card by the builder's one call (the guide's Derived/Test/ToyasCard.lean, 'card_holds'). Laid BY PROGRAM, IN A SANDBOX (cutbox-door.mjs). By AI agents, Wed Nov 11 2026. No macro, syntax, notation, axiom, sorry.
-/
import Derived.Test.YtnhlnneicnkmeabDoorRows
import GoSem.ClaimSeven
namespace Go.Proofs.YtnhlnneicnkmeabDoor
namespace Rows

/-- THE TIED CARD OF 'laws.FnExactDiskRun'. -/
def fnExactDiskRunCard : Claim7 := { stood := { row := fnExactDiskRunRow, standIns := [], harness := (true, "6b4d45c1af85f6d4b96748ad7caf2e5e80d755b877173ec17412c187a4bfbaff"), looks := true }, kinds := [], alts := [], laidByText := true, laidKinds := [.sentinel, .sentinel, .sentinel, .sentinel, .sentinel], laidTests := true, laidLooks := .later }
def FnExactDiskRunCardSaid : Prop := Claim7.holds Tryd.pinned (.plain (OpenSpec.ofChange fnExactDiskRunSpec)) fnExactDiskRunCard

/-- THE TIED CARD OF 'laws.FnExactAdvanceBank'. -/
def fnExactAdvanceBankCard : Claim7 := { stood := { row := fnExactAdvanceBankRow, standIns := [], harness := (true, "6b4d45c1af85f6d4b96748ad7caf2e5e80d755b877173ec17412c187a4bfbaff"), looks := true }, kinds := [], alts := [], laidByText := true, laidKinds := [.data], laidTests := true, laidLooks := .later }
def FnExactAdvanceBankCardSaid : Prop := Claim7.holds Tryd.pinned (.plain (OpenSpec.ofChange fnExactAdvanceBankSpec)) fnExactAdvanceBankCard

/-- THE SECOND FORM's CARD OF 'laws.FnExactDiskRun'. -/
def fnExactDiskRunUptoCard : Claim7 := { stood := { row := fnExactDiskRunUptoRow, standIns := [], harness := (true, "6b4d45c1af85f6d4b96748ad7caf2e5e80d755b877173ec17412c187a4bfbaff"), looks := true }, kinds := [], alts := [], laidByText := true, laidKinds := [.sentinel, .sentinel, .sentinel, .sentinel, .sentinel], laidTests := true, laidLooks := .later }
def FnExactDiskRunUptoCardSaid : Prop := Claim7.holds Tryd.pinned (.plain (OpenSpec.upto fnExactDiskRunSpec)) fnExactDiskRunUptoCard

/-- THE SECOND FORM's CARD OF 'laws.FnExactAdvanceBank'. -/
def fnExactAdvanceBankUptoCard : Claim7 := { stood := { row := fnExactAdvanceBankUptoRow, standIns := [], harness := (true, "6b4d45c1af85f6d4b96748ad7caf2e5e80d755b877173ec17412c187a4bfbaff"), looks := true }, kinds := [], alts := [], laidByText := true, laidKinds := [.data], laidTests := true, laidLooks := .later }
def FnExactAdvanceBankUptoCardSaid : Prop := Claim7.holds Tryd.pinned (.plain (OpenSpec.upto fnExactAdvanceBankSpec)) fnExactAdvanceBankUptoCard
end Rows
end Go.Proofs.YtnhlnneicnkmeabDoor
