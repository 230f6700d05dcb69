/-
  DERIVED. GIVEN WITH THE SEED: THE CARDS: each row of YthfnbbjjiipcpabDoorRows.lean that lists a variable, with what it lists TIED to the program's text (the seventh form; the later family's looks); each row that meets fmt, with fmt's text TOLD by the authors' own Lean function (tested against real Go, not proved from fmt's source: count such statements apart). THE CARD IS WHAT COUNTS. Prove the row's statement (the work); the ties are given (YthfnbbjjiipcpabDoorTie.lean); close each card by the builder's one call (the guide's Derived/Test/ToyasCard.lean, 'card_holds'). Laid BY PROGRAM, IN A SANDBOX (cutbox-door.mjs). By AI agents, Wed Nov 11 2026. No macro, syntax, notation, axiom, sorry.
-/
import Derived.Test.YthfnbbjjiipcpabDoorRows
import GoSem.ClaimSeven
namespace Go.Proofs.YthfnbbjjiipcpabDoor
namespace Rows

/-- THE TIED CARD OF 'laws.FnExactDiskStep'. -/
def fnExactDiskStepCard : Claim7 := { stood := { row := fnExactDiskStepRow, standIns := [], harness := (true, "132945239f8325a747817e0960129a9eb1e0d6d83055437ffbd23100612705ea"), looks := true }, kinds := [], alts := [], laidByText := true, laidKinds := [.sentinel, .sentinel, .sentinel, .sentinel, .sentinel], laidTests := true, laidLooks := .later }
def FnExactDiskStepCardSaid : Prop := Claim7.holds Tryd.pinned (.plain (OpenSpec.ofChange fnExactDiskStepSpec)) fnExactDiskStepCard

/-- THE TIED CARD OF 'laws.FnExactDiskRun'. -/
def fnExactDiskRunCard : Claim7 := { stood := { row := fnExactDiskRunRow, standIns := [], harness := (true, "132945239f8325a747817e0960129a9eb1e0d6d83055437ffbd23100612705ea"), looks := true }, kinds := [], alts := [], laidByText := true, laidKinds := [.sentinel, .sentinel, .sentinel, .sentinel, .sentinel], laidTests := true, laidLooks := .later }
def FnExactDiskRunCardSaid : Prop := Claim7.holds Tryd.pinned (.plain (OpenSpec.ofChange fnExactDiskRunSpec)) fnExactDiskRunCard

/-- THE TIED CARD OF 'laws.FnExactDiskSame'. -/
def fnExactDiskSameCard : Claim7 := { stood := { row := fnExactDiskSameRow, standIns := [], harness := (true, "132945239f8325a747817e0960129a9eb1e0d6d83055437ffbd23100612705ea"), looks := true }, kinds := [], alts := [], laidByText := true, laidKinds := [.sentinel, .sentinel], laidTests := true, laidLooks := .later }
def FnExactDiskSameCardSaid : Prop := Claim7.holds Tryd.pinned (.plain (OpenSpec.ofChange fnExactDiskSameSpec)) fnExactDiskSameCard

/-- THE SECOND FORM's CARD OF 'laws.FnExactDiskStep'. -/
def fnExactDiskStepUptoCard : Claim7 := { stood := { row := fnExactDiskStepUptoRow, standIns := [], harness := (true, "132945239f8325a747817e0960129a9eb1e0d6d83055437ffbd23100612705ea"), looks := true }, kinds := [], alts := [], laidByText := true, laidKinds := [.sentinel, .sentinel, .sentinel, .sentinel, .sentinel], laidTests := true, laidLooks := .later }
def FnExactDiskStepUptoCardSaid : Prop := Claim7.holds Tryd.pinned (.plain (OpenSpec.upto fnExactDiskStepSpec)) fnExactDiskStepUptoCard

/-- THE SECOND FORM's CARD OF 'laws.FnExactDiskRun'. -/
def fnExactDiskRunUptoCard : Claim7 := { stood := { row := fnExactDiskRunUptoRow, standIns := [], harness := (true, "132945239f8325a747817e0960129a9eb1e0d6d83055437ffbd23100612705ea"), looks := true }, kinds := [], alts := [], laidByText := true, laidKinds := [.sentinel, .sentinel, .sentinel, .sentinel, .sentinel], laidTests := true, laidLooks := .later }
def FnExactDiskRunUptoCardSaid : Prop := Claim7.holds Tryd.pinned (.plain (OpenSpec.upto fnExactDiskRunSpec)) fnExactDiskRunUptoCard

/-- THE SECOND FORM's CARD OF 'laws.FnExactDiskSame'. -/
def fnExactDiskSameUptoCard : Claim7 := { stood := { row := fnExactDiskSameUptoRow, standIns := [], harness := (true, "132945239f8325a747817e0960129a9eb1e0d6d83055437ffbd23100612705ea"), looks := true }, kinds := [], alts := [], laidByText := true, laidKinds := [.sentinel, .sentinel], laidTests := true, laidLooks := .later }
def FnExactDiskSameUptoCardSaid : Prop := Claim7.holds Tryd.pinned (.plain (OpenSpec.upto fnExactDiskSameSpec)) fnExactDiskSameUptoCard
end Rows
end Go.Proofs.YthfnbbjjiipcpabDoor
