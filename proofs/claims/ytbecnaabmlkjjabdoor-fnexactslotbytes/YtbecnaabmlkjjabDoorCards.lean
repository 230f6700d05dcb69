/-
  DERIVED. GIVEN WITH THE SEED: THE CARDS: each row of YtbecnaabmlkjjabDoorRows.lean that lists a variable, with what it lists TIED to the program's text (the seventh form; the later family's looks); each row that meets fmt, with fmt's text TOLD by the authors' own Lean function (tested against real Go, not proved from fmt's source: count such statements apart). THE CARD IS WHAT COUNTS. Prove the row's statement (the work); the ties are given (YtbecnaabmlkjjabDoorTie.lean); close each card by the builder's one call (the guide's Derived/Test/ToyasCard.lean, 'card_holds'). Laid BY PROGRAM, IN A SANDBOX (cutbox-door.mjs). By AI agents, Wed Nov 11 2026. No macro, syntax, notation, axiom, sorry.
-/
import Derived.Test.YtbecnaabmlkjjabDoorRows
import GoSem.ClaimSeven
namespace Go.Proofs.YtbecnaabmlkjjabDoor
namespace Rows

/-- THE TIED CARD OF 'laws.FnExactSlotBytes'. -/
def fnExactSlotBytesCard : Claim7 := { stood := { row := fnExactSlotBytesRow, standIns := [], harness := (true, "58a15901537e6623a31988bdfdd4bd841be8eccf6ddd7a8aee8c54887157a95d"), looks := false }, kinds := [], alts := [], laidByText := true, laidKinds := [.data, .data], laidTests := true, laidLooks := .later }
def FnExactSlotBytesCardSaid : Prop := Claim7.holds Tryd.pinned (.plain (OpenSpec.ofChange fnExactSlotBytesSpec)) fnExactSlotBytesCard

/-- THE TIED CARD OF 'laws.FnExactReadSlot'. -/
def fnExactReadSlotCard : Claim7 := { stood := { row := fnExactReadSlotRow, standIns := [], harness := (true, "58a15901537e6623a31988bdfdd4bd841be8eccf6ddd7a8aee8c54887157a95d"), looks := false }, kinds := [], alts := [], laidByText := true, laidKinds := [.data, .data], laidTests := true, laidLooks := .later }
def FnExactReadSlotCardSaid : Prop := Claim7.holds Tryd.pinned (.plain (OpenSpec.ofChange fnExactReadSlotSpec)) fnExactReadSlotCard

/-- THE SECOND FORM's CARD OF 'laws.FnExactSlotBytes'. -/
def fnExactSlotBytesUptoCard : Claim7 := { stood := { row := fnExactSlotBytesUptoRow, standIns := [], harness := (true, "58a15901537e6623a31988bdfdd4bd841be8eccf6ddd7a8aee8c54887157a95d"), looks := false }, kinds := [], alts := [], laidByText := true, laidKinds := [.data, .data], laidTests := true, laidLooks := .later }
def FnExactSlotBytesUptoCardSaid : Prop := Claim7.holds Tryd.pinned (.plain (OpenSpec.upto fnExactSlotBytesSpec)) fnExactSlotBytesUptoCard

/-- THE SECOND FORM's CARD OF 'laws.FnExactReadSlot'. -/
def fnExactReadSlotUptoCard : Claim7 := { stood := { row := fnExactReadSlotUptoRow, standIns := [], harness := (true, "58a15901537e6623a31988bdfdd4bd841be8eccf6ddd7a8aee8c54887157a95d"), looks := false }, kinds := [], alts := [], laidByText := true, laidKinds := [.data, .data], laidTests := true, laidLooks := .later }
def FnExactReadSlotUptoCardSaid : Prop := Claim7.holds Tryd.pinned (.plain (OpenSpec.upto fnExactReadSlotSpec)) fnExactReadSlotUptoCard
end Rows
end Go.Proofs.YtbecnaabmlkjjabDoor
