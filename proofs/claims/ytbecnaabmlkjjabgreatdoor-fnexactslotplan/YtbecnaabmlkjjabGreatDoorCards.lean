/-
  DERIVED. GIVEN WITH THE SEED: THE CARDS: each row of YtbecnaabmlkjjabGreatDoorRows.lean that lists a variable, with what it lists TIED to the program's text (the seventh form; the later family's looks); each row that meets fmt, with fmt's text TOLD by the authors' own Lean function (tested against real Go, not proved from fmt's source: count such statements apart). THE CARD IS WHAT COUNTS. Prove the row's statement (the work); the ties are given (YtbecnaabmlkjjabGreatDoorTie.lean); close each card by the builder's one call (the guide's Derived/Test/ToyasCard.lean, 'card_holds'). Laid BY PROGRAM, IN A SANDBOX (cutbox-door.mjs). By AI agents, Wed Nov 11 2026. No macro, syntax, notation, axiom, sorry.
-/
import Derived.Test.YtbecnaabmlkjjabGreatDoorRows
import GoSem.ClaimSeven
namespace Go.Proofs.YtbecnaabmlkjjabGreatDoor
namespace Rows

/-- THE TIED CARD OF 'laws.FnExactOpenSlots'. -/
def fnExactOpenSlotsCard : Claim7 := { stood := { row := fnExactOpenSlotsRow, standIns := [], harness := (true, "39e9fce7c121d279dbfe2244a69c9e7bab2bf56179ec66e0138251ba48da017f"), looks := false }, kinds := [], alts := [], laidByText := true, laidKinds := [.data, .data, .sentinel, .sentinel], laidTests := true, laidLooks := .later }
def FnExactOpenSlotsCardSaid : Prop := Claim7.holds Tryz.pinned (.plain (OpenSpec.ofChange fnExactOpenSlotsSpec)) fnExactOpenSlotsCard

/-- THE TIED CARD OF 'laws.FnExactSlotPlan'. -/
def fnExactSlotPlanCard : Claim7 := { stood := { row := fnExactSlotPlanRow, standIns := [], harness := (true, "39e9fce7c121d279dbfe2244a69c9e7bab2bf56179ec66e0138251ba48da017f"), looks := false }, kinds := [], alts := [], laidByText := true, laidKinds := [.data, .data, .sentinel, .sentinel], laidTests := true, laidLooks := .later }
def FnExactSlotPlanCardSaid : Prop := Claim7.holds Tryz.pinned (.plain (OpenSpec.ofChange fnExactSlotPlanSpec)) fnExactSlotPlanCard

/-- THE TIED CARD OF 'laws.FnExactSaveSlot'. -/
def fnExactSaveSlotCard : Claim7 := { stood := { row := fnExactSaveSlotRow, standIns := [], harness := (true, "39e9fce7c121d279dbfe2244a69c9e7bab2bf56179ec66e0138251ba48da017f"), looks := false }, kinds := [], alts := [], laidByText := true, laidKinds := [.data, .data, .sentinel, .sentinel, .sentinel, .sentinel, .sentinel], laidTests := true, laidLooks := .later }
def FnExactSaveSlotCardSaid : Prop := Claim7.holds Tryz.pinned (.plain (OpenSpec.ofChange fnExactSaveSlotSpec)) fnExactSaveSlotCard

/-- THE SECOND FORM's CARD OF 'laws.FnExactOpenSlots'. -/
def fnExactOpenSlotsUptoCard : Claim7 := { stood := { row := fnExactOpenSlotsUptoRow, standIns := [], harness := (true, "39e9fce7c121d279dbfe2244a69c9e7bab2bf56179ec66e0138251ba48da017f"), looks := false }, kinds := [], alts := [], laidByText := true, laidKinds := [.data, .data, .sentinel, .sentinel], laidTests := true, laidLooks := .later }
def FnExactOpenSlotsUptoCardSaid : Prop := Claim7.holds Tryz.pinned (.plain (OpenSpec.upto fnExactOpenSlotsSpec)) fnExactOpenSlotsUptoCard

/-- THE SECOND FORM's CARD OF 'laws.FnExactSlotPlan'. -/
def fnExactSlotPlanUptoCard : Claim7 := { stood := { row := fnExactSlotPlanUptoRow, standIns := [], harness := (true, "39e9fce7c121d279dbfe2244a69c9e7bab2bf56179ec66e0138251ba48da017f"), looks := false }, kinds := [], alts := [], laidByText := true, laidKinds := [.data, .data, .sentinel, .sentinel], laidTests := true, laidLooks := .later }
def FnExactSlotPlanUptoCardSaid : Prop := Claim7.holds Tryz.pinned (.plain (OpenSpec.upto fnExactSlotPlanSpec)) fnExactSlotPlanUptoCard

/-- THE SECOND FORM's CARD OF 'laws.FnExactSaveSlot'. -/
def fnExactSaveSlotUptoCard : Claim7 := { stood := { row := fnExactSaveSlotUptoRow, standIns := [], harness := (true, "39e9fce7c121d279dbfe2244a69c9e7bab2bf56179ec66e0138251ba48da017f"), looks := false }, kinds := [], alts := [], laidByText := true, laidKinds := [.data, .data, .sentinel, .sentinel, .sentinel, .sentinel, .sentinel], laidTests := true, laidLooks := .later }
def FnExactSaveSlotUptoCardSaid : Prop := Claim7.holds Tryz.pinned (.plain (OpenSpec.upto fnExactSaveSlotSpec)) fnExactSaveSlotUptoCard
end Rows
end Go.Proofs.YtbecnaabmlkjjabGreatDoor
