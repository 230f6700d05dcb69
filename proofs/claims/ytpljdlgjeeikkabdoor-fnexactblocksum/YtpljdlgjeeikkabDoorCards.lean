/-
  DERIVED. GIVEN WITH THE SEED: THE CARDS: each row of YtpljdlgjeeikkabDoorRows.lean that lists a variable, with what it lists TIED to the program's text (the seventh form; the later family's looks); each row that meets fmt, with fmt's text TOLD by the authors' own Lean function (tested against real Go, not proved from fmt's source: count such statements apart). THE CARD IS WHAT COUNTS. Prove the row's statement (the work); the ties are given (YtpljdlgjeeikkabDoorTie.lean); close each card by the builder's one call (the guide's Derived/Test/ToyasCard.lean, 'card_holds'). Laid BY PROGRAM, IN A SANDBOX (cutbox-door.mjs). By AI agents, Wed Nov 11 2026. No macro, syntax, notation, axiom, sorry.
-/
import Derived.Test.YtpljdlgjeeikkabDoorRows
import GoSem.ClaimSeven
namespace Go.Proofs.YtpljdlgjeeikkabDoor
namespace Rows

/-- THE TIED CARD OF 'laws.FnExactBlockSum'. -/
def fnExactBlockSumCard : Claim7 := { stood := { row := fnExactBlockSumRow, standIns := [], harness := (true, "b22258d8a2374dd36cae8b659e0b699c713af9c64a9e6d149bd3f18a24124ac3"), looks := false }, kinds := [], alts := [], laidByText := true, laidKinds := [.data, .data], laidTests := true, laidLooks := .later }
def FnExactBlockSumCardSaid : Prop := Claim7.holds Tryd.pinned (.plain (OpenSpec.ofChange fnExactBlockSumSpec)) fnExactBlockSumCard

/-- THE TIED CARD OF 'laws.FnExactLeafRoot'. -/
def fnExactLeafRootCard : Claim7 := { stood := { row := fnExactLeafRootRow, standIns := [], harness := (true, "b22258d8a2374dd36cae8b659e0b699c713af9c64a9e6d149bd3f18a24124ac3"), looks := false }, kinds := [], alts := [], laidByText := true, laidKinds := [.data, .data], laidTests := true, laidLooks := .later }
def FnExactLeafRootCardSaid : Prop := Claim7.holds Tryd.pinned (.plain (OpenSpec.ofChange fnExactLeafRootSpec)) fnExactLeafRootCard

/-- THE SECOND FORM's CARD OF 'laws.FnExactBlockSum'. -/
def fnExactBlockSumUptoCard : Claim7 := { stood := { row := fnExactBlockSumUptoRow, standIns := [], harness := (true, "b22258d8a2374dd36cae8b659e0b699c713af9c64a9e6d149bd3f18a24124ac3"), looks := false }, kinds := [], alts := [], laidByText := true, laidKinds := [.data, .data], laidTests := true, laidLooks := .later }
def FnExactBlockSumUptoCardSaid : Prop := Claim7.holds Tryd.pinned (.plain (OpenSpec.upto fnExactBlockSumSpec)) fnExactBlockSumUptoCard

/-- THE SECOND FORM's CARD OF 'laws.FnExactLeafRoot'. -/
def fnExactLeafRootUptoCard : Claim7 := { stood := { row := fnExactLeafRootUptoRow, standIns := [], harness := (true, "b22258d8a2374dd36cae8b659e0b699c713af9c64a9e6d149bd3f18a24124ac3"), looks := false }, kinds := [], alts := [], laidByText := true, laidKinds := [.data, .data], laidTests := true, laidLooks := .later }
def FnExactLeafRootUptoCardSaid : Prop := Claim7.holds Tryd.pinned (.plain (OpenSpec.upto fnExactLeafRootSpec)) fnExactLeafRootUptoCard
end Rows
end Go.Proofs.YtpljdlgjeeikkabDoor
