/-
  DERIVED. GIVEN WITH THE SEED: THE CARDS: each row of YtiamaoihachhgaaGreatDoorRows.lean that lists a variable, with what it lists TIED to the program's text (the seventh form; the later family's looks); each row that meets fmt, with fmt's text TOLD by the authors' own Lean function (tested against real Go, not proved from fmt's source: count such statements apart). THE CARD IS WHAT COUNTS. Prove the row's statement (the work); the ties are given (YtiamaoihachhgaaGreatDoorTie.lean); close each card by the builder's one call (the guide's Derived/Test/ToyasCard.lean, 'card_holds'). Laid BY PROGRAM, IN A SANDBOX (cutbox-door.mjs). By AI agents, Wed Nov 11 2026. No macro, syntax, notation, axiom, sorry.
-/
import Derived.Test.YtiamaoihachhgaaGreatDoorRows
import GoSem.ClaimSeven
namespace Go.Proofs.YtiamaoihachhgaaGreatDoor
namespace Rows

/-- THE TIED CARD OF 'laws.FnExactEmptyRoot'. -/
def fnExactEmptyRootCard : Claim7 := { stood := { row := fnExactEmptyRootRow, standIns := [], harness := (true, "17c53f741434777d688a2b1a515e9cee648cb753967c3bf5a1d5d17d18734ad9"), looks := false }, kinds := [], alts := [], laidByText := true, laidKinds := [.data, .data, .sentinel, .sentinel], laidTests := true, laidLooks := .later }
def FnExactEmptyRootCardSaid : Prop := Claim7.holds Tryz.pinned (.plain (OpenSpec.ofChange fnExactEmptyRootSpec)) fnExactEmptyRootCard

/-- THE SECOND FORM's CARD OF 'laws.FnExactEmptyRoot'. -/
def fnExactEmptyRootUptoCard : Claim7 := { stood := { row := fnExactEmptyRootUptoRow, standIns := [], harness := (true, "17c53f741434777d688a2b1a515e9cee648cb753967c3bf5a1d5d17d18734ad9"), looks := false }, kinds := [], alts := [], laidByText := true, laidKinds := [.data, .data, .sentinel, .sentinel], laidTests := true, laidLooks := .later }
def FnExactEmptyRootUptoCardSaid : Prop := Claim7.holds Tryz.pinned (.plain (OpenSpec.upto fnExactEmptyRootSpec)) fnExactEmptyRootUptoCard
end Rows
end Go.Proofs.YtiamaoihachhgaaGreatDoor
