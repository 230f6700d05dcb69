/-
  DERIVED. GIVEN WITH THE SEED: THE CARDS: each row of YtonccbgolbcjfabDoorRows.lean that lists a variable, with what it lists TIED to the program's text (the seventh form; the later family's looks); each row that meets fmt, with fmt's text TOLD by the authors' own Lean function (tested against real Go, not proved from fmt's source: count such statements apart). THE CARD IS WHAT COUNTS. Prove the row's statement (the work); the ties are given (YtonccbgolbcjfabDoorTie.lean); close each card by the builder's one call (the guide's Derived/Test/ToyasCard.lean, 'card_holds'). Laid BY PROGRAM, IN A SANDBOX (cutbox-door.mjs). By AI agents, Wed Nov 11 2026. No macro, syntax, notation, axiom, sorry.
-/
import Derived.Test.YtonccbgolbcjfabDoorRows
import GoSem.ClaimSeven
namespace Go.Proofs.YtonccbgolbcjfabDoor
namespace Rows

/-- THE TIED CARD OF 'laws.FnExactSealPiece'. -/
def fnExactSealPieceCard : Claim7 := { stood := { row := fnExactSealPieceRow, standIns := [], harness := (true, "1a2de3746b28374328b7ad2b7697f87a4d1064d3227349de14d6b3821a347ecb"), looks := false }, kinds := [], alts := [], laidByText := true, laidKinds := [.data, .data], laidTests := true, laidLooks := .later }
def FnExactSealPieceCardSaid : Prop := Claim7.holds Tryd.pinned (.plain (OpenSpec.ofChange fnExactSealPieceSpec)) fnExactSealPieceCard

/-- THE TIED CARD OF 'laws.FnExactOpenPiece'. -/
def fnExactOpenPieceCard : Claim7 := { stood := { row := fnExactOpenPieceRow, standIns := [], harness := (true, "1a2de3746b28374328b7ad2b7697f87a4d1064d3227349de14d6b3821a347ecb"), looks := false }, kinds := [], alts := [], laidByText := true, laidKinds := [.data, .data], laidTests := true, laidLooks := .later }
def FnExactOpenPieceCardSaid : Prop := Claim7.holds Tryd.pinned (.plain (OpenSpec.ofChange fnExactOpenPieceSpec)) fnExactOpenPieceCard

/-- THE SECOND FORM's CARD OF 'laws.FnExactSealPiece'. -/
def fnExactSealPieceUptoCard : Claim7 := { stood := { row := fnExactSealPieceUptoRow, standIns := [], harness := (true, "1a2de3746b28374328b7ad2b7697f87a4d1064d3227349de14d6b3821a347ecb"), looks := false }, kinds := [], alts := [], laidByText := true, laidKinds := [.data, .data], laidTests := true, laidLooks := .later }
def FnExactSealPieceUptoCardSaid : Prop := Claim7.holds Tryd.pinned (.plain (OpenSpec.upto fnExactSealPieceSpec)) fnExactSealPieceUptoCard

/-- THE SECOND FORM's CARD OF 'laws.FnExactOpenPiece'. -/
def fnExactOpenPieceUptoCard : Claim7 := { stood := { row := fnExactOpenPieceUptoRow, standIns := [], harness := (true, "1a2de3746b28374328b7ad2b7697f87a4d1064d3227349de14d6b3821a347ecb"), looks := false }, kinds := [], alts := [], laidByText := true, laidKinds := [.data, .data], laidTests := true, laidLooks := .later }
def FnExactOpenPieceUptoCardSaid : Prop := Claim7.holds Tryd.pinned (.plain (OpenSpec.upto fnExactOpenPieceSpec)) fnExactOpenPieceUptoCard
end Rows
end Go.Proofs.YtonccbgolbcjfabDoor
