/-
  DERIVED. GIVEN WITH THE SEED: THE CARDS: each row of YtbajdphiaibmgabDoorRows.lean that lists a variable, with what it lists TIED to the program's text (the seventh form; the later family's looks); each row that meets fmt, with fmt's text TOLD by the authors' own Lean function (tested against real Go, not proved from fmt's source: count such statements apart). THE CARD IS WHAT COUNTS. Prove the row's statement (the work); the ties are given (YtbajdphiaibmgabDoorTie.lean); close each card by the builder's one call (the guide's Derived/Test/ToyasCard.lean, 'card_holds'). Laid BY PROGRAM, IN A SANDBOX (cutbox-door.mjs). By AI agents, Wed Nov 11 2026. No macro, syntax, notation, axiom, sorry.
-/
import Derived.Test.YtbajdphiaibmgabDoorRows
import GoSem.ClaimSeven
namespace Go.Proofs.YtbajdphiaibmgabDoor
namespace Rows

/-- THE TIED CARD OF 'laws.FnExactHkdfExpand'. -/
def fnExactHkdfExpandCard : Claim7 := { stood := { row := fnExactHkdfExpandRow, standIns := [], harness := (true, "bbff434c5b85651c065a9cccb97f9890d104ed0c27a3144dc5b892da4e270e80"), looks := false }, kinds := [], alts := [], laidByText := true, laidKinds := [.data, .data], laidTests := true, laidLooks := .later }
def FnExactHkdfExpandCardSaid : Prop := Claim7.holds Tryd.pinned (.plain (OpenSpec.ofChange fnExactHkdfExpandSpec)) fnExactHkdfExpandCard

/-- THE TIED CARD OF 'laws.FnExactHkdf'. -/
def fnExactHkdfCard : Claim7 := { stood := { row := fnExactHkdfRow, standIns := [], harness := (true, "bbff434c5b85651c065a9cccb97f9890d104ed0c27a3144dc5b892da4e270e80"), looks := false }, kinds := [], alts := [], laidByText := true, laidKinds := [.data, .data], laidTests := true, laidLooks := .later }
def FnExactHkdfCardSaid : Prop := Claim7.holds Tryd.pinned (.plain (OpenSpec.ofChange fnExactHkdfSpec)) fnExactHkdfCard

/-- THE SECOND FORM's CARD OF 'laws.FnExactHkdfExpand'. -/
def fnExactHkdfExpandUptoCard : Claim7 := { stood := { row := fnExactHkdfExpandUptoRow, standIns := [], harness := (true, "bbff434c5b85651c065a9cccb97f9890d104ed0c27a3144dc5b892da4e270e80"), looks := false }, kinds := [], alts := [], laidByText := true, laidKinds := [.data, .data], laidTests := true, laidLooks := .later }
def FnExactHkdfExpandUptoCardSaid : Prop := Claim7.holds Tryd.pinned (.plain (OpenSpec.upto fnExactHkdfExpandSpec)) fnExactHkdfExpandUptoCard

/-- THE SECOND FORM's CARD OF 'laws.FnExactHkdf'. -/
def fnExactHkdfUptoCard : Claim7 := { stood := { row := fnExactHkdfUptoRow, standIns := [], harness := (true, "bbff434c5b85651c065a9cccb97f9890d104ed0c27a3144dc5b892da4e270e80"), looks := false }, kinds := [], alts := [], laidByText := true, laidKinds := [.data, .data], laidTests := true, laidLooks := .later }
def FnExactHkdfUptoCardSaid : Prop := Claim7.holds Tryd.pinned (.plain (OpenSpec.upto fnExactHkdfSpec)) fnExactHkdfUptoCard
end Rows
end Go.Proofs.YtbajdphiaibmgabDoor
