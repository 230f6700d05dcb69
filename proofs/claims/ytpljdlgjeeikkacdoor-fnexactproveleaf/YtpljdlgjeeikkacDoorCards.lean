/-
  DERIVED. GIVEN WITH THE SEED: THE CARDS: each row of YtpljdlgjeeikkacDoorRows.lean that lists a variable, with what it lists TIED to the program's text (the seventh form; the later family's looks); each row that meets fmt, with fmt's text TOLD by the authors' own Lean function (tested against real Go, not proved from fmt's source: count such statements apart). THE CARD IS WHAT COUNTS. Prove the row's statement (the work); the ties are given (YtpljdlgjeeikkacDoorTie.lean); close each card by the builder's one call (the guide's Derived/Test/ToyasCard.lean, 'card_holds'). Laid BY PROGRAM, IN A SANDBOX (cutbox-door.mjs). By AI agents, Wed Nov 11 2026. No macro, syntax, notation, axiom, sorry.
-/
import Derived.Test.YtpljdlgjeeikkacDoorRows
import GoSem.ClaimSeven
namespace Go.Proofs.YtpljdlgjeeikkacDoor
namespace Rows

/-- THE TIED CARD OF 'laws.FnExactProveLeaf'. -/
def fnExactProveLeafCard : Claim7 := { stood := { row := fnExactProveLeafRow, standIns := [], harness := (true, "ed073595bca5fa39fe5ac35a974b76a204da54c1d2db641985ed30ed994f7d0d"), looks := false }, kinds := [], alts := [], laidByText := true, laidKinds := [.data, .data], laidTests := true, laidLooks := .later }
def FnExactProveLeafCardSaid : Prop := Claim7.holds Tryd.pinned (.plain (OpenSpec.ofChange fnExactProveLeafSpec)) fnExactProveLeafCard

/-- THE TIED CARD OF 'laws.FnExactRootOf'. -/
def fnExactRootOfCard : Claim7 := { stood := { row := fnExactRootOfRow, standIns := [], harness := (true, "ed073595bca5fa39fe5ac35a974b76a204da54c1d2db641985ed30ed994f7d0d"), looks := false }, kinds := [], alts := [], laidByText := true, laidKinds := [.data, .data], laidTests := true, laidLooks := .later }
def FnExactRootOfCardSaid : Prop := Claim7.holds Tryd.pinned (.plain (OpenSpec.ofChange fnExactRootOfSpec)) fnExactRootOfCard

/-- THE SECOND FORM's CARD OF 'laws.FnExactProveLeaf'. -/
def fnExactProveLeafUptoCard : Claim7 := { stood := { row := fnExactProveLeafUptoRow, standIns := [], harness := (true, "ed073595bca5fa39fe5ac35a974b76a204da54c1d2db641985ed30ed994f7d0d"), looks := false }, kinds := [], alts := [], laidByText := true, laidKinds := [.data, .data], laidTests := true, laidLooks := .later }
def FnExactProveLeafUptoCardSaid : Prop := Claim7.holds Tryd.pinned (.plain (OpenSpec.upto fnExactProveLeafSpec)) fnExactProveLeafUptoCard

/-- THE SECOND FORM's CARD OF 'laws.FnExactRootOf'. -/
def fnExactRootOfUptoCard : Claim7 := { stood := { row := fnExactRootOfUptoRow, standIns := [], harness := (true, "ed073595bca5fa39fe5ac35a974b76a204da54c1d2db641985ed30ed994f7d0d"), looks := false }, kinds := [], alts := [], laidByText := true, laidKinds := [.data, .data], laidTests := true, laidLooks := .later }
def FnExactRootOfUptoCardSaid : Prop := Claim7.holds Tryd.pinned (.plain (OpenSpec.upto fnExactRootOfSpec)) fnExactRootOfUptoCard
end Rows
end Go.Proofs.YtpljdlgjeeikkacDoor
