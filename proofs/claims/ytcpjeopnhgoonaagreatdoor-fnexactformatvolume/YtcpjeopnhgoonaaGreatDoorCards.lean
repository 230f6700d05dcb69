/-
  DERIVED. GIVEN WITH THE SEED: THE CARDS: each row of YtcpjeopnhgoonaaGreatDoorRows.lean that lists a variable, with what it lists TIED to the program's text (the seventh form; the later family's looks); each row that meets fmt, with fmt's text TOLD by the authors' own Lean function (tested against real Go, not proved from fmt's source: count such statements apart). THE CARD IS WHAT COUNTS. Prove the row's statement (the work); the ties are given (YtcpjeopnhgoonaaGreatDoorTie.lean); close each card by the builder's one call (the guide's Derived/Test/ToyasCard.lean, 'card_holds'). Laid BY PROGRAM, IN A SANDBOX (cutbox-door.mjs). By AI agents, Wed Nov 11 2026. No macro, syntax, notation, axiom, sorry.
-/
import Derived.Test.YtcpjeopnhgoonaaGreatDoorRows
import GoSem.ClaimSeven
namespace Go.Proofs.YtcpjeopnhgoonaaGreatDoor
namespace Rows

/-- THE TIED CARD OF 'laws.FnExactFormatVolume'. -/
def fnExactFormatVolumeCard : Claim7 := { stood := { row := fnExactFormatVolumeRow, standIns := [], harness := (true, "72e6a80e4892e592ee02d4704af1592e68861ce5fad1775416eff5b15004eb40"), looks := false }, kinds := [], alts := [], laidByText := true, laidKinds := [.data, .data, .sentinel, .sentinel, .sentinel, .sentinel, .sentinel], laidTests := true, laidLooks := .later }
def FnExactFormatVolumeCardSaid : Prop := Claim7.holds Tryz.pinned (.plain (OpenSpec.ofChange fnExactFormatVolumeSpec)) fnExactFormatVolumeCard

/-- THE SECOND FORM's CARD OF 'laws.FnExactFormatVolume'. -/
def fnExactFormatVolumeUptoCard : Claim7 := { stood := { row := fnExactFormatVolumeUptoRow, standIns := [], harness := (true, "72e6a80e4892e592ee02d4704af1592e68861ce5fad1775416eff5b15004eb40"), looks := false }, kinds := [], alts := [], laidByText := true, laidKinds := [.data, .data, .sentinel, .sentinel, .sentinel, .sentinel, .sentinel], laidTests := true, laidLooks := .later }
def FnExactFormatVolumeUptoCardSaid : Prop := Claim7.holds Tryz.pinned (.plain (OpenSpec.upto fnExactFormatVolumeSpec)) fnExactFormatVolumeUptoCard
end Rows
end Go.Proofs.YtcpjeopnhgoonaaGreatDoor
