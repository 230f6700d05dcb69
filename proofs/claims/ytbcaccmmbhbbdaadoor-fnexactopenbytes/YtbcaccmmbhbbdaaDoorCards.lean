/-
  DERIVED. GIVEN WITH THE SEED: THE CARDS: each row of YtbcaccmmbhbbdaaDoorRows.lean that lists a variable, with what it lists TIED to the program's text (the seventh form; the later family's looks); each row that meets fmt, with fmt's text TOLD by the authors' own Lean function (tested against real Go, not proved from fmt's source: count such statements apart). THE CARD IS WHAT COUNTS. Prove the row's statement (the work); the ties are given (YtbcaccmmbhbbdaaDoorTie.lean); close each card by the builder's one call (the guide's Derived/Test/ToyasCard.lean, 'card_holds'). Laid BY PROGRAM, IN A SANDBOX (cutbox-door.mjs). By AI agents, Wed Nov 11 2026. No macro, syntax, notation, axiom, sorry.
-/
import Derived.Test.YtbcaccmmbhbbdaaDoorRows
import GoSem.ClaimSeven
namespace Go.Proofs.YtbcaccmmbhbbdaaDoor
namespace Rows

/-- THE TIED CARD OF 'laws.FnSeal'. -/
def fnSealCard : Claim7 := { stood := { row := fnSealRow, standIns := [], harness := (true, "8c20a5c97d1df52c09153d2d4d8e46bfa575885aaf0fe40c4327fcbd2b5327da"), looks := false }, kinds := [], alts := [], laidByText := true, laidKinds := [.data, .data], laidTests := true, laidLooks := .later }
def FnSealCardSaid : Prop := Claim7.holds Tryd.pinned (.plain (OpenSpec.ofChange fnSealSpec)) fnSealCard

/-- THE TIED CARD OF 'laws.FnExactSealKeys'. -/
def fnExactSealKeysCard : Claim7 := { stood := { row := fnExactSealKeysRow, standIns := [], harness := (true, "8c20a5c97d1df52c09153d2d4d8e46bfa575885aaf0fe40c4327fcbd2b5327da"), looks := false }, kinds := [], alts := [], laidByText := true, laidKinds := [.data, .data], laidTests := true, laidLooks := .later }
def FnExactSealKeysCardSaid : Prop := Claim7.holds Tryd.pinned (.plain (OpenSpec.ofChange fnExactSealKeysSpec)) fnExactSealKeysCard

/-- THE TIED CARD OF 'laws.FnExactSealBytes'. -/
def fnExactSealBytesCard : Claim7 := { stood := { row := fnExactSealBytesRow, standIns := [], harness := (true, "8c20a5c97d1df52c09153d2d4d8e46bfa575885aaf0fe40c4327fcbd2b5327da"), looks := false }, kinds := [], alts := [], laidByText := true, laidKinds := [.data, .data], laidTests := true, laidLooks := .later }
def FnExactSealBytesCardSaid : Prop := Claim7.holds Tryd.pinned (.plain (OpenSpec.ofChange fnExactSealBytesSpec)) fnExactSealBytesCard

/-- THE TIED CARD OF 'laws.FnExactOpenBytes'. -/
def fnExactOpenBytesCard : Claim7 := { stood := { row := fnExactOpenBytesRow, standIns := [], harness := (true, "8c20a5c97d1df52c09153d2d4d8e46bfa575885aaf0fe40c4327fcbd2b5327da"), looks := false }, kinds := [], alts := [], laidByText := true, laidKinds := [.data, .data], laidTests := true, laidLooks := .later }
def FnExactOpenBytesCardSaid : Prop := Claim7.holds Tryd.pinned (.plain (OpenSpec.ofChange fnExactOpenBytesSpec)) fnExactOpenBytesCard

/-- THE SECOND FORM's CARD OF 'laws.FnSeal'. -/
def fnSealUptoCard : Claim7 := { stood := { row := fnSealUptoRow, standIns := [], harness := (true, "8c20a5c97d1df52c09153d2d4d8e46bfa575885aaf0fe40c4327fcbd2b5327da"), looks := false }, kinds := [], alts := [], laidByText := true, laidKinds := [.data, .data], laidTests := true, laidLooks := .later }
def FnSealUptoCardSaid : Prop := Claim7.holds Tryd.pinned (.plain (OpenSpec.upto fnSealSpec)) fnSealUptoCard

/-- THE SECOND FORM's CARD OF 'laws.FnExactSealKeys'. -/
def fnExactSealKeysUptoCard : Claim7 := { stood := { row := fnExactSealKeysUptoRow, standIns := [], harness := (true, "8c20a5c97d1df52c09153d2d4d8e46bfa575885aaf0fe40c4327fcbd2b5327da"), looks := false }, kinds := [], alts := [], laidByText := true, laidKinds := [.data, .data], laidTests := true, laidLooks := .later }
def FnExactSealKeysUptoCardSaid : Prop := Claim7.holds Tryd.pinned (.plain (OpenSpec.upto fnExactSealKeysSpec)) fnExactSealKeysUptoCard

/-- THE SECOND FORM's CARD OF 'laws.FnExactSealBytes'. -/
def fnExactSealBytesUptoCard : Claim7 := { stood := { row := fnExactSealBytesUptoRow, standIns := [], harness := (true, "8c20a5c97d1df52c09153d2d4d8e46bfa575885aaf0fe40c4327fcbd2b5327da"), looks := false }, kinds := [], alts := [], laidByText := true, laidKinds := [.data, .data], laidTests := true, laidLooks := .later }
def FnExactSealBytesUptoCardSaid : Prop := Claim7.holds Tryd.pinned (.plain (OpenSpec.upto fnExactSealBytesSpec)) fnExactSealBytesUptoCard

/-- THE SECOND FORM's CARD OF 'laws.FnExactOpenBytes'. -/
def fnExactOpenBytesUptoCard : Claim7 := { stood := { row := fnExactOpenBytesUptoRow, standIns := [], harness := (true, "8c20a5c97d1df52c09153d2d4d8e46bfa575885aaf0fe40c4327fcbd2b5327da"), looks := false }, kinds := [], alts := [], laidByText := true, laidKinds := [.data, .data], laidTests := true, laidLooks := .later }
def FnExactOpenBytesUptoCardSaid : Prop := Claim7.holds Tryd.pinned (.plain (OpenSpec.upto fnExactOpenBytesSpec)) fnExactOpenBytesUptoCard
end Rows
end Go.Proofs.YtbcaccmmbhbbdaaDoor
