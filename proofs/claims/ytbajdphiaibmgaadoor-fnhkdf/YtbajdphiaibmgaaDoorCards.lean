/-
  DERIVED. GIVEN WITH THE SEED: THE CARDS: each row of YtbajdphiaibmgaaDoorRows.lean that lists a variable, with what it lists TIED to the program's text (the seventh form; the later family's looks); each row that meets fmt, with fmt's text TOLD by the authors' own Lean function (tested against real Go, not proved from fmt's source: count such statements apart). THE CARD IS WHAT COUNTS. Prove the row's statement (the work); the ties are given (YtbajdphiaibmgaaDoorTie.lean); close each card by the builder's one call (the guide's Derived/Test/ToyasCard.lean, 'card_holds'). Laid BY PROGRAM, IN A SANDBOX (cutbox-door.mjs). By AI agents, Wed Nov 11 2026. No macro, syntax, notation, axiom, sorry.
-/
import Derived.Test.YtbajdphiaibmgaaDoorRows
import GoSem.ClaimSeven
namespace Go.Proofs.YtbajdphiaibmgaaDoor
namespace Rows

/-- THE TIED CARD OF 'laws.FnHkdf'. -/
def fnHkdfCard : Claim7 := { stood := { row := fnHkdfRow, standIns := [], harness := (true, "f81bd85c8c37c2a4bf62c3803f5655324a67eed35d4b7b4aebb90538e0c78e87"), looks := false }, kinds := [], alts := [], laidByText := true, laidKinds := [.data, .data], laidTests := true, laidLooks := .later }
def FnHkdfCardSaid : Prop := Claim7.holds Tryd.pinned (.plain (OpenSpec.ofChange fnHkdfSpec)) fnHkdfCard

/-- THE TIED CARD OF 'laws.FnExactHash'. -/
def fnExactHashCard : Claim7 := { stood := { row := fnExactHashRow, standIns := [], harness := (true, "f81bd85c8c37c2a4bf62c3803f5655324a67eed35d4b7b4aebb90538e0c78e87"), looks := false }, kinds := [], alts := [], laidByText := true, laidKinds := [.data, .data], laidTests := true, laidLooks := .later }
def FnExactHashCardSaid : Prop := Claim7.holds Tryd.pinned (.plain (OpenSpec.ofChange fnExactHashSpec)) fnExactHashCard

/-- THE TIED CARD OF 'laws.FnExactHmac'. -/
def fnExactHmacCard : Claim7 := { stood := { row := fnExactHmacRow, standIns := [], harness := (true, "f81bd85c8c37c2a4bf62c3803f5655324a67eed35d4b7b4aebb90538e0c78e87"), looks := false }, kinds := [], alts := [], laidByText := true, laidKinds := [.data, .data], laidTests := true, laidLooks := .later }
def FnExactHmacCardSaid : Prop := Claim7.holds Tryd.pinned (.plain (OpenSpec.ofChange fnExactHmacSpec)) fnExactHmacCard

/-- THE TIED CARD OF 'laws.FnExactHkdfExtract'. -/
def fnExactHkdfExtractCard : Claim7 := { stood := { row := fnExactHkdfExtractRow, standIns := [], harness := (true, "f81bd85c8c37c2a4bf62c3803f5655324a67eed35d4b7b4aebb90538e0c78e87"), looks := false }, kinds := [], alts := [], laidByText := true, laidKinds := [.data, .data], laidTests := true, laidLooks := .later }
def FnExactHkdfExtractCardSaid : Prop := Claim7.holds Tryd.pinned (.plain (OpenSpec.ofChange fnExactHkdfExtractSpec)) fnExactHkdfExtractCard

/-- THE SECOND FORM's CARD OF 'laws.FnHkdf'. -/
def fnHkdfUptoCard : Claim7 := { stood := { row := fnHkdfUptoRow, standIns := [], harness := (true, "f81bd85c8c37c2a4bf62c3803f5655324a67eed35d4b7b4aebb90538e0c78e87"), looks := false }, kinds := [], alts := [], laidByText := true, laidKinds := [.data, .data], laidTests := true, laidLooks := .later }
def FnHkdfUptoCardSaid : Prop := Claim7.holds Tryd.pinned (.plain (OpenSpec.upto fnHkdfSpec)) fnHkdfUptoCard

/-- THE SECOND FORM's CARD OF 'laws.FnExactHash'. -/
def fnExactHashUptoCard : Claim7 := { stood := { row := fnExactHashUptoRow, standIns := [], harness := (true, "f81bd85c8c37c2a4bf62c3803f5655324a67eed35d4b7b4aebb90538e0c78e87"), looks := false }, kinds := [], alts := [], laidByText := true, laidKinds := [.data, .data], laidTests := true, laidLooks := .later }
def FnExactHashUptoCardSaid : Prop := Claim7.holds Tryd.pinned (.plain (OpenSpec.upto fnExactHashSpec)) fnExactHashUptoCard

/-- THE SECOND FORM's CARD OF 'laws.FnExactHmac'. -/
def fnExactHmacUptoCard : Claim7 := { stood := { row := fnExactHmacUptoRow, standIns := [], harness := (true, "f81bd85c8c37c2a4bf62c3803f5655324a67eed35d4b7b4aebb90538e0c78e87"), looks := false }, kinds := [], alts := [], laidByText := true, laidKinds := [.data, .data], laidTests := true, laidLooks := .later }
def FnExactHmacUptoCardSaid : Prop := Claim7.holds Tryd.pinned (.plain (OpenSpec.upto fnExactHmacSpec)) fnExactHmacUptoCard

/-- THE SECOND FORM's CARD OF 'laws.FnExactHkdfExtract'. -/
def fnExactHkdfExtractUptoCard : Claim7 := { stood := { row := fnExactHkdfExtractUptoRow, standIns := [], harness := (true, "f81bd85c8c37c2a4bf62c3803f5655324a67eed35d4b7b4aebb90538e0c78e87"), looks := false }, kinds := [], alts := [], laidByText := true, laidKinds := [.data, .data], laidTests := true, laidLooks := .later }
def FnExactHkdfExtractUptoCardSaid : Prop := Claim7.holds Tryd.pinned (.plain (OpenSpec.upto fnExactHkdfExtractSpec)) fnExactHkdfExtractUptoCard
end Rows
end Go.Proofs.YtbajdphiaibmgaaDoor
