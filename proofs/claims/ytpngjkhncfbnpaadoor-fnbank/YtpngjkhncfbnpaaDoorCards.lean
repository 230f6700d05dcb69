/-
  DERIVED. GIVEN WITH THE SEED: THE CARDS: each row of YtpngjkhncfbnpaaDoorRows.lean that lists a variable, with what it lists TIED to the program's text (the seventh form; the later family's looks); each row that meets fmt, with fmt's text TOLD by the authors' own Lean function (tested against real Go, not proved from fmt's source: count such statements apart). THE CARD IS WHAT COUNTS. Prove the row's statement (the work); the ties are given (YtpngjkhncfbnpaaDoorTie.lean); close each card by the builder's one call (the guide's Derived/Test/ToyasCard.lean, 'card_holds'). Laid BY PROGRAM, IN A SANDBOX (cutbox-door.mjs). By AI agents, Wed Nov 11 2026. No macro, syntax, notation, axiom, sorry.
-/
import Derived.Test.YtpngjkhncfbnpaaDoorRows
import GoSem.ClaimSeven
namespace Go.Proofs.YtpngjkhncfbnpaaDoor
namespace Rows

/-- THE TIED CARD OF 'laws.FnExactDiskRun'. -/
def fnExactDiskRunCard : Claim7 := { stood := { row := fnExactDiskRunRow, standIns := [], harness := (true, "d22f93c424d3a8b2d80f6b69cca021cc0b54f13fdc4de10a14584ab331db8163"), looks := true }, kinds := [], alts := [], laidByText := true, laidKinds := [.sentinel, .sentinel, .sentinel, .sentinel, .sentinel], laidTests := true, laidLooks := .later }
def FnExactDiskRunCardSaid : Prop := Claim7.holds Tryd.pinned (.plain (OpenSpec.ofChange fnExactDiskRunSpec)) fnExactDiskRunCard

/-- THE TIED CARD OF 'laws.FnBank'. -/
def fnBankCard : Claim7 := { stood := { row := fnBankRow, standIns := [], harness := (true, "d22f93c424d3a8b2d80f6b69cca021cc0b54f13fdc4de10a14584ab331db8163"), looks := true }, kinds := [], alts := [], laidByText := true, laidKinds := [.data], laidTests := true, laidLooks := .later }
def FnBankCardSaid : Prop := Claim7.holds Tryd.pinned (.plain (OpenSpec.ofChange fnBankSpec)) fnBankCard

/-- THE TIED CARD OF 'laws.FnBankBytes'. -/
def fnBankBytesCard : Claim7 := { stood := { row := fnBankBytesRow, standIns := [], harness := (true, "d22f93c424d3a8b2d80f6b69cca021cc0b54f13fdc4de10a14584ab331db8163"), looks := true }, kinds := [], alts := [], laidByText := true, laidKinds := [.data], laidTests := true, laidLooks := .later }
def FnBankBytesCardSaid : Prop := Claim7.holds Tryd.pinned (.plain (OpenSpec.ofChange fnBankBytesSpec)) fnBankBytesCard

/-- THE SECOND FORM's CARD OF 'laws.FnExactDiskRun'. -/
def fnExactDiskRunUptoCard : Claim7 := { stood := { row := fnExactDiskRunUptoRow, standIns := [], harness := (true, "d22f93c424d3a8b2d80f6b69cca021cc0b54f13fdc4de10a14584ab331db8163"), looks := true }, kinds := [], alts := [], laidByText := true, laidKinds := [.sentinel, .sentinel, .sentinel, .sentinel, .sentinel], laidTests := true, laidLooks := .later }
def FnExactDiskRunUptoCardSaid : Prop := Claim7.holds Tryd.pinned (.plain (OpenSpec.upto fnExactDiskRunSpec)) fnExactDiskRunUptoCard

/-- THE SECOND FORM's CARD OF 'laws.FnBank'. -/
def fnBankUptoCard : Claim7 := { stood := { row := fnBankUptoRow, standIns := [], harness := (true, "d22f93c424d3a8b2d80f6b69cca021cc0b54f13fdc4de10a14584ab331db8163"), looks := true }, kinds := [], alts := [], laidByText := true, laidKinds := [.data], laidTests := true, laidLooks := .later }
def FnBankUptoCardSaid : Prop := Claim7.holds Tryd.pinned (.plain (OpenSpec.upto fnBankSpec)) fnBankUptoCard

/-- THE SECOND FORM's CARD OF 'laws.FnBankBytes'. -/
def fnBankBytesUptoCard : Claim7 := { stood := { row := fnBankBytesUptoRow, standIns := [], harness := (true, "d22f93c424d3a8b2d80f6b69cca021cc0b54f13fdc4de10a14584ab331db8163"), looks := true }, kinds := [], alts := [], laidByText := true, laidKinds := [.data], laidTests := true, laidLooks := .later }
def FnBankBytesUptoCardSaid : Prop := Claim7.holds Tryd.pinned (.plain (OpenSpec.upto fnBankBytesSpec)) fnBankBytesUptoCard
end Rows
end Go.Proofs.YtpngjkhncfbnpaaDoor
