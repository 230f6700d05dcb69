/-
  DERIVED. GIVEN WITH THE SEED: THE CARDS: each row of YtmejmpdnmhnheaaDoorRows.lean that lists a variable, with what it lists TIED to the program's text (the seventh form; the later family's looks); each row that meets fmt, with fmt's text TOLD by the authors' own Lean function (tested against real Go, not proved from fmt's source: count such statements apart). THE CARD IS WHAT COUNTS. Prove the row's statement (the work); the ties are given (YtmejmpdnmhnheaaDoorTie.lean); close each card by the builder's one call (the guide's Derived/Test/ToyasCard.lean, 'card_holds'). Laid BY PROGRAM, IN A SANDBOX (cutbox-door.mjs). By AI agents, Wed Nov 11 2026. No macro, syntax, notation, axiom, sorry.
-/
import Derived.Test.YtmejmpdnmhnheaaDoorRows
import GoSem.ClaimSeven
namespace Go.Proofs.YtmejmpdnmhnheaaDoor
namespace Rows

/-- THE TIED CARD OF 'laws.FnBank'. -/
def fnBankCard : Claim7 := { stood := { row := fnBankRow, standIns := [], harness := (true, "8f652b9b3d54da8d9eddb23e30fa4442e4f9e2e0007c86d41e4be2bbbed14385"), looks := true }, kinds := [], alts := [], laidByText := true, laidKinds := [.data], laidTests := true, laidLooks := .later }
def FnBankCardSaid : Prop := Claim7.holds Tryd.pinned (.plain (OpenSpec.ofChange fnBankSpec)) fnBankCard

/-- THE TIED CARD OF 'laws.FnBankBytes'. -/
def fnBankBytesCard : Claim7 := { stood := { row := fnBankBytesRow, standIns := [], harness := (true, "8f652b9b3d54da8d9eddb23e30fa4442e4f9e2e0007c86d41e4be2bbbed14385"), looks := true }, kinds := [], alts := [], laidByText := true, laidKinds := [.data], laidTests := true, laidLooks := .later }
def FnBankBytesCardSaid : Prop := Claim7.holds Tryd.pinned (.plain (OpenSpec.ofChange fnBankBytesSpec)) fnBankBytesCard

/-- THE TIED CARD OF 'laws.FnExactDiskRun'. -/
def fnExactDiskRunCard : Claim7 := { stood := { row := fnExactDiskRunRow, standIns := [], harness := (true, "8f652b9b3d54da8d9eddb23e30fa4442e4f9e2e0007c86d41e4be2bbbed14385"), looks := true }, kinds := [], alts := [], laidByText := true, laidKinds := [.sentinel, .sentinel, .sentinel, .sentinel, .sentinel], laidTests := true, laidLooks := .later }
def FnExactDiskRunCardSaid : Prop := Claim7.holds Tryd.pinned (.plain (OpenSpec.ofChange fnExactDiskRunSpec)) fnExactDiskRunCard

/-- THE TIED CARD OF 'laws.FnExactBankOK'. -/
def fnExactBankOKCard : Claim7 := { stood := { row := fnExactBankOKRow, standIns := [], harness := (true, "8f652b9b3d54da8d9eddb23e30fa4442e4f9e2e0007c86d41e4be2bbbed14385"), looks := true }, kinds := [], alts := [], laidByText := true, laidKinds := [.data], laidTests := true, laidLooks := .later }
def FnExactBankOKCardSaid : Prop := Claim7.holds Tryd.pinned (.plain (OpenSpec.ofChange fnExactBankOKSpec)) fnExactBankOKCard

/-- THE TIED CARD OF 'laws.FnExactReadRegister'. -/
def fnExactReadRegisterCard : Claim7 := { stood := { row := fnExactReadRegisterRow, standIns := [], harness := (true, "8f652b9b3d54da8d9eddb23e30fa4442e4f9e2e0007c86d41e4be2bbbed14385"), looks := true }, kinds := [], alts := [], laidByText := true, laidKinds := [.data], laidTests := true, laidLooks := .later }
def FnExactReadRegisterCardSaid : Prop := Claim7.holds Tryd.pinned (.plain (OpenSpec.ofChange fnExactReadRegisterSpec)) fnExactReadRegisterCard

/-- THE SECOND FORM's CARD OF 'laws.FnBank'. -/
def fnBankUptoCard : Claim7 := { stood := { row := fnBankUptoRow, standIns := [], harness := (true, "8f652b9b3d54da8d9eddb23e30fa4442e4f9e2e0007c86d41e4be2bbbed14385"), looks := true }, kinds := [], alts := [], laidByText := true, laidKinds := [.data], laidTests := true, laidLooks := .later }
def FnBankUptoCardSaid : Prop := Claim7.holds Tryd.pinned (.plain (OpenSpec.upto fnBankSpec)) fnBankUptoCard

/-- THE SECOND FORM's CARD OF 'laws.FnBankBytes'. -/
def fnBankBytesUptoCard : Claim7 := { stood := { row := fnBankBytesUptoRow, standIns := [], harness := (true, "8f652b9b3d54da8d9eddb23e30fa4442e4f9e2e0007c86d41e4be2bbbed14385"), looks := true }, kinds := [], alts := [], laidByText := true, laidKinds := [.data], laidTests := true, laidLooks := .later }
def FnBankBytesUptoCardSaid : Prop := Claim7.holds Tryd.pinned (.plain (OpenSpec.upto fnBankBytesSpec)) fnBankBytesUptoCard

/-- THE SECOND FORM's CARD OF 'laws.FnExactDiskRun'. -/
def fnExactDiskRunUptoCard : Claim7 := { stood := { row := fnExactDiskRunUptoRow, standIns := [], harness := (true, "8f652b9b3d54da8d9eddb23e30fa4442e4f9e2e0007c86d41e4be2bbbed14385"), looks := true }, kinds := [], alts := [], laidByText := true, laidKinds := [.sentinel, .sentinel, .sentinel, .sentinel, .sentinel], laidTests := true, laidLooks := .later }
def FnExactDiskRunUptoCardSaid : Prop := Claim7.holds Tryd.pinned (.plain (OpenSpec.upto fnExactDiskRunSpec)) fnExactDiskRunUptoCard

/-- THE SECOND FORM's CARD OF 'laws.FnExactBankOK'. -/
def fnExactBankOKUptoCard : Claim7 := { stood := { row := fnExactBankOKUptoRow, standIns := [], harness := (true, "8f652b9b3d54da8d9eddb23e30fa4442e4f9e2e0007c86d41e4be2bbbed14385"), looks := true }, kinds := [], alts := [], laidByText := true, laidKinds := [.data], laidTests := true, laidLooks := .later }
def FnExactBankOKUptoCardSaid : Prop := Claim7.holds Tryd.pinned (.plain (OpenSpec.upto fnExactBankOKSpec)) fnExactBankOKUptoCard

/-- THE SECOND FORM's CARD OF 'laws.FnExactReadRegister'. -/
def fnExactReadRegisterUptoCard : Claim7 := { stood := { row := fnExactReadRegisterUptoRow, standIns := [], harness := (true, "8f652b9b3d54da8d9eddb23e30fa4442e4f9e2e0007c86d41e4be2bbbed14385"), looks := true }, kinds := [], alts := [], laidByText := true, laidKinds := [.data], laidTests := true, laidLooks := .later }
def FnExactReadRegisterUptoCardSaid : Prop := Claim7.holds Tryd.pinned (.plain (OpenSpec.upto fnExactReadRegisterSpec)) fnExactReadRegisterUptoCard
end Rows
end Go.Proofs.YtmejmpdnmhnheaaDoor
