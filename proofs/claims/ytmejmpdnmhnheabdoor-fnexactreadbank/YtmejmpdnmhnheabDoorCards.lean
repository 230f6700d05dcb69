/-
  DERIVED. GIVEN WITH THE SEED: THE CARDS: each row of YtmejmpdnmhnheabDoorRows.lean that lists a variable, with what it lists TIED to the program's text (the seventh form; the later family's looks); each row that meets fmt, with fmt's text TOLD by the authors' own Lean function (tested against real Go, not proved from fmt's source: count such statements apart). THE CARD IS WHAT COUNTS. Prove the row's statement (the work); the ties are given (YtmejmpdnmhnheabDoorTie.lean); close each card by the builder's one call (the guide's Derived/Test/ToyasCard.lean, 'card_holds'). Laid BY PROGRAM, IN A SANDBOX (cutbox-door.mjs). By AI agents, Wed Nov 11 2026. No macro, syntax, notation, axiom, sorry.
-/
import Derived.Test.YtmejmpdnmhnheabDoorRows
import GoSem.ClaimSeven
namespace Go.Proofs.YtmejmpdnmhnheabDoor
namespace Rows

/-- THE TIED CARD OF 'laws.FnExactAdvanceBank'. -/
def fnExactAdvanceBankCard : Claim7 := { stood := { row := fnExactAdvanceBankRow, standIns := [], harness := (true, "971f9cfb75de0c36599a2547e59d1d8306af420ead96d7ebfecbf995d0ea97c9"), looks := false }, kinds := [], alts := [], laidByText := true, laidKinds := [.data], laidTests := true, laidLooks := .later }
def FnExactAdvanceBankCardSaid : Prop := Claim7.holds Tryd.pinned (.plain (OpenSpec.ofChange fnExactAdvanceBankSpec)) fnExactAdvanceBankCard

/-- THE TIED CARD OF 'laws.FnExactBankBytes'. -/
def fnExactBankBytesCard : Claim7 := { stood := { row := fnExactBankBytesRow, standIns := [], harness := (true, "971f9cfb75de0c36599a2547e59d1d8306af420ead96d7ebfecbf995d0ea97c9"), looks := false }, kinds := [], alts := [], laidByText := true, laidKinds := [.data], laidTests := true, laidLooks := .later }
def FnExactBankBytesCardSaid : Prop := Claim7.holds Tryd.pinned (.plain (OpenSpec.ofChange fnExactBankBytesSpec)) fnExactBankBytesCard

/-- THE TIED CARD OF 'laws.FnExactReadBank'. -/
def fnExactReadBankCard : Claim7 := { stood := { row := fnExactReadBankRow, standIns := [], harness := (true, "971f9cfb75de0c36599a2547e59d1d8306af420ead96d7ebfecbf995d0ea97c9"), looks := false }, kinds := [], alts := [], laidByText := true, laidKinds := [.data], laidTests := true, laidLooks := .later }
def FnExactReadBankCardSaid : Prop := Claim7.holds Tryd.pinned (.plain (OpenSpec.ofChange fnExactReadBankSpec)) fnExactReadBankCard

/-- THE SECOND FORM's CARD OF 'laws.FnExactAdvanceBank'. -/
def fnExactAdvanceBankUptoCard : Claim7 := { stood := { row := fnExactAdvanceBankUptoRow, standIns := [], harness := (true, "971f9cfb75de0c36599a2547e59d1d8306af420ead96d7ebfecbf995d0ea97c9"), looks := false }, kinds := [], alts := [], laidByText := true, laidKinds := [.data], laidTests := true, laidLooks := .later }
def FnExactAdvanceBankUptoCardSaid : Prop := Claim7.holds Tryd.pinned (.plain (OpenSpec.upto fnExactAdvanceBankSpec)) fnExactAdvanceBankUptoCard

/-- THE SECOND FORM's CARD OF 'laws.FnExactBankBytes'. -/
def fnExactBankBytesUptoCard : Claim7 := { stood := { row := fnExactBankBytesUptoRow, standIns := [], harness := (true, "971f9cfb75de0c36599a2547e59d1d8306af420ead96d7ebfecbf995d0ea97c9"), looks := false }, kinds := [], alts := [], laidByText := true, laidKinds := [.data], laidTests := true, laidLooks := .later }
def FnExactBankBytesUptoCardSaid : Prop := Claim7.holds Tryd.pinned (.plain (OpenSpec.upto fnExactBankBytesSpec)) fnExactBankBytesUptoCard

/-- THE SECOND FORM's CARD OF 'laws.FnExactReadBank'. -/
def fnExactReadBankUptoCard : Claim7 := { stood := { row := fnExactReadBankUptoRow, standIns := [], harness := (true, "971f9cfb75de0c36599a2547e59d1d8306af420ead96d7ebfecbf995d0ea97c9"), looks := false }, kinds := [], alts := [], laidByText := true, laidKinds := [.data], laidTests := true, laidLooks := .later }
def FnExactReadBankUptoCardSaid : Prop := Claim7.holds Tryd.pinned (.plain (OpenSpec.upto fnExactReadBankSpec)) fnExactReadBankUptoCard
end Rows
end Go.Proofs.YtmejmpdnmhnheabDoor
