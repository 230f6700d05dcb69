/-
  DERIVED. GIVEN WITH THE SEED: THE CARDS: each row of YtfhjenohgafjlabDoorRows.lean that lists a variable, with what it lists TIED to the program's text (the seventh form; the later family's looks); each row that meets fmt, with fmt's text TOLD by the authors' own Lean function (tested against real Go, not proved from fmt's source: count such statements apart). THE CARD IS WHAT COUNTS. Prove the row's statement (the work); the ties are given (YtfhjenohgafjlabDoorTie.lean); close each card by the builder's one call (the guide's Derived/Test/ToyasCard.lean, 'card_holds'). Laid BY PROGRAM, IN A SANDBOX (cutbox-door.mjs). By AI agents, Wed Nov 11 2026. No macro, syntax, notation, axiom, sorry.
-/
import Derived.Test.YtfhjenohgafjlabDoorRows
import GoSem.ClaimSeven
namespace Go.Proofs.YtfhjenohgafjlabDoor
namespace Rows

/-- THE TIED CARD OF 'laws.FnExactReadRegister'. -/
def fnExactReadRegisterCard : Claim7 := { stood := { row := fnExactReadRegisterRow, standIns := [], harness := (true, "a6f7e9858114a2bf2c6d27fd6952a78e562c51de41e1642a9a8c7d48c4cd73cc"), looks := false }, kinds := [], alts := [], laidByText := true, laidKinds := [.data], laidTests := true, laidLooks := .later }
def FnExactReadRegisterCardSaid : Prop := Claim7.holds Tryd.pinned (.plain (OpenSpec.ofChange fnExactReadRegisterSpec)) fnExactReadRegisterCard

/-- THE TIED CARD OF 'laws.FnExactAdvanceBank'. -/
def fnExactAdvanceBankCard : Claim7 := { stood := { row := fnExactAdvanceBankRow, standIns := [], harness := (true, "a6f7e9858114a2bf2c6d27fd6952a78e562c51de41e1642a9a8c7d48c4cd73cc"), looks := false }, kinds := [], alts := [], laidByText := true, laidKinds := [.data], laidTests := true, laidLooks := .later }
def FnExactAdvanceBankCardSaid : Prop := Claim7.holds Tryd.pinned (.plain (OpenSpec.ofChange fnExactAdvanceBankSpec)) fnExactAdvanceBankCard

/-- THE SECOND FORM's CARD OF 'laws.FnExactReadRegister'. -/
def fnExactReadRegisterUptoCard : Claim7 := { stood := { row := fnExactReadRegisterUptoRow, standIns := [], harness := (true, "a6f7e9858114a2bf2c6d27fd6952a78e562c51de41e1642a9a8c7d48c4cd73cc"), looks := false }, kinds := [], alts := [], laidByText := true, laidKinds := [.data], laidTests := true, laidLooks := .later }
def FnExactReadRegisterUptoCardSaid : Prop := Claim7.holds Tryd.pinned (.plain (OpenSpec.upto fnExactReadRegisterSpec)) fnExactReadRegisterUptoCard

/-- THE SECOND FORM's CARD OF 'laws.FnExactAdvanceBank'. -/
def fnExactAdvanceBankUptoCard : Claim7 := { stood := { row := fnExactAdvanceBankUptoRow, standIns := [], harness := (true, "a6f7e9858114a2bf2c6d27fd6952a78e562c51de41e1642a9a8c7d48c4cd73cc"), looks := false }, kinds := [], alts := [], laidByText := true, laidKinds := [.data], laidTests := true, laidLooks := .later }
def FnExactAdvanceBankUptoCardSaid : Prop := Claim7.holds Tryd.pinned (.plain (OpenSpec.upto fnExactAdvanceBankSpec)) fnExactAdvanceBankUptoCard
end Rows
end Go.Proofs.YtfhjenohgafjlabDoor
