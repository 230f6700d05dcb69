/-
  DERIVED. GIVEN WITH THE SEED: THE CARDS: each row of YtkhglllicblbbaaDoorRows.lean that lists a variable, with what it lists TIED to the program's text (the seventh form; the later family's looks); each row that meets fmt, with fmt's text TOLD by the authors' own Lean function (tested against real Go, not proved from fmt's source: count such statements apart). THE CARD IS WHAT COUNTS. Prove the row's statement (the work); the ties are given (YtkhglllicblbbaaDoorTie.lean); close each card by the builder's one call (the guide's Derived/Test/ToyasCard.lean, 'card_holds'). Laid BY PROGRAM, IN A SANDBOX (cutbox-door.mjs). By AI agents, Wed Nov 11 2026. No macro, syntax, notation, axiom, sorry.
-/
import Derived.Test.YtkhglllicblbbaaDoorRows
import GoSem.ClaimSeven
namespace Go.Proofs.YtkhglllicblbbaaDoor
namespace Rows

/-- THE TIED CARD OF 'laws.FnDisk'. -/
def fnDiskCard : Claim7 := { stood := { row := fnDiskRow, standIns := [], harness := (true, "dc26b8dbf673d3da98476a088497fad3dcf37bb1fd50ec9891b350ec28453e56"), looks := true }, kinds := [], alts := [], laidByText := true, laidKinds := [.sentinel, .sentinel, .sentinel, .sentinel, .sentinel], laidTests := true, laidLooks := .later }
def FnDiskCardSaid : Prop := Claim7.holds Tryd.pinned (.plain (OpenSpec.ofChange fnDiskSpec)) fnDiskCard

/-- THE TIED CARD OF 'laws.FnTears'. -/
def fnTearsCard : Claim7 := { stood := { row := fnTearsRow, standIns := [], harness := (true, "dc26b8dbf673d3da98476a088497fad3dcf37bb1fd50ec9891b350ec28453e56"), looks := true }, kinds := [], alts := [], laidByText := true, laidKinds := [.sentinel, .sentinel, .sentinel, .sentinel, .sentinel], laidTests := true, laidLooks := .later }
def FnTearsCardSaid : Prop := Claim7.holds Tryd.pinned (.plain (OpenSpec.ofChange fnTearsSpec)) fnTearsCard

/-- THE TIED CARD OF 'laws.FnLink'. -/
def fnLinkCard : Claim7 := { stood := { row := fnLinkRow, standIns := [], harness := (true, "dc26b8dbf673d3da98476a088497fad3dcf37bb1fd50ec9891b350ec28453e56"), looks := true }, kinds := [], alts := [], laidByText := true, laidKinds := [.data, .data], laidTests := true, laidLooks := .later }
def FnLinkCardSaid : Prop := Claim7.holds Tryd.pinned (.plain (OpenSpec.ofChange fnLinkSpec)) fnLinkCard

/-- THE TIED CARD OF 'laws.FnExactDiskRun'. -/
def fnExactDiskRunCard : Claim7 := { stood := { row := fnExactDiskRunRow, standIns := [], harness := (true, "dc26b8dbf673d3da98476a088497fad3dcf37bb1fd50ec9891b350ec28453e56"), looks := true }, kinds := [], alts := [], laidByText := true, laidKinds := [.sentinel, .sentinel, .sentinel, .sentinel, .sentinel], laidTests := true, laidLooks := .later }
def FnExactDiskRunCardSaid : Prop := Claim7.holds Tryd.pinned (.plain (OpenSpec.ofChange fnExactDiskRunSpec)) fnExactDiskRunCard

/-- THE TIED CARD OF 'laws.FnExactLinkKey'. -/
def fnExactLinkKeyCard : Claim7 := { stood := { row := fnExactLinkKeyRow, standIns := [], harness := (true, "dc26b8dbf673d3da98476a088497fad3dcf37bb1fd50ec9891b350ec28453e56"), looks := true }, kinds := [], alts := [], laidByText := true, laidKinds := [.data, .data], laidTests := true, laidLooks := .later }
def FnExactLinkKeyCardSaid : Prop := Claim7.holds Tryd.pinned (.plain (OpenSpec.ofChange fnExactLinkKeySpec)) fnExactLinkKeyCard

/-- THE SECOND FORM's CARD OF 'laws.FnDisk'. -/
def fnDiskUptoCard : Claim7 := { stood := { row := fnDiskUptoRow, standIns := [], harness := (true, "dc26b8dbf673d3da98476a088497fad3dcf37bb1fd50ec9891b350ec28453e56"), looks := true }, kinds := [], alts := [], laidByText := true, laidKinds := [.sentinel, .sentinel, .sentinel, .sentinel, .sentinel], laidTests := true, laidLooks := .later }
def FnDiskUptoCardSaid : Prop := Claim7.holds Tryd.pinned (.plain (OpenSpec.upto fnDiskSpec)) fnDiskUptoCard

/-- THE SECOND FORM's CARD OF 'laws.FnTears'. -/
def fnTearsUptoCard : Claim7 := { stood := { row := fnTearsUptoRow, standIns := [], harness := (true, "dc26b8dbf673d3da98476a088497fad3dcf37bb1fd50ec9891b350ec28453e56"), looks := true }, kinds := [], alts := [], laidByText := true, laidKinds := [.sentinel, .sentinel, .sentinel, .sentinel, .sentinel], laidTests := true, laidLooks := .later }
def FnTearsUptoCardSaid : Prop := Claim7.holds Tryd.pinned (.plain (OpenSpec.upto fnTearsSpec)) fnTearsUptoCard

/-- THE SECOND FORM's CARD OF 'laws.FnLink'. -/
def fnLinkUptoCard : Claim7 := { stood := { row := fnLinkUptoRow, standIns := [], harness := (true, "dc26b8dbf673d3da98476a088497fad3dcf37bb1fd50ec9891b350ec28453e56"), looks := true }, kinds := [], alts := [], laidByText := true, laidKinds := [.data, .data], laidTests := true, laidLooks := .later }
def FnLinkUptoCardSaid : Prop := Claim7.holds Tryd.pinned (.plain (OpenSpec.upto fnLinkSpec)) fnLinkUptoCard

/-- THE SECOND FORM's CARD OF 'laws.FnExactDiskRun'. -/
def fnExactDiskRunUptoCard : Claim7 := { stood := { row := fnExactDiskRunUptoRow, standIns := [], harness := (true, "dc26b8dbf673d3da98476a088497fad3dcf37bb1fd50ec9891b350ec28453e56"), looks := true }, kinds := [], alts := [], laidByText := true, laidKinds := [.sentinel, .sentinel, .sentinel, .sentinel, .sentinel], laidTests := true, laidLooks := .later }
def FnExactDiskRunUptoCardSaid : Prop := Claim7.holds Tryd.pinned (.plain (OpenSpec.upto fnExactDiskRunSpec)) fnExactDiskRunUptoCard

/-- THE SECOND FORM's CARD OF 'laws.FnExactLinkKey'. -/
def fnExactLinkKeyUptoCard : Claim7 := { stood := { row := fnExactLinkKeyUptoRow, standIns := [], harness := (true, "dc26b8dbf673d3da98476a088497fad3dcf37bb1fd50ec9891b350ec28453e56"), looks := true }, kinds := [], alts := [], laidByText := true, laidKinds := [.data, .data], laidTests := true, laidLooks := .later }
def FnExactLinkKeyUptoCardSaid : Prop := Claim7.holds Tryd.pinned (.plain (OpenSpec.upto fnExactLinkKeySpec)) fnExactLinkKeyUptoCard
end Rows
end Go.Proofs.YtkhglllicblbbaaDoor
