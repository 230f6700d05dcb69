/-
  DERIVED. GIVEN WITH THE SEED: THE CARDS: each row of YtkhglllicblbbabDoorRows.lean that lists a variable, with what it lists TIED to the program's text (the seventh form; the later family's looks); each row that meets fmt, with fmt's text TOLD by the authors' own Lean function (tested against real Go, not proved from fmt's source: count such statements apart). THE CARD IS WHAT COUNTS. Prove the row's statement (the work); the ties are given (YtkhglllicblbbabDoorTie.lean); close each card by the builder's one call (the guide's Derived/Test/ToyasCard.lean, 'card_holds'). Laid BY PROGRAM, IN A SANDBOX (cutbox-door.mjs). By AI agents, Wed Nov 11 2026. No macro, syntax, notation, axiom, sorry.
-/
import Derived.Test.YtkhglllicblbbabDoorRows
import GoSem.ClaimSeven
namespace Go.Proofs.YtkhglllicblbbabDoor
namespace Rows

/-- THE TIED CARD OF 'laws.FnExactPacketTag'. -/
def fnExactPacketTagCard : Claim7 := { stood := { row := fnExactPacketTagRow, standIns := [], harness := (true, "fe70d74a0e38155a65216a496e75c68028345fcd31ab0a3d20e50e64f73cf07d"), looks := false }, kinds := [], alts := [], laidByText := true, laidKinds := [.data, .data], laidTests := true, laidLooks := .later }
def FnExactPacketTagCardSaid : Prop := Claim7.holds Tryd.pinned (.plain (OpenSpec.ofChange fnExactPacketTagSpec)) fnExactPacketTagCard

/-- THE TIED CARD OF 'laws.FnExactLinkSend'. -/
def fnExactLinkSendCard : Claim7 := { stood := { row := fnExactLinkSendRow, standIns := [], harness := (true, "fe70d74a0e38155a65216a496e75c68028345fcd31ab0a3d20e50e64f73cf07d"), looks := false }, kinds := [], alts := [], laidByText := true, laidKinds := [.data, .data], laidTests := true, laidLooks := .later }
def FnExactLinkSendCardSaid : Prop := Claim7.holds Tryd.pinned (.plain (OpenSpec.ofChange fnExactLinkSendSpec)) fnExactLinkSendCard

/-- THE TIED CARD OF 'laws.FnExactLinkTake'. -/
def fnExactLinkTakeCard : Claim7 := { stood := { row := fnExactLinkTakeRow, standIns := [], harness := (true, "fe70d74a0e38155a65216a496e75c68028345fcd31ab0a3d20e50e64f73cf07d"), looks := false }, kinds := [], alts := [], laidByText := true, laidKinds := [.data, .data], laidTests := true, laidLooks := .later }
def FnExactLinkTakeCardSaid : Prop := Claim7.holds Tryd.pinned (.plain (OpenSpec.ofChange fnExactLinkTakeSpec)) fnExactLinkTakeCard

/-- THE SECOND FORM's CARD OF 'laws.FnExactPacketTag'. -/
def fnExactPacketTagUptoCard : Claim7 := { stood := { row := fnExactPacketTagUptoRow, standIns := [], harness := (true, "fe70d74a0e38155a65216a496e75c68028345fcd31ab0a3d20e50e64f73cf07d"), looks := false }, kinds := [], alts := [], laidByText := true, laidKinds := [.data, .data], laidTests := true, laidLooks := .later }
def FnExactPacketTagUptoCardSaid : Prop := Claim7.holds Tryd.pinned (.plain (OpenSpec.upto fnExactPacketTagSpec)) fnExactPacketTagUptoCard

/-- THE SECOND FORM's CARD OF 'laws.FnExactLinkSend'. -/
def fnExactLinkSendUptoCard : Claim7 := { stood := { row := fnExactLinkSendUptoRow, standIns := [], harness := (true, "fe70d74a0e38155a65216a496e75c68028345fcd31ab0a3d20e50e64f73cf07d"), looks := false }, kinds := [], alts := [], laidByText := true, laidKinds := [.data, .data], laidTests := true, laidLooks := .later }
def FnExactLinkSendUptoCardSaid : Prop := Claim7.holds Tryd.pinned (.plain (OpenSpec.upto fnExactLinkSendSpec)) fnExactLinkSendUptoCard

/-- THE SECOND FORM's CARD OF 'laws.FnExactLinkTake'. -/
def fnExactLinkTakeUptoCard : Claim7 := { stood := { row := fnExactLinkTakeUptoRow, standIns := [], harness := (true, "fe70d74a0e38155a65216a496e75c68028345fcd31ab0a3d20e50e64f73cf07d"), looks := false }, kinds := [], alts := [], laidByText := true, laidKinds := [.data, .data], laidTests := true, laidLooks := .later }
def FnExactLinkTakeUptoCardSaid : Prop := Claim7.holds Tryd.pinned (.plain (OpenSpec.upto fnExactLinkTakeSpec)) fnExactLinkTakeUptoCard
end Rows
end Go.Proofs.YtkhglllicblbbabDoor
