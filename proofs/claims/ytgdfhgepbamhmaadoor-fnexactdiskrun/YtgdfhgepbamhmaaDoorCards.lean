/-
  DERIVED. GIVEN WITH THE SEED: THE CARDS: each row of YtgdfhgepbamhmaaDoorRows.lean that lists a variable, with what it lists TIED to the program's text (the seventh form; the later family's looks); each row that meets fmt, with fmt's text TOLD by the authors' own Lean function (tested against real Go, not proved from fmt's source: count such statements apart). THE CARD IS WHAT COUNTS. Prove the row's statement (the work); the ties are given (YtgdfhgepbamhmaaDoorTie.lean); close each card by the builder's one call (the guide's Derived/Test/ToyasCard.lean, 'card_holds'). Laid BY PROGRAM, IN A SANDBOX (cutbox-door.mjs). By AI agents, Wed Nov 11 2026. No macro, syntax, notation, axiom, sorry.
-/
import Derived.Test.YtgdfhgepbamhmaaDoorRows
import GoSem.ClaimSeven
namespace Go.Proofs.YtgdfhgepbamhmaaDoor
namespace Rows

/-- THE TIED CARD OF 'laws.FnExactDiskRun'. -/
def fnExactDiskRunCard : Claim7 := { stood := { row := fnExactDiskRunRow, standIns := [], harness := (true, "4219bc54ffdb8f6016bce431ab14fcae7d54575d048d27a781b2bd303309d507"), looks := true }, kinds := [], alts := [], laidByText := true, laidKinds := [.sentinel, .sentinel, .sentinel, .sentinel, .sentinel], laidTests := true, laidLooks := .later }
def FnExactDiskRunCardSaid : Prop := Claim7.holds Tryd.pinned (.plain (OpenSpec.ofChange fnExactDiskRunSpec)) fnExactDiskRunCard

/-- THE SECOND FORM's CARD OF 'laws.FnExactDiskRun'. -/
def fnExactDiskRunUptoCard : Claim7 := { stood := { row := fnExactDiskRunUptoRow, standIns := [], harness := (true, "4219bc54ffdb8f6016bce431ab14fcae7d54575d048d27a781b2bd303309d507"), looks := true }, kinds := [], alts := [], laidByText := true, laidKinds := [.sentinel, .sentinel, .sentinel, .sentinel, .sentinel], laidTests := true, laidLooks := .later }
def FnExactDiskRunUptoCardSaid : Prop := Claim7.holds Tryd.pinned (.plain (OpenSpec.upto fnExactDiskRunSpec)) fnExactDiskRunUptoCard
end Rows
end Go.Proofs.YtgdfhgepbamhmaaDoor
