/-
  DERIVED. GIVEN WITH THE SEED: THE CARDS: each row of YtbecnaabmlkjjaaDoorRows.lean that lists a variable, with what it lists TIED to the program's text (the seventh form; the later family's looks); each row that meets fmt, with fmt's text TOLD by the authors' own Lean function (tested against real Go, not proved from fmt's source: count such statements apart). THE CARD IS WHAT COUNTS. Prove the row's statement (the work); the ties are given (YtbecnaabmlkjjaaDoorTie.lean); close each card by the builder's one call (the guide's Derived/Test/ToyasCard.lean, 'card_holds'). Laid BY PROGRAM, IN A SANDBOX (cutbox-door.mjs). By AI agents, Wed Nov 11 2026. No macro, syntax, notation, axiom, sorry.
-/
import Derived.Test.YtbecnaabmlkjjaaDoorRows
import GoSem.ClaimSeven
namespace Go.Proofs.YtbecnaabmlkjjaaDoor
namespace Rows

/-- THE TIED CARD OF 'laws.FnDisk'. -/
def fnDiskCard : Claim7 := { stood := { row := fnDiskRow, standIns := [], harness := (true, "3eb365bc5f832fdf03703cad119ebf297ad25d78566920f10f632aad6f1df43a"), looks := true }, kinds := [], alts := [], laidByText := true, laidKinds := [.sentinel, .sentinel, .sentinel, .sentinel, .sentinel], laidTests := true, laidLooks := .later }
def FnDiskCardSaid : Prop := Claim7.holds Tryd.pinned (.plain (OpenSpec.ofChange fnDiskSpec)) fnDiskCard

/-- THE TIED CARD OF 'laws.FnTears'. -/
def fnTearsCard : Claim7 := { stood := { row := fnTearsRow, standIns := [], harness := (true, "3eb365bc5f832fdf03703cad119ebf297ad25d78566920f10f632aad6f1df43a"), looks := true }, kinds := [], alts := [], laidByText := true, laidKinds := [.sentinel, .sentinel, .sentinel, .sentinel, .sentinel], laidTests := true, laidLooks := .later }
def FnTearsCardSaid : Prop := Claim7.holds Tryd.pinned (.plain (OpenSpec.ofChange fnTearsSpec)) fnTearsCard

/-- THE TIED CARD OF 'laws.FnExactDiskStep'. -/
def fnExactDiskStepCard : Claim7 := { stood := { row := fnExactDiskStepRow, standIns := [], harness := (true, "3eb365bc5f832fdf03703cad119ebf297ad25d78566920f10f632aad6f1df43a"), looks := true }, kinds := [], alts := [], laidByText := true, laidKinds := [.sentinel, .sentinel, .sentinel, .sentinel, .sentinel], laidTests := true, laidLooks := .later }
def FnExactDiskStepCardSaid : Prop := Claim7.holds Tryd.pinned (.plain (OpenSpec.ofChange fnExactDiskStepSpec)) fnExactDiskStepCard

/-- THE TIED CARD OF 'laws.FnExactDiskRun'. -/
def fnExactDiskRunCard : Claim7 := { stood := { row := fnExactDiskRunRow, standIns := [], harness := (true, "3eb365bc5f832fdf03703cad119ebf297ad25d78566920f10f632aad6f1df43a"), looks := true }, kinds := [], alts := [], laidByText := true, laidKinds := [.sentinel, .sentinel, .sentinel, .sentinel, .sentinel], laidTests := true, laidLooks := .later }
def FnExactDiskRunCardSaid : Prop := Claim7.holds Tryd.pinned (.plain (OpenSpec.ofChange fnExactDiskRunSpec)) fnExactDiskRunCard

/-- THE SECOND FORM's CARD OF 'laws.FnDisk'. -/
def fnDiskUptoCard : Claim7 := { stood := { row := fnDiskUptoRow, standIns := [], harness := (true, "3eb365bc5f832fdf03703cad119ebf297ad25d78566920f10f632aad6f1df43a"), looks := true }, kinds := [], alts := [], laidByText := true, laidKinds := [.sentinel, .sentinel, .sentinel, .sentinel, .sentinel], laidTests := true, laidLooks := .later }
def FnDiskUptoCardSaid : Prop := Claim7.holds Tryd.pinned (.plain (OpenSpec.upto fnDiskSpec)) fnDiskUptoCard

/-- THE SECOND FORM's CARD OF 'laws.FnTears'. -/
def fnTearsUptoCard : Claim7 := { stood := { row := fnTearsUptoRow, standIns := [], harness := (true, "3eb365bc5f832fdf03703cad119ebf297ad25d78566920f10f632aad6f1df43a"), looks := true }, kinds := [], alts := [], laidByText := true, laidKinds := [.sentinel, .sentinel, .sentinel, .sentinel, .sentinel], laidTests := true, laidLooks := .later }
def FnTearsUptoCardSaid : Prop := Claim7.holds Tryd.pinned (.plain (OpenSpec.upto fnTearsSpec)) fnTearsUptoCard

/-- THE SECOND FORM's CARD OF 'laws.FnExactDiskStep'. -/
def fnExactDiskStepUptoCard : Claim7 := { stood := { row := fnExactDiskStepUptoRow, standIns := [], harness := (true, "3eb365bc5f832fdf03703cad119ebf297ad25d78566920f10f632aad6f1df43a"), looks := true }, kinds := [], alts := [], laidByText := true, laidKinds := [.sentinel, .sentinel, .sentinel, .sentinel, .sentinel], laidTests := true, laidLooks := .later }
def FnExactDiskStepUptoCardSaid : Prop := Claim7.holds Tryd.pinned (.plain (OpenSpec.upto fnExactDiskStepSpec)) fnExactDiskStepUptoCard

/-- THE SECOND FORM's CARD OF 'laws.FnExactDiskRun'. -/
def fnExactDiskRunUptoCard : Claim7 := { stood := { row := fnExactDiskRunUptoRow, standIns := [], harness := (true, "3eb365bc5f832fdf03703cad119ebf297ad25d78566920f10f632aad6f1df43a"), looks := true }, kinds := [], alts := [], laidByText := true, laidKinds := [.sentinel, .sentinel, .sentinel, .sentinel, .sentinel], laidTests := true, laidLooks := .later }
def FnExactDiskRunUptoCardSaid : Prop := Claim7.holds Tryd.pinned (.plain (OpenSpec.upto fnExactDiskRunSpec)) fnExactDiskRunUptoCard
end Rows
end Go.Proofs.YtbecnaabmlkjjaaDoor
