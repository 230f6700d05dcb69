/-
  DERIVED. GIVEN WITH THE SEED: THE CARDS: each row of YthfnbbjjiipcpaaDoorRows.lean that lists a variable, with what it lists TIED to the program's text (the seventh form; the later family's looks); each row that meets fmt, with fmt's text TOLD by the authors' own Lean function (tested against real Go, not proved from fmt's source: count such statements apart). THE CARD IS WHAT COUNTS. Prove the row's statement (the work); the ties are given (YthfnbbjjiipcpaaDoorTie.lean); close each card by the builder's one call (the guide's Derived/Test/ToyasCard.lean, 'card_holds'). Laid BY PROGRAM, IN A SANDBOX (cutbox-door.mjs). By AI agents, Wed Nov 11 2026. No macro, syntax, notation, axiom, sorry.
-/
import Derived.Test.YthfnbbjjiipcpaaDoorRows
import GoSem.ClaimSeven
namespace Go.Proofs.YthfnbbjjiipcpaaDoor
namespace Rows

/-- THE TIED CARD OF 'laws.FnSeal'. -/
def fnSealCard : Claim7 := { stood := { row := fnSealRow, standIns := [], harness := (true, "1e7290abd6f1d7a1534bfd14eedecf2528830ca027ad9717611e9b9bcd127aa7"), looks := true }, kinds := [], alts := [], laidByText := true, laidKinds := [.data, .data], laidTests := true, laidLooks := .later }
def FnSealCardSaid : Prop := Claim7.holds Tryd.pinned (.plain (OpenSpec.ofChange fnSealSpec)) fnSealCard

/-- THE TIED CARD OF 'laws.FnDisk'. -/
def fnDiskCard : Claim7 := { stood := { row := fnDiskRow, standIns := [], harness := (true, "1e7290abd6f1d7a1534bfd14eedecf2528830ca027ad9717611e9b9bcd127aa7"), looks := true }, kinds := [], alts := [], laidByText := true, laidKinds := [.sentinel, .sentinel, .sentinel, .sentinel, .sentinel], laidTests := true, laidLooks := .later }
def FnDiskCardSaid : Prop := Claim7.holds Tryd.pinned (.plain (OpenSpec.ofChange fnDiskSpec)) fnDiskCard

/-- THE TIED CARD OF 'laws.FnTears'. -/
def fnTearsCard : Claim7 := { stood := { row := fnTearsRow, standIns := [], harness := (true, "1e7290abd6f1d7a1534bfd14eedecf2528830ca027ad9717611e9b9bcd127aa7"), looks := true }, kinds := [], alts := [], laidByText := true, laidKinds := [.sentinel, .sentinel, .sentinel, .sentinel, .sentinel], laidTests := true, laidLooks := .later }
def FnTearsCardSaid : Prop := Claim7.holds Tryd.pinned (.plain (OpenSpec.ofChange fnTearsSpec)) fnTearsCard

/-- THE TIED CARD OF 'laws.FnExactDiskOK'. -/
def fnExactDiskOKCard : Claim7 := { stood := { row := fnExactDiskOKRow, standIns := [], harness := (true, "1e7290abd6f1d7a1534bfd14eedecf2528830ca027ad9717611e9b9bcd127aa7"), looks := true }, kinds := [], alts := [], laidByText := true, laidKinds := [.sentinel, .sentinel], laidTests := true, laidLooks := .later }
def FnExactDiskOKCardSaid : Prop := Claim7.holds Tryd.pinned (.plain (OpenSpec.ofChange fnExactDiskOKSpec)) fnExactDiskOKCard

/-- THE TIED CARD OF 'laws.FnExactDiskRead'. -/
def fnExactDiskReadCard : Claim7 := { stood := { row := fnExactDiskReadRow, standIns := [], harness := (true, "1e7290abd6f1d7a1534bfd14eedecf2528830ca027ad9717611e9b9bcd127aa7"), looks := true }, kinds := [], alts := [], laidByText := true, laidKinds := [.sentinel, .sentinel, .sentinel, .sentinel, .sentinel], laidTests := true, laidLooks := .later }
def FnExactDiskReadCardSaid : Prop := Claim7.holds Tryd.pinned (.plain (OpenSpec.ofChange fnExactDiskReadSpec)) fnExactDiskReadCard

/-- THE SECOND FORM's CARD OF 'laws.FnSeal'. -/
def fnSealUptoCard : Claim7 := { stood := { row := fnSealUptoRow, standIns := [], harness := (true, "1e7290abd6f1d7a1534bfd14eedecf2528830ca027ad9717611e9b9bcd127aa7"), looks := true }, kinds := [], alts := [], laidByText := true, laidKinds := [.data, .data], laidTests := true, laidLooks := .later }
def FnSealUptoCardSaid : Prop := Claim7.holds Tryd.pinned (.plain (OpenSpec.upto fnSealSpec)) fnSealUptoCard

/-- THE SECOND FORM's CARD OF 'laws.FnDisk'. -/
def fnDiskUptoCard : Claim7 := { stood := { row := fnDiskUptoRow, standIns := [], harness := (true, "1e7290abd6f1d7a1534bfd14eedecf2528830ca027ad9717611e9b9bcd127aa7"), looks := true }, kinds := [], alts := [], laidByText := true, laidKinds := [.sentinel, .sentinel, .sentinel, .sentinel, .sentinel], laidTests := true, laidLooks := .later }
def FnDiskUptoCardSaid : Prop := Claim7.holds Tryd.pinned (.plain (OpenSpec.upto fnDiskSpec)) fnDiskUptoCard

/-- THE SECOND FORM's CARD OF 'laws.FnTears'. -/
def fnTearsUptoCard : Claim7 := { stood := { row := fnTearsUptoRow, standIns := [], harness := (true, "1e7290abd6f1d7a1534bfd14eedecf2528830ca027ad9717611e9b9bcd127aa7"), looks := true }, kinds := [], alts := [], laidByText := true, laidKinds := [.sentinel, .sentinel, .sentinel, .sentinel, .sentinel], laidTests := true, laidLooks := .later }
def FnTearsUptoCardSaid : Prop := Claim7.holds Tryd.pinned (.plain (OpenSpec.upto fnTearsSpec)) fnTearsUptoCard

/-- THE SECOND FORM's CARD OF 'laws.FnExactDiskOK'. -/
def fnExactDiskOKUptoCard : Claim7 := { stood := { row := fnExactDiskOKUptoRow, standIns := [], harness := (true, "1e7290abd6f1d7a1534bfd14eedecf2528830ca027ad9717611e9b9bcd127aa7"), looks := true }, kinds := [], alts := [], laidByText := true, laidKinds := [.sentinel, .sentinel], laidTests := true, laidLooks := .later }
def FnExactDiskOKUptoCardSaid : Prop := Claim7.holds Tryd.pinned (.plain (OpenSpec.upto fnExactDiskOKSpec)) fnExactDiskOKUptoCard

/-- THE SECOND FORM's CARD OF 'laws.FnExactDiskRead'. -/
def fnExactDiskReadUptoCard : Claim7 := { stood := { row := fnExactDiskReadUptoRow, standIns := [], harness := (true, "1e7290abd6f1d7a1534bfd14eedecf2528830ca027ad9717611e9b9bcd127aa7"), looks := true }, kinds := [], alts := [], laidByText := true, laidKinds := [.sentinel, .sentinel, .sentinel, .sentinel, .sentinel], laidTests := true, laidLooks := .later }
def FnExactDiskReadUptoCardSaid : Prop := Claim7.holds Tryd.pinned (.plain (OpenSpec.upto fnExactDiskReadSpec)) fnExactDiskReadUptoCard
end Rows
end Go.Proofs.YthfnbbjjiipcpaaDoor
