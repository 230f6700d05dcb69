/-
  No cell of these rows narrows 'for every input' (looked for: loops, veiled, ifaces, maps, wideKeys, modest, calm, conditions, laid).
  DERIVED. THE GIVEN ROWS OF THIS SEAT. 4 by the template 'for every input the law returns true; each argument reads behind the call as it read before'; 0 by the template 'total and deterministic' (their statements: YtbhlgcenfanicaaTotals.lean).
  GIVEN WITH THE SEED: the statements are not yours to turn. If you find one false, say at which input.
  Laid BY PROGRAM, IN A SANDBOX (cutbox-rows.mjs): the forced cells as the released guide's own fill.sh prints them over the translation 4a519abc2989e4a4… (all of the seat's roots in one cut). By AI agents, Wed Nov 11 2026. No macro, syntax, notation, axiom, sorry.
-/
import Derived.Test.YtbhlgcenfanicaaChecked
import GoSem.Claim
import GoSem.ClaimJoined
import GoSem.ClaimMapViews
import Derived.JoinedTies
import Derived.KernelRfl
namespace Go.Proofs.Ytbhlgcenfanicaa
/- THE CELL 'sum', in the pinned program and in every row, IS THE sha256 OF THE DUMP (.gsa) THAT YtbhlgcenfanicaaProg.lean LOADS. Nothing in Lean hashes anything: it is a label: what it is worth is what the hold of that sum in a sandbox is worth. -/
noncomputable def Try.pinned : Pinned := { name := "ytbhlgcenfanicaa", sum := "4a519abc2989e4a4eb6928833a53848dbeea50c3bbca7d6d5a600acdfb9c4e08", checked := Try.checked }
namespace Rows
def none {H : Type} : Left H := { results := [], args := [] }

/-- 'laws.FnModes': WHATEVER THE INPUT: true; the input reads as it did. -/
def fnModesSpec : ChangeSpec := { name := "fnModes", fn := fun _ => fun
  | [d1, d2] => { results := [.lit (.bool true)], args := [d1, d2] }
  | _ => none }
def fnModesRow : OpenClaim := { program := "ytbhlgcenfanicaa", sum := "4a519abc2989e4a4eb6928833a53848dbeea50c3bbca7d6d5a600acdfb9c4e08", func := "loop.example/g00257/laws.FnModes", spec := "fnModes", apart := false }
def FnModesSaid : Prop := fnModesRow.holds Try.pinned (OpenSpec.ofChange fnModesSpec)

/-- ITS FALSE NEIGHBOUR: 'it returns false'. Refute it at one input. -/
def fnModesWrong : ChangeSpec := { name := "fnModes", fn := fun _ => fun
  | [d1, d2] => { results := [.lit (.bool false)], args := [d1, d2] }
  | _ => none }
def FnModesWrongFalsely : Prop := fnModesRow.holds Try.pinned (OpenSpec.ofChange fnModesWrong)

/-- 'laws.FnCmac': WHATEVER THE INPUT: true; the input reads as it did. -/
def fnCmacSpec : ChangeSpec := { name := "fnCmac", fn := fun _ => fun
  | [d1, d2] => { results := [.lit (.bool true)], args := [d1, d2] }
  | _ => none }
def fnCmacRow : OpenClaim := { program := "ytbhlgcenfanicaa", sum := "4a519abc2989e4a4eb6928833a53848dbeea50c3bbca7d6d5a600acdfb9c4e08", func := "loop.example/g00257/laws.FnCmac", spec := "fnCmac", apart := false }
def FnCmacSaid : Prop := fnCmacRow.holds Try.pinned (OpenSpec.ofChange fnCmacSpec)

/-- ITS FALSE NEIGHBOUR: 'it returns false'. Refute it at one input. -/
def fnCmacWrong : ChangeSpec := { name := "fnCmac", fn := fun _ => fun
  | [d1, d2] => { results := [.lit (.bool false)], args := [d1, d2] }
  | _ => none }
def FnCmacWrongFalsely : Prop := fnCmacRow.holds Try.pinned (OpenSpec.ofChange fnCmacWrong)

/-- 'laws.FnExactCbcDecrypt': WHATEVER THE INPUT: true; the input reads as it did. -/
def fnExactCbcDecryptSpec : ChangeSpec := { name := "fnExactCbcDecrypt", fn := fun _ => fun
  | [d1, d2, d3] => { results := [.lit (.bool true)], args := [d1, d2, d3] }
  | _ => none }
def fnExactCbcDecryptRow : OpenClaim := { program := "ytbhlgcenfanicaa", sum := "4a519abc2989e4a4eb6928833a53848dbeea50c3bbca7d6d5a600acdfb9c4e08", func := "loop.example/g00257/laws.FnExactCbcDecrypt", spec := "fnExactCbcDecrypt", apart := false }
def FnExactCbcDecryptSaid : Prop := fnExactCbcDecryptRow.holds Try.pinned (OpenSpec.ofChange fnExactCbcDecryptSpec)

/-- ITS FALSE NEIGHBOUR: 'it returns false'. Refute it at one input. -/
def fnExactCbcDecryptWrong : ChangeSpec := { name := "fnExactCbcDecrypt", fn := fun _ => fun
  | [d1, d2, d3] => { results := [.lit (.bool false)], args := [d1, d2, d3] }
  | _ => none }
def FnExactCbcDecryptWrongFalsely : Prop := fnExactCbcDecryptRow.holds Try.pinned (OpenSpec.ofChange fnExactCbcDecryptWrong)

/-- 'laws.FnExactCmac': WHATEVER THE INPUT: true; the input reads as it did. -/
def fnExactCmacSpec : ChangeSpec := { name := "fnExactCmac", fn := fun _ => fun
  | [d1, d2] => { results := [.lit (.bool true)], args := [d1, d2] }
  | _ => none }
def fnExactCmacRow : OpenClaim := { program := "ytbhlgcenfanicaa", sum := "4a519abc2989e4a4eb6928833a53848dbeea50c3bbca7d6d5a600acdfb9c4e08", func := "loop.example/g00257/laws.FnExactCmac", spec := "fnExactCmac", apart := false }
def FnExactCmacSaid : Prop := fnExactCmacRow.holds Try.pinned (OpenSpec.ofChange fnExactCmacSpec)

/-- ITS FALSE NEIGHBOUR: 'it returns false'. Refute it at one input. -/
def fnExactCmacWrong : ChangeSpec := { name := "fnExactCmac", fn := fun _ => fun
  | [d1, d2] => { results := [.lit (.bool false)], args := [d1, d2] }
  | _ => none }
def FnExactCmacWrongFalsely : Prop := fnExactCmacRow.holds Try.pinned (OpenSpec.ofChange fnExactCmacWrong)

/- THE SECOND FORM. 'bulk': how many values and letters a reading holds, each counted each time it is reached (what is shared counts as often as it is met; a slice's spare places count too). A statement '..UptoSaid' is the law's where the arguments, and the package variables that the reading takes, are together of bulk at most 1048576: NARROWER than '..Said'. Prove '..Said' where nothing that the law and all that it calls make is longer than what came in: it says more and counts as full. Else prove '..UptoSaid'. A law counts once. -/
mutual
def uptoBulk {H : Type} : DataW H → Nat
  | .lit (.string bytes) => bytes.length + 1
  | .lit _ => 1
  | .nil => 1
  | .ptr d => uptoBulk d + 1
  | .slice elems spare => uptoBulkAll elems + uptoBulkAll spare + 1
  | .agg parts => uptoBulkAll parts + 1
  | .iface _ d => uptoBulk d + 1
  | .map entries => uptoBulkEntries entries + 1
  | .held _ => 1
def uptoBulkAll {H : Type} : List (DataW H) → Nat
  | [] => 0
  | d :: r => uptoBulk d + uptoBulkAll r
def uptoBulkEntries {H : Type} : List (Lit × DataW H) → Nat
  | [] => 0
  | x :: r => uptoBulkEntry x + uptoBulkEntries r
def uptoBulkEntry {H : Type} : Lit × DataW H → Nat
  | (.string bytes, d) => bytes.length + uptoBulk d + 1
  | (_, d) => uptoBulk d + 1
 end
def uptoSmall : (H : Type) → List (DataW H) → Bool := fun _ ds => decide (uptoBulkAll ds ≤ 1048576)
def OpenSpec.upto (s : _root_.Go.ChangeSpec) : _root_.Go.OpenSpec := { _root_.Go.OpenSpec.ofChange s with cond := some uptoSmall }

/-- 'laws.FnModes', WHERE WHAT IT READS IS OF BULK AT MOST 1048576: true; the input reads as it did. -/
def fnModesUptoRow : OpenClaim := { program := "ytbhlgcenfanicaa", sum := "4a519abc2989e4a4eb6928833a53848dbeea50c3bbca7d6d5a600acdfb9c4e08", func := "loop.example/g00257/laws.FnModes", spec := "fnModes", apart := false, narrowed := true }
def FnModesUptoSaid : Prop := fnModesUptoRow.holds Try.pinned (OpenSpec.upto fnModesSpec)

/-- 'laws.FnCmac', WHERE WHAT IT READS IS OF BULK AT MOST 1048576: true; the input reads as it did. -/
def fnCmacUptoRow : OpenClaim := { program := "ytbhlgcenfanicaa", sum := "4a519abc2989e4a4eb6928833a53848dbeea50c3bbca7d6d5a600acdfb9c4e08", func := "loop.example/g00257/laws.FnCmac", spec := "fnCmac", apart := false, narrowed := true }
def FnCmacUptoSaid : Prop := fnCmacUptoRow.holds Try.pinned (OpenSpec.upto fnCmacSpec)

/-- 'laws.FnExactCbcDecrypt', WHERE WHAT IT READS IS OF BULK AT MOST 1048576: true; the input reads as it did. -/
def fnExactCbcDecryptUptoRow : OpenClaim := { program := "ytbhlgcenfanicaa", sum := "4a519abc2989e4a4eb6928833a53848dbeea50c3bbca7d6d5a600acdfb9c4e08", func := "loop.example/g00257/laws.FnExactCbcDecrypt", spec := "fnExactCbcDecrypt", apart := false, narrowed := true }
def FnExactCbcDecryptUptoSaid : Prop := fnExactCbcDecryptUptoRow.holds Try.pinned (OpenSpec.upto fnExactCbcDecryptSpec)

/-- 'laws.FnExactCmac', WHERE WHAT IT READS IS OF BULK AT MOST 1048576: true; the input reads as it did. -/
def fnExactCmacUptoRow : OpenClaim := { program := "ytbhlgcenfanicaa", sum := "4a519abc2989e4a4eb6928833a53848dbeea50c3bbca7d6d5a600acdfb9c4e08", func := "loop.example/g00257/laws.FnExactCmac", spec := "fnExactCmac", apart := false, narrowed := true }
def FnExactCmacUptoSaid : Prop := fnExactCmacUptoRow.holds Try.pinned (OpenSpec.upto fnExactCmacSpec)

end Rows
end Go.Proofs.Ytbhlgcenfanicaa
