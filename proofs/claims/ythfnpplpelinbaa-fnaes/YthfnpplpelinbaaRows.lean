/-
  No cell of these rows narrows 'for every input' (looked for: loops, veiled, ifaces, maps, wideKeys, modest, calm, conditions, laid).
  DERIVED. THE GIVEN ROWS OF THIS SEAT. 5 by the template 'for every input the law returns true; each argument reads behind the call as it read before'; 0 by the template 'total and deterministic' (their statements: YthfnpplpelinbaaTotals.lean).
  GIVEN WITH THE SEED: the statements are not yours to turn. If you find one false, say at which input.
  Laid BY PROGRAM, IN A SANDBOX (cutbox-rows.mjs): the forced cells as the released guide's own fill.sh prints them over the translation 1ebd4d04b5f1185f… (all of the seat's roots in one cut). By AI agents, Wed Nov 11 2026. No macro, syntax, notation, axiom, sorry.
-/
import Derived.Test.YthfnpplpelinbaaChecked
import GoSem.Claim
import GoSem.ClaimJoined
import GoSem.ClaimMapViews
import Derived.JoinedTies
import Derived.KernelRfl
namespace Go.Proofs.Ythfnpplpelinbaa
/- THE CELL 'sum', in the pinned program and in every row, IS THE sha256 OF THE DUMP (.gsa) THAT YthfnpplpelinbaaProg.lean LOADS. Nothing in Lean hashes anything: it is a label: what it is worth is what the hold of that sum in a sandbox is worth. -/
noncomputable def Try.pinned : Pinned := { name := "ythfnpplpelinbaa", sum := "1ebd4d04b5f1185f6365317df2ecc3dc7f25cfc67855012a057c6bb25cff83ee", checked := Try.checked }
namespace Rows
def none {H : Type} : Left H := { results := [], args := [] }

/-- 'laws.FnAes': WHATEVER THE INPUT: true; the input reads as it did. -/
def fnAesSpec : ChangeSpec := { name := "fnAes", fn := fun _ => fun
  | [d1, d2] => { results := [.lit (.bool true)], args := [d1, d2] }
  | _ => none }
def fnAesRow : OpenClaim := { program := "ythfnpplpelinbaa", sum := "1ebd4d04b5f1185f6365317df2ecc3dc7f25cfc67855012a057c6bb25cff83ee", func := "loop.example/g00257/laws.FnAes", spec := "fnAes", apart := false }
def FnAesSaid : Prop := fnAesRow.holds Try.pinned (OpenSpec.ofChange fnAesSpec)

/-- ITS FALSE NEIGHBOUR: 'it returns false'. Refute it at one input. -/
def fnAesWrong : ChangeSpec := { name := "fnAes", fn := fun _ => fun
  | [d1, d2] => { results := [.lit (.bool false)], args := [d1, d2] }
  | _ => none }
def FnAesWrongFalsely : Prop := fnAesRow.holds Try.pinned (OpenSpec.ofChange fnAesWrong)

/-- 'laws.FnKeys': WHATEVER THE INPUT: true; the input reads as it did. -/
def fnKeysSpec : ChangeSpec := { name := "fnKeys", fn := fun _ => fun
  | [d1, d2] => { results := [.lit (.bool true)], args := [d1, d2] }
  | _ => none }
def fnKeysRow : OpenClaim := { program := "ythfnpplpelinbaa", sum := "1ebd4d04b5f1185f6365317df2ecc3dc7f25cfc67855012a057c6bb25cff83ee", func := "loop.example/g00257/laws.FnKeys", spec := "fnKeys", apart := false }
def FnKeysSaid : Prop := fnKeysRow.holds Try.pinned (OpenSpec.ofChange fnKeysSpec)

/-- ITS FALSE NEIGHBOUR: 'it returns false'. Refute it at one input. -/
def fnKeysWrong : ChangeSpec := { name := "fnKeys", fn := fun _ => fun
  | [d1, d2] => { results := [.lit (.bool false)], args := [d1, d2] }
  | _ => none }
def FnKeysWrongFalsely : Prop := fnKeysRow.holds Try.pinned (OpenSpec.ofChange fnKeysWrong)

/-- 'laws.FnExactKeySchedule': WHATEVER THE INPUT: true; the input reads as it did. -/
def fnExactKeyScheduleSpec : ChangeSpec := { name := "fnExactKeySchedule", fn := fun _ => fun
  | [d] => { results := [.lit (.bool true)], args := [d] }
  | _ => none }
def fnExactKeyScheduleRow : OpenClaim := { program := "ythfnpplpelinbaa", sum := "1ebd4d04b5f1185f6365317df2ecc3dc7f25cfc67855012a057c6bb25cff83ee", func := "loop.example/g00257/laws.FnExactKeySchedule", spec := "fnExactKeySchedule", apart := false }
def FnExactKeyScheduleSaid : Prop := fnExactKeyScheduleRow.holds Try.pinned (OpenSpec.ofChange fnExactKeyScheduleSpec)

/-- ITS FALSE NEIGHBOUR: 'it returns false'. Refute it at one input. -/
def fnExactKeyScheduleWrong : ChangeSpec := { name := "fnExactKeySchedule", fn := fun _ => fun
  | [d] => { results := [.lit (.bool false)], args := [d] }
  | _ => none }
def FnExactKeyScheduleWrongFalsely : Prop := fnExactKeyScheduleRow.holds Try.pinned (OpenSpec.ofChange fnExactKeyScheduleWrong)

/-- 'laws.FnExactEncryptBlock': WHATEVER THE INPUT: true; the input reads as it did. -/
def fnExactEncryptBlockSpec : ChangeSpec := { name := "fnExactEncryptBlock", fn := fun _ => fun
  | [d1, d2] => { results := [.lit (.bool true)], args := [d1, d2] }
  | _ => none }
def fnExactEncryptBlockRow : OpenClaim := { program := "ythfnpplpelinbaa", sum := "1ebd4d04b5f1185f6365317df2ecc3dc7f25cfc67855012a057c6bb25cff83ee", func := "loop.example/g00257/laws.FnExactEncryptBlock", spec := "fnExactEncryptBlock", apart := false }
def FnExactEncryptBlockSaid : Prop := fnExactEncryptBlockRow.holds Try.pinned (OpenSpec.ofChange fnExactEncryptBlockSpec)

/-- ITS FALSE NEIGHBOUR: 'it returns false'. Refute it at one input. -/
def fnExactEncryptBlockWrong : ChangeSpec := { name := "fnExactEncryptBlock", fn := fun _ => fun
  | [d1, d2] => { results := [.lit (.bool false)], args := [d1, d2] }
  | _ => none }
def FnExactEncryptBlockWrongFalsely : Prop := fnExactEncryptBlockRow.holds Try.pinned (OpenSpec.ofChange fnExactEncryptBlockWrong)

/-- 'laws.FnExactDecryptBlock': WHATEVER THE INPUT: true; the input reads as it did. -/
def fnExactDecryptBlockSpec : ChangeSpec := { name := "fnExactDecryptBlock", fn := fun _ => fun
  | [d1, d2] => { results := [.lit (.bool true)], args := [d1, d2] }
  | _ => none }
def fnExactDecryptBlockRow : OpenClaim := { program := "ythfnpplpelinbaa", sum := "1ebd4d04b5f1185f6365317df2ecc3dc7f25cfc67855012a057c6bb25cff83ee", func := "loop.example/g00257/laws.FnExactDecryptBlock", spec := "fnExactDecryptBlock", apart := false }
def FnExactDecryptBlockSaid : Prop := fnExactDecryptBlockRow.holds Try.pinned (OpenSpec.ofChange fnExactDecryptBlockSpec)

/-- ITS FALSE NEIGHBOUR: 'it returns false'. Refute it at one input. -/
def fnExactDecryptBlockWrong : ChangeSpec := { name := "fnExactDecryptBlock", fn := fun _ => fun
  | [d1, d2] => { results := [.lit (.bool false)], args := [d1, d2] }
  | _ => none }
def FnExactDecryptBlockWrongFalsely : Prop := fnExactDecryptBlockRow.holds Try.pinned (OpenSpec.ofChange fnExactDecryptBlockWrong)

/- THE SECOND FORM. 'bulk': how many values and letters a reading holds, each counted each time it is reached (what is shared counts as often as it is met; a slice's spare places count too). A statement '..UptoSaid' is the law's where the arguments, and the package variables that the reading takes, are together of bulk at most 1048576: NARROWER than '..Said'. Prove '..Said' where nothing that the law and all that it calls make is longer than what came in: it says more and counts as full. Else prove '..UptoSaid'. A law counts once. -/
mutual
def uptoBulk {H : Type} : DataW H → Nat
  | .lit (.string bytes) => bytes.length + 1
  | .lit _ => 1
  | .nil => 1
  | .ptr d => uptoBulk d + 1
  | .slice elems spare => uptoBulkAll elems + uptoBulkAll spare + 1
  | .agg parts => uptoBulkAll parts + 1
  | .iface _ d => uptoBulk d + 1
  | .map entries => uptoBulkEntries entries + 1
  | .held _ => 1
def uptoBulkAll {H : Type} : List (DataW H) → Nat
  | [] => 0
  | d :: r => uptoBulk d + uptoBulkAll r
def uptoBulkEntries {H : Type} : List (Lit × DataW H) → Nat
  | [] => 0
  | x :: r => uptoBulkEntry x + uptoBulkEntries r
def uptoBulkEntry {H : Type} : Lit × DataW H → Nat
  | (.string bytes, d) => bytes.length + uptoBulk d + 1
  | (_, d) => uptoBulk d + 1
 end
def uptoSmall : (H : Type) → List (DataW H) → Bool := fun _ ds => decide (uptoBulkAll ds ≤ 1048576)
def OpenSpec.upto (s : _root_.Go.ChangeSpec) : _root_.Go.OpenSpec := { _root_.Go.OpenSpec.ofChange s with cond := some uptoSmall }

/-- 'laws.FnAes', WHERE WHAT IT READS IS OF BULK AT MOST 1048576: true; the input reads as it did. -/
def fnAesUptoRow : OpenClaim := { program := "ythfnpplpelinbaa", sum := "1ebd4d04b5f1185f6365317df2ecc3dc7f25cfc67855012a057c6bb25cff83ee", func := "loop.example/g00257/laws.FnAes", spec := "fnAes", apart := false, narrowed := true }
def FnAesUptoSaid : Prop := fnAesUptoRow.holds Try.pinned (OpenSpec.upto fnAesSpec)

/-- 'laws.FnKeys', WHERE WHAT IT READS IS OF BULK AT MOST 1048576: true; the input reads as it did. -/
def fnKeysUptoRow : OpenClaim := { program := "ythfnpplpelinbaa", sum := "1ebd4d04b5f1185f6365317df2ecc3dc7f25cfc67855012a057c6bb25cff83ee", func := "loop.example/g00257/laws.FnKeys", spec := "fnKeys", apart := false, narrowed := true }
def FnKeysUptoSaid : Prop := fnKeysUptoRow.holds Try.pinned (OpenSpec.upto fnKeysSpec)

/-- 'laws.FnExactKeySchedule', WHERE WHAT IT READS IS OF BULK AT MOST 1048576: true; the input reads as it did. -/
def fnExactKeyScheduleUptoRow : OpenClaim := { program := "ythfnpplpelinbaa", sum := "1ebd4d04b5f1185f6365317df2ecc3dc7f25cfc67855012a057c6bb25cff83ee", func := "loop.example/g00257/laws.FnExactKeySchedule", spec := "fnExactKeySchedule", apart := false, narrowed := true }
def FnExactKeyScheduleUptoSaid : Prop := fnExactKeyScheduleUptoRow.holds Try.pinned (OpenSpec.upto fnExactKeyScheduleSpec)

/-- 'laws.FnExactEncryptBlock', WHERE WHAT IT READS IS OF BULK AT MOST 1048576: true; the input reads as it did. -/
def fnExactEncryptBlockUptoRow : OpenClaim := { program := "ythfnpplpelinbaa", sum := "1ebd4d04b5f1185f6365317df2ecc3dc7f25cfc67855012a057c6bb25cff83ee", func := "loop.example/g00257/laws.FnExactEncryptBlock", spec := "fnExactEncryptBlock", apart := false, narrowed := true }
def FnExactEncryptBlockUptoSaid : Prop := fnExactEncryptBlockUptoRow.holds Try.pinned (OpenSpec.upto fnExactEncryptBlockSpec)

/-- 'laws.FnExactDecryptBlock', WHERE WHAT IT READS IS OF BULK AT MOST 1048576: true; the input reads as it did. -/
def fnExactDecryptBlockUptoRow : OpenClaim := { program := "ythfnpplpelinbaa", sum := "1ebd4d04b5f1185f6365317df2ecc3dc7f25cfc67855012a057c6bb25cff83ee", func := "loop.example/g00257/laws.FnExactDecryptBlock", spec := "fnExactDecryptBlock", apart := false, narrowed := true }
def FnExactDecryptBlockUptoSaid : Prop := fnExactDecryptBlockUptoRow.holds Try.pinned (OpenSpec.upto fnExactDecryptBlockSpec)

end Rows
end Go.Proofs.Ythfnpplpelinbaa
