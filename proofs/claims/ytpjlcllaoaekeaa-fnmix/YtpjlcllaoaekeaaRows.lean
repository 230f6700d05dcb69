/-
  No cell of these rows narrows 'for every input' (looked for: loops, veiled, ifaces, maps, wideKeys, modest, calm, conditions, laid).
  DERIVED. THE GIVEN ROWS OF THIS SEAT. 4 by the template 'for every input the law returns true; each argument reads behind the call as it read before'; 0 by the template 'total and deterministic' (their statements: YtpjlcllaoaekeaaTotals.lean).
  GIVEN WITH THE SEED: the statements are not yours to turn. If you find one false, say at which input.
  Laid BY PROGRAM, IN A SANDBOX (cutbox-rows.mjs): the forced cells as the released guide's own fill.sh prints them over the translation dbc9a8b99c6bec5d… (all of the seat's roots in one cut). By AI agents, Wed Nov 11 2026. No macro, syntax, notation, axiom, sorry.
-/
import Derived.Test.YtpjlcllaoaekeaaChecked
import GoSem.Claim
import GoSem.ClaimJoined
import GoSem.ClaimMapViews
import Derived.JoinedTies
import Derived.KernelRfl
namespace Go.Proofs.Ytpjlcllaoaekeaa
/- THE CELL 'sum', in the pinned program and in every row, IS THE sha256 OF THE DUMP (.gsa) THAT YtpjlcllaoaekeaaProg.lean LOADS. Nothing in Lean hashes anything: it is a label: what it is worth is what the hold of that sum in a sandbox is worth. -/
noncomputable def Try.pinned : Pinned := { name := "ytpjlcllaoaekeaa", sum := "dbc9a8b99c6bec5de595decf68403402aa1cc91167672f909e74c92c3c80aae3", checked := Try.checked }
namespace Rows
def none {H : Type} : Left H := { results := [], args := [] }

/-- 'laws.FnGf': WHATEVER THE INPUT: true; the input reads as it did. -/
def fnGfSpec : ChangeSpec := { name := "fnGf", fn := fun _ => fun
  | [d1, d2] => { results := [.lit (.bool true)], args := [d1, d2] }
  | _ => none }
def fnGfRow : OpenClaim := { program := "ytpjlcllaoaekeaa", sum := "dbc9a8b99c6bec5de595decf68403402aa1cc91167672f909e74c92c3c80aae3", func := "loop.example/g00257/laws.FnGf", spec := "fnGf", apart := false }
def FnGfSaid : Prop := fnGfRow.holds Try.pinned (OpenSpec.ofChange fnGfSpec)

/-- ITS FALSE NEIGHBOUR: 'it returns false'. Refute it at one input. -/
def fnGfWrong : ChangeSpec := { name := "fnGf", fn := fun _ => fun
  | [d1, d2] => { results := [.lit (.bool false)], args := [d1, d2] }
  | _ => none }
def FnGfWrongFalsely : Prop := fnGfRow.holds Try.pinned (OpenSpec.ofChange fnGfWrong)

/-- 'laws.FnSub': WHATEVER THE INPUT: true; the input reads as it did. -/
def fnSubSpec : ChangeSpec := { name := "fnSub", fn := fun _ => fun
  | [d] => { results := [.lit (.bool true)], args := [d] }
  | _ => none }
def fnSubRow : OpenClaim := { program := "ytpjlcllaoaekeaa", sum := "dbc9a8b99c6bec5de595decf68403402aa1cc91167672f909e74c92c3c80aae3", func := "loop.example/g00257/laws.FnSub", spec := "fnSub", apart := false }
def FnSubSaid : Prop := fnSubRow.holds Try.pinned (OpenSpec.ofChange fnSubSpec)

/-- ITS FALSE NEIGHBOUR: 'it returns false'. Refute it at one input. -/
def fnSubWrong : ChangeSpec := { name := "fnSub", fn := fun _ => fun
  | [d] => { results := [.lit (.bool false)], args := [d] }
  | _ => none }
def FnSubWrongFalsely : Prop := fnSubRow.holds Try.pinned (OpenSpec.ofChange fnSubWrong)

/-- 'laws.FnMix': WHATEVER THE INPUT: true; the input reads as it did. -/
def fnMixSpec : ChangeSpec := { name := "fnMix", fn := fun _ => fun
  | [d1, d2] => { results := [.lit (.bool true)], args := [d1, d2] }
  | _ => none }
def fnMixRow : OpenClaim := { program := "ytpjlcllaoaekeaa", sum := "dbc9a8b99c6bec5de595decf68403402aa1cc91167672f909e74c92c3c80aae3", func := "loop.example/g00257/laws.FnMix", spec := "fnMix", apart := false }
def FnMixSaid : Prop := fnMixRow.holds Try.pinned (OpenSpec.ofChange fnMixSpec)

/-- ITS FALSE NEIGHBOUR: 'it returns false'. Refute it at one input. -/
def fnMixWrong : ChangeSpec := { name := "fnMix", fn := fun _ => fun
  | [d1, d2] => { results := [.lit (.bool false)], args := [d1, d2] }
  | _ => none }
def FnMixWrongFalsely : Prop := fnMixRow.holds Try.pinned (OpenSpec.ofChange fnMixWrong)

/-- 'laws.FnAes': WHATEVER THE INPUT: true; the input reads as it did. -/
def fnAesSpec : ChangeSpec := { name := "fnAes", fn := fun _ => fun
  | [d1, d2] => { results := [.lit (.bool true)], args := [d1, d2] }
  | _ => none }
def fnAesRow : OpenClaim := { program := "ytpjlcllaoaekeaa", sum := "dbc9a8b99c6bec5de595decf68403402aa1cc91167672f909e74c92c3c80aae3", func := "loop.example/g00257/laws.FnAes", spec := "fnAes", apart := false }
def FnAesSaid : Prop := fnAesRow.holds Try.pinned (OpenSpec.ofChange fnAesSpec)

/-- ITS FALSE NEIGHBOUR: 'it returns false'. Refute it at one input. -/
def fnAesWrong : ChangeSpec := { name := "fnAes", fn := fun _ => fun
  | [d1, d2] => { results := [.lit (.bool false)], args := [d1, d2] }
  | _ => none }
def FnAesWrongFalsely : Prop := fnAesRow.holds Try.pinned (OpenSpec.ofChange fnAesWrong)

/- THE SECOND FORM. 'bulk': how many values and letters a reading holds, each counted each time it is reached (what is shared counts as often as it is met; a slice's spare places count too). A statement '..UptoSaid' is the law's where the arguments, and the package variables that the reading takes, are together of bulk at most 1048576: NARROWER than '..Said'. Prove '..Said' where nothing that the law and all that it calls make is longer than what came in: it says more and counts as full. Else prove '..UptoSaid'. A law counts once. -/
mutual
def uptoBulk {H : Type} : DataW H → Nat
  | .lit (.string bytes) => bytes.length + 1
  | .lit _ => 1
  | .nil => 1
  | .ptr d => uptoBulk d + 1
  | .slice elems spare => uptoBulkAll elems + uptoBulkAll spare + 1
  | .agg parts => uptoBulkAll parts + 1
  | .iface _ d => uptoBulk d + 1
  | .map entries => uptoBulkEntries entries + 1
  | .held _ => 1
def uptoBulkAll {H : Type} : List (DataW H) → Nat
  | [] => 0
  | d :: r => uptoBulk d + uptoBulkAll r
def uptoBulkEntries {H : Type} : List (Lit × DataW H) → Nat
  | [] => 0
  | x :: r => uptoBulkEntry x + uptoBulkEntries r
def uptoBulkEntry {H : Type} : Lit × DataW H → Nat
  | (.string bytes, d) => bytes.length + uptoBulk d + 1
  | (_, d) => uptoBulk d + 1
 end
def uptoSmall : (H : Type) → List (DataW H) → Bool := fun _ ds => decide (uptoBulkAll ds ≤ 1048576)
def OpenSpec.upto (s : _root_.Go.ChangeSpec) : _root_.Go.OpenSpec := { _root_.Go.OpenSpec.ofChange s with cond := some uptoSmall }

/-- 'laws.FnGf', WHERE WHAT IT READS IS OF BULK AT MOST 1048576: true; the input reads as it did. -/
def fnGfUptoRow : OpenClaim := { program := "ytpjlcllaoaekeaa", sum := "dbc9a8b99c6bec5de595decf68403402aa1cc91167672f909e74c92c3c80aae3", func := "loop.example/g00257/laws.FnGf", spec := "fnGf", apart := false, narrowed := true }
def FnGfUptoSaid : Prop := fnGfUptoRow.holds Try.pinned (OpenSpec.upto fnGfSpec)

/-- 'laws.FnSub', WHERE WHAT IT READS IS OF BULK AT MOST 1048576: true; the input reads as it did. -/
def fnSubUptoRow : OpenClaim := { program := "ytpjlcllaoaekeaa", sum := "dbc9a8b99c6bec5de595decf68403402aa1cc91167672f909e74c92c3c80aae3", func := "loop.example/g00257/laws.FnSub", spec := "fnSub", apart := false, narrowed := true }
def FnSubUptoSaid : Prop := fnSubUptoRow.holds Try.pinned (OpenSpec.upto fnSubSpec)

/-- 'laws.FnMix', WHERE WHAT IT READS IS OF BULK AT MOST 1048576: true; the input reads as it did. -/
def fnMixUptoRow : OpenClaim := { program := "ytpjlcllaoaekeaa", sum := "dbc9a8b99c6bec5de595decf68403402aa1cc91167672f909e74c92c3c80aae3", func := "loop.example/g00257/laws.FnMix", spec := "fnMix", apart := false, narrowed := true }
def FnMixUptoSaid : Prop := fnMixUptoRow.holds Try.pinned (OpenSpec.upto fnMixSpec)

/-- 'laws.FnAes', WHERE WHAT IT READS IS OF BULK AT MOST 1048576: true; the input reads as it did. -/
def fnAesUptoRow : OpenClaim := { program := "ytpjlcllaoaekeaa", sum := "dbc9a8b99c6bec5de595decf68403402aa1cc91167672f909e74c92c3c80aae3", func := "loop.example/g00257/laws.FnAes", spec := "fnAes", apart := false, narrowed := true }
def FnAesUptoSaid : Prop := fnAesUptoRow.holds Try.pinned (OpenSpec.upto fnAesSpec)

end Rows
end Go.Proofs.Ytpjlcllaoaekeaa
