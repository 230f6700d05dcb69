/-
  NARROWER THAN 'FOR EVERY INPUT', by the rows' own cells (each row's printed sentence says how): FnExactDiskRun: ifaces, laid.
  DERIVED. THE GIVEN ROWS OF THIS SEAT. 1 by the template 'for every input the law returns true; each argument reads behind the call as it read before'; 0 by the template 'total and deterministic' (their statements: YtgdfhgepbamhmaaDoorTotals.lean).
  GIVEN WITH THE SEED: the statements are not yours to turn. If you find one false, say at which input.
  Laid BY PROGRAM, IN A SANDBOX (cutbox-rows.mjs): the forced cells as the released guide's own fill.sh prints them over the translation 1e24237d1af10f2d… (all of the seat's roots in one cut). By AI agents, Wed Nov 11 2026. No macro, syntax, notation, axiom, sorry.
-/
import Derived.Test.YtgdfhgepbamhmaaDoorChecked
import GoSem.Claim
import GoSem.ClaimJoined
import GoSem.ClaimMapViews
import Derived.JoinedTies
import Derived.KernelRfl
namespace Go.Proofs.YtgdfhgepbamhmaaDoor
/- THE CELL 'sum', in the pinned program and in every row, IS THE sha256 OF THE DUMP (.gsa) THAT YtgdfhgepbamhmaaDoorProg.lean LOADS. Nothing in Lean hashes anything: it is a label: what it is worth is what the hold of that sum in a sandbox is worth. -/
noncomputable def Tryd.pinned : Pinned := { name := "ytgdfhgepbamhmaadoor", sum := "1e24237d1af10f2d6b6e75fab89d79e562c22e5d9ec7d7e4c2c9fa04140e9858", checked := Tryd.checked }
namespace Rows
def none {H : Type} : Left H := { results := [], args := [] }

/- WHAT THE LISTED PACKAGE-LEVEL VARIABLES READ AS WHEN THE CALL BEGINS. Each datum BY PROGRAM (the guide's laid-datum.mjs) off the statement by which the dump's own 'gosem.cut.vars' lays the variable. In a bare row this is a premise. The card (YtgdfhgepbamhmaaDoorCards.lean) ties it to the program's text. -/
def laid_loop_example_g00257_impl_errNoBlock {H : Type} : DataW H := .iface "*errors.errorString" (.ptr (.agg [.lit (.string [110, 111, 32, 115, 117, 99, 104, 32, 98, 108, 111, 99, 107])]))
def laid_loop_example_g00257_impl_errLongBlock {H : Type} : DataW H := .iface "*errors.errorString" (.ptr (.agg [.lit (.string [109, 111, 114, 101, 32, 98, 121, 116, 101, 115, 32, 116, 104, 97, 110, 32, 97, 32, 98, 108, 111, 99, 107, 32, 104, 111, 108, 100, 115])]))
def laid_loop_example_g00257_impl_errFullCache {H : Type} : DataW H := .iface "*errors.errorString" (.ptr (.agg [.lit (.string [110, 111, 32, 114, 111, 111, 109, 32, 105, 110, 32, 116, 104, 101, 32, 99, 97, 99, 104, 101])]))
def laid_loop_example_g00257_impl_errNoneSaved {H : Type} : DataW H := .iface "*errors.errorString" (.ptr (.agg [.lit (.string [110, 111, 116, 104, 105, 110, 103, 32, 119, 97, 115, 32, 115, 97, 118, 101, 100])]))
def laid_loop_example_g00257_impl_errNoAct {H : Type} : DataW H := .iface "*errors.errorString" (.ptr (.agg [.lit (.string [110, 111, 32, 115, 117, 99, 104, 32, 97, 99, 116])]))

/-- 'laws.FnExactDiskRun': WHATEVER THE INPUT: true; the input reads as it did. -/
def fnExactDiskRunSpec : ChangeSpec := { name := "fnExactDiskRun", vars := ["loop.example/g00257/impl.errNoAct", "loop.example/g00257/impl.errFullCache", "loop.example/g00257/impl.errNoBlock", "loop.example/g00257/impl.errLongBlock", "loop.example/g00257/impl.errNoneSaved"], fn := fun _ => fun
  | [d1, d2, g1, g2, g3, g4, g5] => { results := [.lit (.bool true)], args := [d1, d2], vars := [g1, g2, g3, g4, g5] }
  | _ => none }
def fnExactDiskRunRow : OpenClaim := { program := "ytgdfhgepbamhmaadoor", sum := "1e24237d1af10f2d6b6e75fab89d79e562c22e5d9ec7d7e4c2c9fa04140e9858", func := "loop.example/g00257/laws.FnExactDiskRun", spec := "fnExactDiskRun", inPlace := ["internal/reflectlite.TypeOf"], unfollowed := true, recurses := true, named := ["loop.example/g00257/impl.errNoAct", "loop.example/g00257/impl.errFullCache", "loop.example/g00257/impl.errNoBlock", "loop.example/g00257/impl.errLongBlock", "loop.example/g00257/impl.errNoneSaved"], ifaces := true, apart := false, laid := [("loop.example/g00257/impl.errNoBlock", laid_loop_example_g00257_impl_errNoBlock), ("loop.example/g00257/impl.errLongBlock", laid_loop_example_g00257_impl_errLongBlock), ("loop.example/g00257/impl.errFullCache", laid_loop_example_g00257_impl_errFullCache), ("loop.example/g00257/impl.errNoneSaved", laid_loop_example_g00257_impl_errNoneSaved), ("loop.example/g00257/impl.errNoAct", laid_loop_example_g00257_impl_errNoAct)] }
def FnExactDiskRunSaid : Prop := fnExactDiskRunRow.holds Tryd.pinned (OpenSpec.ofChange fnExactDiskRunSpec)

/-- ITS FALSE NEIGHBOUR: 'it returns false'. Refute it at one input. -/
def fnExactDiskRunWrong : ChangeSpec := { name := "fnExactDiskRun", vars := ["loop.example/g00257/impl.errNoAct", "loop.example/g00257/impl.errFullCache", "loop.example/g00257/impl.errNoBlock", "loop.example/g00257/impl.errLongBlock", "loop.example/g00257/impl.errNoneSaved"], fn := fun _ => fun
  | [d1, d2, g1, g2, g3, g4, g5] => { results := [.lit (.bool false)], args := [d1, d2], vars := [g1, g2, g3, g4, g5] }
  | _ => none }
def FnExactDiskRunWrongFalsely : Prop := fnExactDiskRunRow.holds Tryd.pinned (OpenSpec.ofChange fnExactDiskRunWrong)

/- THE SECOND FORM. 'bulk': how many values and letters a reading holds, each counted each time it is reached (what is shared counts as often as it is met; a slice's spare places count too). A statement '..UptoSaid' is the law's where the arguments, and the package variables that the reading takes, are together of bulk at most 1048576: NARROWER than '..Said'. Prove '..Said' where nothing that the law and all that it calls make is longer than what came in: it says more and counts as full. Else prove '..UptoSaid'. A law counts once. -/
mutual
def uptoBulk {H : Type} : DataW H → Nat
  | .lit (.string bytes) => bytes.length + 1
  | .lit _ => 1
  | .nil => 1
  | .ptr d => uptoBulk d + 1
  | .slice elems spare => uptoBulkAll elems + uptoBulkAll spare + 1
  | .agg parts => uptoBulkAll parts + 1
  | .iface _ d => uptoBulk d + 1
  | .map entries => uptoBulkEntries entries + 1
  | .held _ => 1
def uptoBulkAll {H : Type} : List (DataW H) → Nat
  | [] => 0
  | d :: r => uptoBulk d + uptoBulkAll r
def uptoBulkEntries {H : Type} : List (Lit × DataW H) → Nat
  | [] => 0
  | x :: r => uptoBulkEntry x + uptoBulkEntries r
def uptoBulkEntry {H : Type} : Lit × DataW H → Nat
  | (.string bytes, d) => bytes.length + uptoBulk d + 1
  | (_, d) => uptoBulk d + 1
 end
def uptoSmall : (H : Type) → List (DataW H) → Bool := fun _ ds => decide (uptoBulkAll ds ≤ 1048576)
def OpenSpec.upto (s : _root_.Go.ChangeSpec) : _root_.Go.OpenSpec := { _root_.Go.OpenSpec.ofChange s with cond := some uptoSmall }

/-- 'laws.FnExactDiskRun', WHERE WHAT IT READS IS OF BULK AT MOST 1048576: true; the input reads as it did. -/
def fnExactDiskRunUptoRow : OpenClaim := { program := "ytgdfhgepbamhmaadoor", sum := "1e24237d1af10f2d6b6e75fab89d79e562c22e5d9ec7d7e4c2c9fa04140e9858", func := "loop.example/g00257/laws.FnExactDiskRun", spec := "fnExactDiskRun", inPlace := ["internal/reflectlite.TypeOf"], unfollowed := true, recurses := true, named := ["loop.example/g00257/impl.errNoAct", "loop.example/g00257/impl.errFullCache", "loop.example/g00257/impl.errNoBlock", "loop.example/g00257/impl.errLongBlock", "loop.example/g00257/impl.errNoneSaved"], ifaces := true, apart := false, laid := [("loop.example/g00257/impl.errNoBlock", laid_loop_example_g00257_impl_errNoBlock), ("loop.example/g00257/impl.errLongBlock", laid_loop_example_g00257_impl_errLongBlock), ("loop.example/g00257/impl.errFullCache", laid_loop_example_g00257_impl_errFullCache), ("loop.example/g00257/impl.errNoneSaved", laid_loop_example_g00257_impl_errNoneSaved), ("loop.example/g00257/impl.errNoAct", laid_loop_example_g00257_impl_errNoAct)], narrowed := true }
def FnExactDiskRunUptoSaid : Prop := fnExactDiskRunUptoRow.holds Tryd.pinned (OpenSpec.upto fnExactDiskRunSpec)

end Rows
end Go.Proofs.YtgdfhgepbamhmaaDoor
