/-
  NARROWER THAN 'FOR EVERY INPUT', by the rows' own cells (each row's printed sentence says how): FnExactDiskRun: ifaces, laid · FnBank: laid · FnBankBytes: laid.
  DERIVED. THE GIVEN ROWS OF THIS SEAT. 3 by the template 'for every input the law returns true; each argument reads behind the call as it read before'; 0 by the template 'total and deterministic' (their statements: YtpngjkhncfbnpaaDoorTotals.lean).
  GIVEN WITH THE SEED: the statements are not yours to turn. If you find one false, say at which input.
  Laid BY PROGRAM, IN A SANDBOX (cutbox-rows.mjs): the forced cells as the released guide's own fill.sh prints them over the translation 92c376095dd57c99… (all of the seat's roots in one cut). By AI agents, Wed Nov 11 2026. No macro, syntax, notation, axiom, sorry.
-/
import Derived.Test.YtpngjkhncfbnpaaDoorChecked
import GoSem.Claim
import GoSem.ClaimJoined
import GoSem.ClaimMapViews
import Derived.JoinedTies
import Derived.KernelRfl
namespace Go.Proofs.YtpngjkhncfbnpaaDoor
/- THE CELL 'sum', in the pinned program and in every row, IS THE sha256 OF THE DUMP (.gsa) THAT YtpngjkhncfbnpaaDoorProg.lean LOADS. Nothing in Lean hashes anything: it is a label: what it is worth is what the hold of that sum in a sandbox is worth. -/
noncomputable def Tryd.pinned : Pinned := { name := "ytpngjkhncfbnpaadoor", sum := "92c376095dd57c9930062370a9a1e8ba9920f6a4f2e5c6a174088d3041762bb5", checked := Tryd.checked }
namespace Rows
def none {H : Type} : Left H := { results := [], args := [] }

/- WHAT THE LISTED PACKAGE-LEVEL VARIABLES READ AS WHEN THE CALL BEGINS. Each datum BY PROGRAM (the guide's laid-datum.mjs) off the statement by which the dump's own 'gosem.cut.vars' lays the variable. In a bare row this is a premise. The card (YtpngjkhncfbnpaaDoorCards.lean) ties it to the program's text. -/
def laid_loop_example_g00257_impl_errNoBlock {H : Type} : DataW H := .iface "*errors.errorString" (.ptr (.agg [.lit (.string [110, 111, 32, 115, 117, 99, 104, 32, 98, 108, 111, 99, 107])]))
def laid_loop_example_g00257_impl_errLongBlock {H : Type} : DataW H := .iface "*errors.errorString" (.ptr (.agg [.lit (.string [109, 111, 114, 101, 32, 98, 121, 116, 101, 115, 32, 116, 104, 97, 110, 32, 97, 32, 98, 108, 111, 99, 107, 32, 104, 111, 108, 100, 115])]))
def laid_loop_example_g00257_impl_errFullCache {H : Type} : DataW H := .iface "*errors.errorString" (.ptr (.agg [.lit (.string [110, 111, 32, 114, 111, 111, 109, 32, 105, 110, 32, 116, 104, 101, 32, 99, 97, 99, 104, 101])]))
def laid_loop_example_g00257_impl_errNoneSaved {H : Type} : DataW H := .iface "*errors.errorString" (.ptr (.agg [.lit (.string [110, 111, 116, 104, 105, 110, 103, 32, 119, 97, 115, 32, 115, 97, 118, 101, 100])]))
def laid_loop_example_g00257_impl_errNoAct {H : Type} : DataW H := .iface "*errors.errorString" (.ptr (.agg [.lit (.string [110, 111, 32, 115, 117, 99, 104, 32, 97, 99, 116])]))
def laid_loop_example_g00257_impl_codeWords {H : Type} : DataW H := .agg [.lit (.string [111, 107]), .lit (.string [98, 97, 100]), .lit (.string [108, 111, 110, 103]), .lit (.string [102, 111, 114, 109]), .lit (.string [114, 97, 110, 103, 101]), .lit (.string [110, 111, 110, 101]), .lit (.string [109, 97, 110, 121]), .lit (.string [102, 117, 108, 108]), .lit (.string [115, 117, 109]), .lit (.string [116, 119, 105, 99, 101]), .lit (.string [115, 101, 97, 108, 101, 100]), .lit (.string [115, 116, 97, 108, 101]), .lit (.string [99, 111, 114, 114, 117, 112, 116]), .lit (.string [97, 119, 97, 121]), .lit (.string [114, 101, 112, 108, 97, 121]), .lit (.string [111, 114, 100, 101, 114]), .lit (.string [112, 97, 116, 104]), .lit (.string [107, 105, 110, 100]), .lit (.string [113, 117, 111, 114, 117, 109]), .lit (.string [115, 112, 101, 110, 116])]

/-- 'laws.FnExactDiskRun': WHATEVER THE INPUT: true; the input reads as it did. -/
def fnExactDiskRunSpec : ChangeSpec := { name := "fnExactDiskRun", vars := ["loop.example/g00257/impl.errNoAct", "loop.example/g00257/impl.errFullCache", "loop.example/g00257/impl.errNoBlock", "loop.example/g00257/impl.errLongBlock", "loop.example/g00257/impl.errNoneSaved"], fn := fun _ => fun
  | [d1, d2, g1, g2, g3, g4, g5] => { results := [.lit (.bool true)], args := [d1, d2], vars := [g1, g2, g3, g4, g5] }
  | _ => none }
def fnExactDiskRunRow : OpenClaim := { program := "ytpngjkhncfbnpaadoor", sum := "92c376095dd57c9930062370a9a1e8ba9920f6a4f2e5c6a174088d3041762bb5", func := "loop.example/g00257/laws.FnExactDiskRun", spec := "fnExactDiskRun", inPlace := ["internal/reflectlite.TypeOf"], unfollowed := true, recurses := true, named := ["loop.example/g00257/impl.errNoAct", "loop.example/g00257/impl.errFullCache", "loop.example/g00257/impl.errNoBlock", "loop.example/g00257/impl.errLongBlock", "loop.example/g00257/impl.errNoneSaved"], ifaces := true, apart := false, laid := [("loop.example/g00257/impl.errNoBlock", laid_loop_example_g00257_impl_errNoBlock), ("loop.example/g00257/impl.errLongBlock", laid_loop_example_g00257_impl_errLongBlock), ("loop.example/g00257/impl.errFullCache", laid_loop_example_g00257_impl_errFullCache), ("loop.example/g00257/impl.errNoneSaved", laid_loop_example_g00257_impl_errNoneSaved), ("loop.example/g00257/impl.errNoAct", laid_loop_example_g00257_impl_errNoAct)] }
def FnExactDiskRunSaid : Prop := fnExactDiskRunRow.holds Tryd.pinned (OpenSpec.ofChange fnExactDiskRunSpec)

/-- ITS FALSE NEIGHBOUR: 'it returns false'. Refute it at one input. -/
def fnExactDiskRunWrong : ChangeSpec := { name := "fnExactDiskRun", vars := ["loop.example/g00257/impl.errNoAct", "loop.example/g00257/impl.errFullCache", "loop.example/g00257/impl.errNoBlock", "loop.example/g00257/impl.errLongBlock", "loop.example/g00257/impl.errNoneSaved"], fn := fun _ => fun
  | [d1, d2, g1, g2, g3, g4, g5] => { results := [.lit (.bool false)], args := [d1, d2], vars := [g1, g2, g3, g4, g5] }
  | _ => none }
def FnExactDiskRunWrongFalsely : Prop := fnExactDiskRunRow.holds Tryd.pinned (OpenSpec.ofChange fnExactDiskRunWrong)

/-- 'laws.FnBank': WHATEVER THE INPUT: true; the input reads as it did. -/
def fnBankSpec : ChangeSpec := { name := "fnBank", vars := ["loop.example/g00257/impl.codeWords"], fn := fun _ => fun
  | [d, g1] => { results := [.lit (.bool true)], args := [d], vars := [g1] }
  | _ => none }
def fnBankRow : OpenClaim := { program := "ytpngjkhncfbnpaadoor", sum := "92c376095dd57c9930062370a9a1e8ba9920f6a4f2e5c6a174088d3041762bb5", func := "loop.example/g00257/laws.FnBank", spec := "fnBank", inPlace := ["slices.overlaps[loop.example/g00257/impl.Register]", "slices.overlaps[loop.example/g00257/impl.Session]"], unfollowed := true, recurses := true, named := ["loop.example/g00257/impl.codeWords"], apart := false, laid := [("loop.example/g00257/impl.codeWords", laid_loop_example_g00257_impl_codeWords)] }
def FnBankSaid : Prop := fnBankRow.holds Tryd.pinned (OpenSpec.ofChange fnBankSpec)

/-- ITS FALSE NEIGHBOUR: 'it returns false'. Refute it at one input. -/
def fnBankWrong : ChangeSpec := { name := "fnBank", vars := ["loop.example/g00257/impl.codeWords"], fn := fun _ => fun
  | [d, g1] => { results := [.lit (.bool false)], args := [d], vars := [g1] }
  | _ => none }
def FnBankWrongFalsely : Prop := fnBankRow.holds Tryd.pinned (OpenSpec.ofChange fnBankWrong)

/-- 'laws.FnBankBytes': WHATEVER THE INPUT: true; the input reads as it did. -/
def fnBankBytesSpec : ChangeSpec := { name := "fnBankBytes", vars := ["loop.example/g00257/impl.codeWords"], fn := fun _ => fun
  | [d, g1] => { results := [.lit (.bool true)], args := [d], vars := [g1] }
  | _ => none }
def fnBankBytesRow : OpenClaim := { program := "ytpngjkhncfbnpaadoor", sum := "92c376095dd57c9930062370a9a1e8ba9920f6a4f2e5c6a174088d3041762bb5", func := "loop.example/g00257/laws.FnBankBytes", spec := "fnBankBytes", named := ["loop.example/g00257/impl.codeWords"], apart := false, laid := [("loop.example/g00257/impl.codeWords", laid_loop_example_g00257_impl_codeWords)] }
def FnBankBytesSaid : Prop := fnBankBytesRow.holds Tryd.pinned (OpenSpec.ofChange fnBankBytesSpec)

/-- ITS FALSE NEIGHBOUR: 'it returns false'. Refute it at one input. -/
def fnBankBytesWrong : ChangeSpec := { name := "fnBankBytes", vars := ["loop.example/g00257/impl.codeWords"], fn := fun _ => fun
  | [d, g1] => { results := [.lit (.bool false)], args := [d], vars := [g1] }
  | _ => none }
def FnBankBytesWrongFalsely : Prop := fnBankBytesRow.holds Tryd.pinned (OpenSpec.ofChange fnBankBytesWrong)

/- THE SECOND FORM. 'bulk': how many values and letters a reading holds, each counted each time it is reached (what is shared counts as often as it is met; a slice's spare places count too). A statement '..UptoSaid' is the law's where the arguments, and the package variables that the reading takes, are together of bulk at most 1048576: NARROWER than '..Said'. Prove '..Said' where nothing that the law and all that it calls make is longer than what came in: it says more and counts as full. Else prove '..UptoSaid'. A law counts once. -/
mutual
def uptoBulk {H : Type} : DataW H → Nat
  | .lit (.string bytes) => bytes.length + 1
  | .lit _ => 1
  | .nil => 1
  | .ptr d => uptoBulk d + 1
  | .slice elems spare => uptoBulkAll elems + uptoBulkAll spare + 1
  | .agg parts => uptoBulkAll parts + 1
  | .iface _ d => uptoBulk d + 1
  | .map entries => uptoBulkEntries entries + 1
  | .held _ => 1
def uptoBulkAll {H : Type} : List (DataW H) → Nat
  | [] => 0
  | d :: r => uptoBulk d + uptoBulkAll r
def uptoBulkEntries {H : Type} : List (Lit × DataW H) → Nat
  | [] => 0
  | x :: r => uptoBulkEntry x + uptoBulkEntries r
def uptoBulkEntry {H : Type} : Lit × DataW H → Nat
  | (.string bytes, d) => bytes.length + uptoBulk d + 1
  | (_, d) => uptoBulk d + 1
 end
def uptoSmall : (H : Type) → List (DataW H) → Bool := fun _ ds => decide (uptoBulkAll ds ≤ 1048576)
def OpenSpec.upto (s : _root_.Go.ChangeSpec) : _root_.Go.OpenSpec := { _root_.Go.OpenSpec.ofChange s with cond := some uptoSmall }

/-- 'laws.FnExactDiskRun', WHERE WHAT IT READS IS OF BULK AT MOST 1048576: true; the input reads as it did. -/
def fnExactDiskRunUptoRow : OpenClaim := { program := "ytpngjkhncfbnpaadoor", sum := "92c376095dd57c9930062370a9a1e8ba9920f6a4f2e5c6a174088d3041762bb5", func := "loop.example/g00257/laws.FnExactDiskRun", spec := "fnExactDiskRun", inPlace := ["internal/reflectlite.TypeOf"], unfollowed := true, recurses := true, named := ["loop.example/g00257/impl.errNoAct", "loop.example/g00257/impl.errFullCache", "loop.example/g00257/impl.errNoBlock", "loop.example/g00257/impl.errLongBlock", "loop.example/g00257/impl.errNoneSaved"], ifaces := true, apart := false, laid := [("loop.example/g00257/impl.errNoBlock", laid_loop_example_g00257_impl_errNoBlock), ("loop.example/g00257/impl.errLongBlock", laid_loop_example_g00257_impl_errLongBlock), ("loop.example/g00257/impl.errFullCache", laid_loop_example_g00257_impl_errFullCache), ("loop.example/g00257/impl.errNoneSaved", laid_loop_example_g00257_impl_errNoneSaved), ("loop.example/g00257/impl.errNoAct", laid_loop_example_g00257_impl_errNoAct)], narrowed := true }
def FnExactDiskRunUptoSaid : Prop := fnExactDiskRunUptoRow.holds Tryd.pinned (OpenSpec.upto fnExactDiskRunSpec)

/-- 'laws.FnBank', WHERE WHAT IT READS IS OF BULK AT MOST 1048576: true; the input reads as it did. -/
def fnBankUptoRow : OpenClaim := { program := "ytpngjkhncfbnpaadoor", sum := "92c376095dd57c9930062370a9a1e8ba9920f6a4f2e5c6a174088d3041762bb5", func := "loop.example/g00257/laws.FnBank", spec := "fnBank", inPlace := ["slices.overlaps[loop.example/g00257/impl.Register]", "slices.overlaps[loop.example/g00257/impl.Session]"], unfollowed := true, recurses := true, named := ["loop.example/g00257/impl.codeWords"], apart := false, laid := [("loop.example/g00257/impl.codeWords", laid_loop_example_g00257_impl_codeWords)], narrowed := true }
def FnBankUptoSaid : Prop := fnBankUptoRow.holds Tryd.pinned (OpenSpec.upto fnBankSpec)

/-- 'laws.FnBankBytes', WHERE WHAT IT READS IS OF BULK AT MOST 1048576: true; the input reads as it did. -/
def fnBankBytesUptoRow : OpenClaim := { program := "ytpngjkhncfbnpaadoor", sum := "92c376095dd57c9930062370a9a1e8ba9920f6a4f2e5c6a174088d3041762bb5", func := "loop.example/g00257/laws.FnBankBytes", spec := "fnBankBytes", named := ["loop.example/g00257/impl.codeWords"], apart := false, laid := [("loop.example/g00257/impl.codeWords", laid_loop_example_g00257_impl_codeWords)], narrowed := true }
def FnBankBytesUptoSaid : Prop := fnBankBytesUptoRow.holds Tryd.pinned (OpenSpec.upto fnBankBytesSpec)

end Rows
end Go.Proofs.YtpngjkhncfbnpaaDoor
