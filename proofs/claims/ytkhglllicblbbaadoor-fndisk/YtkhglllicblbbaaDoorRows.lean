/-
  NARROWER THAN 'FOR EVERY INPUT', by the rows' own cells (each row's printed sentence says how): FnDisk: ifaces, laid · FnTears: ifaces, laid · FnLink: laid · FnExactDiskRun: ifaces, laid · FnExactLinkKey: laid.
  DERIVED. THE GIVEN ROWS OF THIS SEAT. 5 by the template 'for every input the law returns true; each argument reads behind the call as it read before'; 0 by the template 'total and deterministic' (their statements: YtkhglllicblbbaaDoorTotals.lean).
  GIVEN WITH THE SEED: the statements are not yours to turn. If you find one false, say at which input.
  Laid BY PROGRAM, IN A SANDBOX (cutbox-rows.mjs): the forced cells as the released guide's own fill.sh prints them over the translation 94a329509d6d2427… (all of the seat's roots in one cut). By AI agents, Wed Nov 11 2026. No macro, syntax, notation, axiom, sorry.
-/
import Derived.Test.YtkhglllicblbbaaDoorChecked
import GoSem.Claim
import GoSem.ClaimJoined
import GoSem.ClaimMapViews
import Derived.JoinedTies
import Derived.KernelRfl
namespace Go.Proofs.YtkhglllicblbbaaDoor
/- THE CELL 'sum', in the pinned program and in every row, IS THE sha256 OF THE DUMP (.gsa) THAT YtkhglllicblbbaaDoorProg.lean LOADS. Nothing in Lean hashes anything: it is a label: what it is worth is what the hold of that sum in a sandbox is worth. -/
noncomputable def Tryd.pinned : Pinned := { name := "ytkhglllicblbbaadoor", sum := "94a329509d6d242756761390bdf34d259ad4c39c1513dc40a666e10568b7d085", checked := Tryd.checked }
namespace Rows
def none {H : Type} : Left H := { results := [], args := [] }

/- WHAT THE LISTED PACKAGE-LEVEL VARIABLES READ AS WHEN THE CALL BEGINS. Each datum BY PROGRAM (the guide's laid-datum.mjs) off the statement by which the dump's own 'gosem.cut.vars' lays the variable. In a bare row this is a premise. The card (YtkhglllicblbbaaDoorCards.lean) ties it to the program's text. -/
def laid_loop_example_g00257_impl_errNoBlock {H : Type} : DataW H := .iface "*errors.errorString" (.ptr (.agg [.lit (.string [110, 111, 32, 115, 117, 99, 104, 32, 98, 108, 111, 99, 107])]))
def laid_loop_example_g00257_impl_errLongBlock {H : Type} : DataW H := .iface "*errors.errorString" (.ptr (.agg [.lit (.string [109, 111, 114, 101, 32, 98, 121, 116, 101, 115, 32, 116, 104, 97, 110, 32, 97, 32, 98, 108, 111, 99, 107, 32, 104, 111, 108, 100, 115])]))
def laid_loop_example_g00257_impl_errFullCache {H : Type} : DataW H := .iface "*errors.errorString" (.ptr (.agg [.lit (.string [110, 111, 32, 114, 111, 111, 109, 32, 105, 110, 32, 116, 104, 101, 32, 99, 97, 99, 104, 101])]))
def laid_loop_example_g00257_impl_errNoneSaved {H : Type} : DataW H := .iface "*errors.errorString" (.ptr (.agg [.lit (.string [110, 111, 116, 104, 105, 110, 103, 32, 119, 97, 115, 32, 115, 97, 118, 101, 100])]))
def laid_loop_example_g00257_impl_errNoAct {H : Type} : DataW H := .iface "*errors.errorString" (.ptr (.agg [.lit (.string [110, 111, 32, 115, 117, 99, 104, 32, 97, 99, 116])]))
def laid_loop_example_g00257_impl_firstDigest {H : Type} : DataW H := .agg [.lit (.int .u32 1779033703), .lit (.int .u32 3144134277), .lit (.int .u32 1013904242), .lit (.int .u32 2773480762), .lit (.int .u32 1359893119), .lit (.int .u32 2600822924), .lit (.int .u32 528734635), .lit (.int .u32 1541459225)]
def laid_loop_example_g00257_impl_roundWords {H : Type} : DataW H := .agg [.lit (.int .u32 1116352408), .lit (.int .u32 1899447441), .lit (.int .u32 3049323471), .lit (.int .u32 3921009573), .lit (.int .u32 961987163), .lit (.int .u32 1508970993), .lit (.int .u32 2453635748), .lit (.int .u32 2870763221), .lit (.int .u32 3624381080), .lit (.int .u32 310598401), .lit (.int .u32 607225278), .lit (.int .u32 1426881987), .lit (.int .u32 1925078388), .lit (.int .u32 2162078206), .lit (.int .u32 2614888103), .lit (.int .u32 3248222580), .lit (.int .u32 3835390401), .lit (.int .u32 4022224774), .lit (.int .u32 264347078), .lit (.int .u32 604807628), .lit (.int .u32 770255983), .lit (.int .u32 1249150122), .lit (.int .u32 1555081692), .lit (.int .u32 1996064986), .lit (.int .u32 2554220882), .lit (.int .u32 2821834349), .lit (.int .u32 2952996808), .lit (.int .u32 3210313671), .lit (.int .u32 3336571891), .lit (.int .u32 3584528711), .lit (.int .u32 113926993), .lit (.int .u32 338241895), .lit (.int .u32 666307205), .lit (.int .u32 773529912), .lit (.int .u32 1294757372), .lit (.int .u32 1396182291), .lit (.int .u32 1695183700), .lit (.int .u32 1986661051), .lit (.int .u32 2177026350), .lit (.int .u32 2456956037), .lit (.int .u32 2730485921), .lit (.int .u32 2820302411), .lit (.int .u32 3259730800), .lit (.int .u32 3345764771), .lit (.int .u32 3516065817), .lit (.int .u32 3600352804), .lit (.int .u32 4094571909), .lit (.int .u32 275423344), .lit (.int .u32 430227734), .lit (.int .u32 506948616), .lit (.int .u32 659060556), .lit (.int .u32 883997877), .lit (.int .u32 958139571), .lit (.int .u32 1322822218), .lit (.int .u32 1537002063), .lit (.int .u32 1747873779), .lit (.int .u32 1955562222), .lit (.int .u32 2024104815), .lit (.int .u32 2227730452), .lit (.int .u32 2361852424), .lit (.int .u32 2428436474), .lit (.int .u32 2756734187), .lit (.int .u32 3204031479), .lit (.int .u32 3329325298)]

/-- 'laws.FnDisk': WHATEVER THE INPUT: true; the input reads as it did. -/
def fnDiskSpec : ChangeSpec := { name := "fnDisk", vars := ["loop.example/g00257/impl.errNoAct", "loop.example/g00257/impl.errFullCache", "loop.example/g00257/impl.errNoBlock", "loop.example/g00257/impl.errLongBlock", "loop.example/g00257/impl.errNoneSaved"], fn := fun _ => fun
  | [d1, d2, g1, g2, g3, g4, g5] => { results := [.lit (.bool true)], args := [d1, d2], vars := [g1, g2, g3, g4, g5] }
  | _ => none }
def fnDiskRow : OpenClaim := { program := "ytkhglllicblbbaadoor", sum := "94a329509d6d242756761390bdf34d259ad4c39c1513dc40a666e10568b7d085", func := "loop.example/g00257/laws.FnDisk", spec := "fnDisk", inPlace := ["internal/reflectlite.TypeOf"], unfollowed := true, recurses := true, named := ["loop.example/g00257/impl.errNoAct", "loop.example/g00257/impl.errFullCache", "loop.example/g00257/impl.errNoBlock", "loop.example/g00257/impl.errLongBlock", "loop.example/g00257/impl.errNoneSaved"], ifaces := true, apart := false, laid := [("loop.example/g00257/impl.errNoBlock", laid_loop_example_g00257_impl_errNoBlock), ("loop.example/g00257/impl.errLongBlock", laid_loop_example_g00257_impl_errLongBlock), ("loop.example/g00257/impl.errFullCache", laid_loop_example_g00257_impl_errFullCache), ("loop.example/g00257/impl.errNoneSaved", laid_loop_example_g00257_impl_errNoneSaved), ("loop.example/g00257/impl.errNoAct", laid_loop_example_g00257_impl_errNoAct)] }
def FnDiskSaid : Prop := fnDiskRow.holds Tryd.pinned (OpenSpec.ofChange fnDiskSpec)

/-- ITS FALSE NEIGHBOUR: 'it returns false'. Refute it at one input. -/
def fnDiskWrong : ChangeSpec := { name := "fnDisk", vars := ["loop.example/g00257/impl.errNoAct", "loop.example/g00257/impl.errFullCache", "loop.example/g00257/impl.errNoBlock", "loop.example/g00257/impl.errLongBlock", "loop.example/g00257/impl.errNoneSaved"], fn := fun _ => fun
  | [d1, d2, g1, g2, g3, g4, g5] => { results := [.lit (.bool false)], args := [d1, d2], vars := [g1, g2, g3, g4, g5] }
  | _ => none }
def FnDiskWrongFalsely : Prop := fnDiskRow.holds Tryd.pinned (OpenSpec.ofChange fnDiskWrong)

/-- 'laws.FnTears': WHATEVER THE INPUT: true; the input reads as it did. -/
def fnTearsSpec : ChangeSpec := { name := "fnTears", vars := ["loop.example/g00257/impl.errNoBlock", "loop.example/g00257/impl.errLongBlock", "loop.example/g00257/impl.errNoAct", "loop.example/g00257/impl.errFullCache", "loop.example/g00257/impl.errNoneSaved"], fn := fun _ => fun
  | [d1, d2, g1, g2, g3, g4, g5] => { results := [.lit (.bool true)], args := [d1, d2], vars := [g1, g2, g3, g4, g5] }
  | _ => none }
def fnTearsRow : OpenClaim := { program := "ytkhglllicblbbaadoor", sum := "94a329509d6d242756761390bdf34d259ad4c39c1513dc40a666e10568b7d085", func := "loop.example/g00257/laws.FnTears", spec := "fnTears", inPlace := ["internal/reflectlite.TypeOf"], unfollowed := true, recurses := true, named := ["loop.example/g00257/impl.errNoBlock", "loop.example/g00257/impl.errLongBlock", "loop.example/g00257/impl.errNoAct", "loop.example/g00257/impl.errFullCache", "loop.example/g00257/impl.errNoneSaved"], ifaces := true, apart := false, laid := [("loop.example/g00257/impl.errNoBlock", laid_loop_example_g00257_impl_errNoBlock), ("loop.example/g00257/impl.errLongBlock", laid_loop_example_g00257_impl_errLongBlock), ("loop.example/g00257/impl.errFullCache", laid_loop_example_g00257_impl_errFullCache), ("loop.example/g00257/impl.errNoneSaved", laid_loop_example_g00257_impl_errNoneSaved), ("loop.example/g00257/impl.errNoAct", laid_loop_example_g00257_impl_errNoAct)] }
def FnTearsSaid : Prop := fnTearsRow.holds Tryd.pinned (OpenSpec.ofChange fnTearsSpec)

/-- ITS FALSE NEIGHBOUR: 'it returns false'. Refute it at one input. -/
def fnTearsWrong : ChangeSpec := { name := "fnTears", vars := ["loop.example/g00257/impl.errNoBlock", "loop.example/g00257/impl.errLongBlock", "loop.example/g00257/impl.errNoAct", "loop.example/g00257/impl.errFullCache", "loop.example/g00257/impl.errNoneSaved"], fn := fun _ => fun
  | [d1, d2, g1, g2, g3, g4, g5] => { results := [.lit (.bool false)], args := [d1, d2], vars := [g1, g2, g3, g4, g5] }
  | _ => none }
def FnTearsWrongFalsely : Prop := fnTearsRow.holds Tryd.pinned (OpenSpec.ofChange fnTearsWrong)

/-- 'laws.FnLink': WHATEVER THE INPUT: true; the input reads as it did. -/
def fnLinkSpec : ChangeSpec := { name := "fnLink", vars := ["loop.example/g00257/impl.firstDigest", "loop.example/g00257/impl.roundWords"], fn := fun _ => fun
  | [d1, d2, g1, g2] => { results := [.lit (.bool true)], args := [d1, d2], vars := [g1, g2] }
  | _ => none }
def fnLinkRow : OpenClaim := { program := "ytkhglllicblbbaadoor", sum := "94a329509d6d242756761390bdf34d259ad4c39c1513dc40a666e10568b7d085", func := "loop.example/g00257/laws.FnLink", spec := "fnLink", named := ["loop.example/g00257/impl.firstDigest", "loop.example/g00257/impl.roundWords"], apart := false, laid := [("loop.example/g00257/impl.firstDigest", laid_loop_example_g00257_impl_firstDigest), ("loop.example/g00257/impl.roundWords", laid_loop_example_g00257_impl_roundWords)] }
def FnLinkSaid : Prop := fnLinkRow.holds Tryd.pinned (OpenSpec.ofChange fnLinkSpec)

/-- ITS FALSE NEIGHBOUR: 'it returns false'. Refute it at one input. -/
def fnLinkWrong : ChangeSpec := { name := "fnLink", vars := ["loop.example/g00257/impl.firstDigest", "loop.example/g00257/impl.roundWords"], fn := fun _ => fun
  | [d1, d2, g1, g2] => { results := [.lit (.bool false)], args := [d1, d2], vars := [g1, g2] }
  | _ => none }
def FnLinkWrongFalsely : Prop := fnLinkRow.holds Tryd.pinned (OpenSpec.ofChange fnLinkWrong)

/-- 'laws.FnExactDiskRun': WHATEVER THE INPUT: true; the input reads as it did. -/
def fnExactDiskRunSpec : ChangeSpec := { name := "fnExactDiskRun", vars := ["loop.example/g00257/impl.errNoAct", "loop.example/g00257/impl.errFullCache", "loop.example/g00257/impl.errNoBlock", "loop.example/g00257/impl.errLongBlock", "loop.example/g00257/impl.errNoneSaved"], fn := fun _ => fun
  | [d1, d2, g1, g2, g3, g4, g5] => { results := [.lit (.bool true)], args := [d1, d2], vars := [g1, g2, g3, g4, g5] }
  | _ => none }
def fnExactDiskRunRow : OpenClaim := { program := "ytkhglllicblbbaadoor", sum := "94a329509d6d242756761390bdf34d259ad4c39c1513dc40a666e10568b7d085", func := "loop.example/g00257/laws.FnExactDiskRun", spec := "fnExactDiskRun", inPlace := ["internal/reflectlite.TypeOf"], unfollowed := true, recurses := true, named := ["loop.example/g00257/impl.errNoAct", "loop.example/g00257/impl.errFullCache", "loop.example/g00257/impl.errNoBlock", "loop.example/g00257/impl.errLongBlock", "loop.example/g00257/impl.errNoneSaved"], ifaces := true, apart := false, laid := [("loop.example/g00257/impl.errNoBlock", laid_loop_example_g00257_impl_errNoBlock), ("loop.example/g00257/impl.errLongBlock", laid_loop_example_g00257_impl_errLongBlock), ("loop.example/g00257/impl.errFullCache", laid_loop_example_g00257_impl_errFullCache), ("loop.example/g00257/impl.errNoneSaved", laid_loop_example_g00257_impl_errNoneSaved), ("loop.example/g00257/impl.errNoAct", laid_loop_example_g00257_impl_errNoAct)] }
def FnExactDiskRunSaid : Prop := fnExactDiskRunRow.holds Tryd.pinned (OpenSpec.ofChange fnExactDiskRunSpec)

/-- ITS FALSE NEIGHBOUR: 'it returns false'. Refute it at one input. -/
def fnExactDiskRunWrong : ChangeSpec := { name := "fnExactDiskRun", vars := ["loop.example/g00257/impl.errNoAct", "loop.example/g00257/impl.errFullCache", "loop.example/g00257/impl.errNoBlock", "loop.example/g00257/impl.errLongBlock", "loop.example/g00257/impl.errNoneSaved"], fn := fun _ => fun
  | [d1, d2, g1, g2, g3, g4, g5] => { results := [.lit (.bool false)], args := [d1, d2], vars := [g1, g2, g3, g4, g5] }
  | _ => none }
def FnExactDiskRunWrongFalsely : Prop := fnExactDiskRunRow.holds Tryd.pinned (OpenSpec.ofChange fnExactDiskRunWrong)

/-- 'laws.FnExactLinkKey': WHATEVER THE INPUT: true; the input reads as it did. -/
def fnExactLinkKeySpec : ChangeSpec := { name := "fnExactLinkKey", vars := ["loop.example/g00257/impl.firstDigest", "loop.example/g00257/impl.roundWords"], fn := fun _ => fun
  | [d1, d2, d3, d4, g1, g2] => { results := [.lit (.bool true)], args := [d1, d2, d3, d4], vars := [g1, g2] }
  | _ => none }
def fnExactLinkKeyRow : OpenClaim := { program := "ytkhglllicblbbaadoor", sum := "94a329509d6d242756761390bdf34d259ad4c39c1513dc40a666e10568b7d085", func := "loop.example/g00257/laws.FnExactLinkKey", spec := "fnExactLinkKey", named := ["loop.example/g00257/impl.firstDigest", "loop.example/g00257/impl.roundWords"], apart := false, laid := [("loop.example/g00257/impl.firstDigest", laid_loop_example_g00257_impl_firstDigest), ("loop.example/g00257/impl.roundWords", laid_loop_example_g00257_impl_roundWords)] }
def FnExactLinkKeySaid : Prop := fnExactLinkKeyRow.holds Tryd.pinned (OpenSpec.ofChange fnExactLinkKeySpec)

/-- ITS FALSE NEIGHBOUR: 'it returns false'. Refute it at one input. -/
def fnExactLinkKeyWrong : ChangeSpec := { name := "fnExactLinkKey", vars := ["loop.example/g00257/impl.firstDigest", "loop.example/g00257/impl.roundWords"], fn := fun _ => fun
  | [d1, d2, d3, d4, g1, g2] => { results := [.lit (.bool false)], args := [d1, d2, d3, d4], vars := [g1, g2] }
  | _ => none }
def FnExactLinkKeyWrongFalsely : Prop := fnExactLinkKeyRow.holds Tryd.pinned (OpenSpec.ofChange fnExactLinkKeyWrong)

/- THE SECOND FORM. 'bulk': how many values and letters a reading holds, each counted each time it is reached (what is shared counts as often as it is met; a slice's spare places count too). A statement '..UptoSaid' is the law's where the arguments, and the package variables that the reading takes, are together of bulk at most 1048576: NARROWER than '..Said'. Prove '..Said' where nothing that the law and all that it calls make is longer than what came in: it says more and counts as full. Else prove '..UptoSaid'. A law counts once. -/
mutual
def uptoBulk {H : Type} : DataW H → Nat
  | .lit (.string bytes) => bytes.length + 1
  | .lit _ => 1
  | .nil => 1
  | .ptr d => uptoBulk d + 1
  | .slice elems spare => uptoBulkAll elems + uptoBulkAll spare + 1
  | .agg parts => uptoBulkAll parts + 1
  | .iface _ d => uptoBulk d + 1
  | .map entries => uptoBulkEntries entries + 1
  | .held _ => 1
def uptoBulkAll {H : Type} : List (DataW H) → Nat
  | [] => 0
  | d :: r => uptoBulk d + uptoBulkAll r
def uptoBulkEntries {H : Type} : List (Lit × DataW H) → Nat
  | [] => 0
  | x :: r => uptoBulkEntry x + uptoBulkEntries r
def uptoBulkEntry {H : Type} : Lit × DataW H → Nat
  | (.string bytes, d) => bytes.length + uptoBulk d + 1
  | (_, d) => uptoBulk d + 1
 end
def uptoSmall : (H : Type) → List (DataW H) → Bool := fun _ ds => decide (uptoBulkAll ds ≤ 1048576)
def OpenSpec.upto (s : _root_.Go.ChangeSpec) : _root_.Go.OpenSpec := { _root_.Go.OpenSpec.ofChange s with cond := some uptoSmall }

/-- 'laws.FnDisk', WHERE WHAT IT READS IS OF BULK AT MOST 1048576: true; the input reads as it did. -/
def fnDiskUptoRow : OpenClaim := { program := "ytkhglllicblbbaadoor", sum := "94a329509d6d242756761390bdf34d259ad4c39c1513dc40a666e10568b7d085", func := "loop.example/g00257/laws.FnDisk", spec := "fnDisk", inPlace := ["internal/reflectlite.TypeOf"], unfollowed := true, recurses := true, named := ["loop.example/g00257/impl.errNoAct", "loop.example/g00257/impl.errFullCache", "loop.example/g00257/impl.errNoBlock", "loop.example/g00257/impl.errLongBlock", "loop.example/g00257/impl.errNoneSaved"], ifaces := true, apart := false, laid := [("loop.example/g00257/impl.errNoBlock", laid_loop_example_g00257_impl_errNoBlock), ("loop.example/g00257/impl.errLongBlock", laid_loop_example_g00257_impl_errLongBlock), ("loop.example/g00257/impl.errFullCache", laid_loop_example_g00257_impl_errFullCache), ("loop.example/g00257/impl.errNoneSaved", laid_loop_example_g00257_impl_errNoneSaved), ("loop.example/g00257/impl.errNoAct", laid_loop_example_g00257_impl_errNoAct)], narrowed := true }
def FnDiskUptoSaid : Prop := fnDiskUptoRow.holds Tryd.pinned (OpenSpec.upto fnDiskSpec)

/-- 'laws.FnTears', WHERE WHAT IT READS IS OF BULK AT MOST 1048576: true; the input reads as it did. -/
def fnTearsUptoRow : OpenClaim := { program := "ytkhglllicblbbaadoor", sum := "94a329509d6d242756761390bdf34d259ad4c39c1513dc40a666e10568b7d085", func := "loop.example/g00257/laws.FnTears", spec := "fnTears", inPlace := ["internal/reflectlite.TypeOf"], unfollowed := true, recurses := true, named := ["loop.example/g00257/impl.errNoBlock", "loop.example/g00257/impl.errLongBlock", "loop.example/g00257/impl.errNoAct", "loop.example/g00257/impl.errFullCache", "loop.example/g00257/impl.errNoneSaved"], ifaces := true, apart := false, laid := [("loop.example/g00257/impl.errNoBlock", laid_loop_example_g00257_impl_errNoBlock), ("loop.example/g00257/impl.errLongBlock", laid_loop_example_g00257_impl_errLongBlock), ("loop.example/g00257/impl.errFullCache", laid_loop_example_g00257_impl_errFullCache), ("loop.example/g00257/impl.errNoneSaved", laid_loop_example_g00257_impl_errNoneSaved), ("loop.example/g00257/impl.errNoAct", laid_loop_example_g00257_impl_errNoAct)], narrowed := true }
def FnTearsUptoSaid : Prop := fnTearsUptoRow.holds Tryd.pinned (OpenSpec.upto fnTearsSpec)

/-- 'laws.FnLink', WHERE WHAT IT READS IS OF BULK AT MOST 1048576: true; the input reads as it did. -/
def fnLinkUptoRow : OpenClaim := { program := "ytkhglllicblbbaadoor", sum := "94a329509d6d242756761390bdf34d259ad4c39c1513dc40a666e10568b7d085", func := "loop.example/g00257/laws.FnLink", spec := "fnLink", named := ["loop.example/g00257/impl.firstDigest", "loop.example/g00257/impl.roundWords"], apart := false, laid := [("loop.example/g00257/impl.firstDigest", laid_loop_example_g00257_impl_firstDigest), ("loop.example/g00257/impl.roundWords", laid_loop_example_g00257_impl_roundWords)], narrowed := true }
def FnLinkUptoSaid : Prop := fnLinkUptoRow.holds Tryd.pinned (OpenSpec.upto fnLinkSpec)

/-- 'laws.FnExactDiskRun', WHERE WHAT IT READS IS OF BULK AT MOST 1048576: true; the input reads as it did. -/
def fnExactDiskRunUptoRow : OpenClaim := { program := "ytkhglllicblbbaadoor", sum := "94a329509d6d242756761390bdf34d259ad4c39c1513dc40a666e10568b7d085", func := "loop.example/g00257/laws.FnExactDiskRun", spec := "fnExactDiskRun", inPlace := ["internal/reflectlite.TypeOf"], unfollowed := true, recurses := true, named := ["loop.example/g00257/impl.errNoAct", "loop.example/g00257/impl.errFullCache", "loop.example/g00257/impl.errNoBlock", "loop.example/g00257/impl.errLongBlock", "loop.example/g00257/impl.errNoneSaved"], ifaces := true, apart := false, laid := [("loop.example/g00257/impl.errNoBlock", laid_loop_example_g00257_impl_errNoBlock), ("loop.example/g00257/impl.errLongBlock", laid_loop_example_g00257_impl_errLongBlock), ("loop.example/g00257/impl.errFullCache", laid_loop_example_g00257_impl_errFullCache), ("loop.example/g00257/impl.errNoneSaved", laid_loop_example_g00257_impl_errNoneSaved), ("loop.example/g00257/impl.errNoAct", laid_loop_example_g00257_impl_errNoAct)], narrowed := true }
def FnExactDiskRunUptoSaid : Prop := fnExactDiskRunUptoRow.holds Tryd.pinned (OpenSpec.upto fnExactDiskRunSpec)

/-- 'laws.FnExactLinkKey', WHERE WHAT IT READS IS OF BULK AT MOST 1048576: true; the input reads as it did. -/
def fnExactLinkKeyUptoRow : OpenClaim := { program := "ytkhglllicblbbaadoor", sum := "94a329509d6d242756761390bdf34d259ad4c39c1513dc40a666e10568b7d085", func := "loop.example/g00257/laws.FnExactLinkKey", spec := "fnExactLinkKey", named := ["loop.example/g00257/impl.firstDigest", "loop.example/g00257/impl.roundWords"], apart := false, laid := [("loop.example/g00257/impl.firstDigest", laid_loop_example_g00257_impl_firstDigest), ("loop.example/g00257/impl.roundWords", laid_loop_example_g00257_impl_roundWords)], narrowed := true }
def FnExactLinkKeyUptoSaid : Prop := fnExactLinkKeyUptoRow.holds Tryd.pinned (OpenSpec.upto fnExactLinkKeySpec)

end Rows
end Go.Proofs.YtkhglllicblbbaaDoor
