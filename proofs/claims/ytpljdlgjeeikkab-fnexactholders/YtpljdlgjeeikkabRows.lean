/-
  No cell of these rows narrows 'for every input' (looked for: loops, veiled, ifaces, maps, wideKeys, modest, calm, conditions, laid).
  DERIVED. THE GIVEN ROWS OF THIS SEAT. 4 by the template 'for every input the law returns true; each argument reads behind the call as it read before'; 0 by the template 'total and deterministic' (their statements: YtpljdlgjeeikkabTotals.lean).
  GIVEN WITH THE SEED: the statements are not yours to turn. If you find one false, say at which input.
  Laid BY PROGRAM, IN A SANDBOX (cutbox-rows.mjs): the forced cells as the released guide's own fill.sh prints them over the translation 7df3b99020a39735… (all of the seat's roots in one cut). By AI agents, Wed Nov 11 2026. No macro, syntax, notation, axiom, sorry.
-/
import Derived.Test.YtpljdlgjeeikkabChecked
import GoSem.Claim
import GoSem.ClaimJoined
import GoSem.ClaimMapViews
import Derived.JoinedTies
import Derived.KernelRfl
namespace Go.Proofs.Ytpljdlgjeeikkab
/- THE CELL 'sum', in the pinned program and in every row, IS THE sha256 OF THE DUMP (.gsa) THAT YtpljdlgjeeikkabProg.lean LOADS. Nothing in Lean hashes anything: it is a label: what it is worth is what the hold of that sum in a sandbox is worth. -/
noncomputable def Try.pinned : Pinned := { name := "ytpljdlgjeeikkab", sum := "7df3b99020a3973516114f631ed14eea57833f28832157a5cf45f2887311e8e9", checked := Try.checked }
namespace Rows
def none {H : Type} : Left H := { results := [], args := [] }

/-- 'laws.FnExactServiceRun': WHATEVER THE INPUT: true; the input reads as it did. -/
def fnExactServiceRunSpec : ChangeSpec := { name := "fnExactServiceRun", fn := fun _ => fun
  | [d1, d2] => { results := [.lit (.bool true)], args := [d1, d2] }
  | _ => none }
def fnExactServiceRunRow : OpenClaim := { program := "ytpljdlgjeeikkab", sum := "7df3b99020a3973516114f631ed14eea57833f28832157a5cf45f2887311e8e9", func := "loop.example/g00257/laws.FnExactServiceRun", spec := "fnExactServiceRun", inPlace := ["slices.overlaps[int]"], unfollowed := true, recurses := true, apart := false }
def FnExactServiceRunSaid : Prop := fnExactServiceRunRow.holds Try.pinned (OpenSpec.ofChange fnExactServiceRunSpec)

/-- ITS FALSE NEIGHBOUR: 'it returns false'. Refute it at one input. -/
def fnExactServiceRunWrong : ChangeSpec := { name := "fnExactServiceRun", fn := fun _ => fun
  | [d1, d2] => { results := [.lit (.bool false)], args := [d1, d2] }
  | _ => none }
def FnExactServiceRunWrongFalsely : Prop := fnExactServiceRunRow.holds Try.pinned (OpenSpec.ofChange fnExactServiceRunWrong)

/-- 'laws.FnExactHolders': WHATEVER THE INPUT: true; the input reads as it did. -/
def fnExactHoldersSpec : ChangeSpec := { name := "fnExactHolders", fn := fun _ => fun
  | [d1, d2] => { results := [.lit (.bool true)], args := [d1, d2] }
  | _ => none }
def fnExactHoldersRow : OpenClaim := { program := "ytpljdlgjeeikkab", sum := "7df3b99020a3973516114f631ed14eea57833f28832157a5cf45f2887311e8e9", func := "loop.example/g00257/laws.FnExactHolders", spec := "fnExactHolders", unfollowed := true, recurses := true, apart := false }
def FnExactHoldersSaid : Prop := fnExactHoldersRow.holds Try.pinned (OpenSpec.ofChange fnExactHoldersSpec)

/-- ITS FALSE NEIGHBOUR: 'it returns false'. Refute it at one input. -/
def fnExactHoldersWrong : ChangeSpec := { name := "fnExactHolders", fn := fun _ => fun
  | [d1, d2] => { results := [.lit (.bool false)], args := [d1, d2] }
  | _ => none }
def FnExactHoldersWrongFalsely : Prop := fnExactHoldersRow.holds Try.pinned (OpenSpec.ofChange fnExactHoldersWrong)

/-- 'laws.FnExactFreshReads': WHATEVER THE INPUT: true; the input reads as it did. -/
def fnExactFreshReadsSpec : ChangeSpec := { name := "fnExactFreshReads", fn := fun _ => fun
  | [d] => { results := [.lit (.bool true)], args := [d] }
  | _ => none }
def fnExactFreshReadsRow : OpenClaim := { program := "ytpljdlgjeeikkab", sum := "7df3b99020a3973516114f631ed14eea57833f28832157a5cf45f2887311e8e9", func := "loop.example/g00257/laws.FnExactFreshReads", spec := "fnExactFreshReads", unfollowed := true, recurses := true, apart := false }
def FnExactFreshReadsSaid : Prop := fnExactFreshReadsRow.holds Try.pinned (OpenSpec.ofChange fnExactFreshReadsSpec)

/-- ITS FALSE NEIGHBOUR: 'it returns false'. Refute it at one input. -/
def fnExactFreshReadsWrong : ChangeSpec := { name := "fnExactFreshReads", fn := fun _ => fun
  | [d] => { results := [.lit (.bool false)], args := [d] }
  | _ => none }
def FnExactFreshReadsWrongFalsely : Prop := fnExactFreshReadsRow.holds Try.pinned (OpenSpec.ofChange fnExactFreshReadsWrong)

/-- 'laws.FnExactLeavesOK': WHATEVER THE INPUT: true; the input reads as it did. -/
def fnExactLeavesOKSpec : ChangeSpec := { name := "fnExactLeavesOK", fn := fun _ => fun
  | [d] => { results := [.lit (.bool true)], args := [d] }
  | _ => none }
def fnExactLeavesOKRow : OpenClaim := { program := "ytpljdlgjeeikkab", sum := "7df3b99020a3973516114f631ed14eea57833f28832157a5cf45f2887311e8e9", func := "loop.example/g00257/laws.FnExactLeavesOK", spec := "fnExactLeavesOK", unfollowed := true, recurses := true, apart := false }
def FnExactLeavesOKSaid : Prop := fnExactLeavesOKRow.holds Try.pinned (OpenSpec.ofChange fnExactLeavesOKSpec)

/-- ITS FALSE NEIGHBOUR: 'it returns false'. Refute it at one input. -/
def fnExactLeavesOKWrong : ChangeSpec := { name := "fnExactLeavesOK", fn := fun _ => fun
  | [d] => { results := [.lit (.bool false)], args := [d] }
  | _ => none }
def FnExactLeavesOKWrongFalsely : Prop := fnExactLeavesOKRow.holds Try.pinned (OpenSpec.ofChange fnExactLeavesOKWrong)

/- THE SECOND FORM. 'bulk': how many values and letters a reading holds, each counted each time it is reached (what is shared counts as often as it is met; a slice's spare places count too). A statement '..UptoSaid' is the law's where the arguments, and the package variables that the reading takes, are together of bulk at most 1048576: NARROWER than '..Said'. Prove '..Said' where nothing that the law and all that it calls make is longer than what came in: it says more and counts as full. Else prove '..UptoSaid'. A law counts once. -/
mutual
def uptoBulk {H : Type} : DataW H → Nat
  | .lit (.string bytes) => bytes.length + 1
  | .lit _ => 1
  | .nil => 1
  | .ptr d => uptoBulk d + 1
  | .slice elems spare => uptoBulkAll elems + uptoBulkAll spare + 1
  | .agg parts => uptoBulkAll parts + 1
  | .iface _ d => uptoBulk d + 1
  | .map entries => uptoBulkEntries entries + 1
  | .held _ => 1
def uptoBulkAll {H : Type} : List (DataW H) → Nat
  | [] => 0
  | d :: r => uptoBulk d + uptoBulkAll r
def uptoBulkEntries {H : Type} : List (Lit × DataW H) → Nat
  | [] => 0
  | x :: r => uptoBulkEntry x + uptoBulkEntries r
def uptoBulkEntry {H : Type} : Lit × DataW H → Nat
  | (.string bytes, d) => bytes.length + uptoBulk d + 1
  | (_, d) => uptoBulk d + 1
 end
def uptoSmall : (H : Type) → List (DataW H) → Bool := fun _ ds => decide (uptoBulkAll ds ≤ 1048576)
def OpenSpec.upto (s : _root_.Go.ChangeSpec) : _root_.Go.OpenSpec := { _root_.Go.OpenSpec.ofChange s with cond := some uptoSmall }

/-- 'laws.FnExactServiceRun', WHERE WHAT IT READS IS OF BULK AT MOST 1048576: true; the input reads as it did. -/
def fnExactServiceRunUptoRow : OpenClaim := { program := "ytpljdlgjeeikkab", sum := "7df3b99020a3973516114f631ed14eea57833f28832157a5cf45f2887311e8e9", func := "loop.example/g00257/laws.FnExactServiceRun", spec := "fnExactServiceRun", inPlace := ["slices.overlaps[int]"], unfollowed := true, recurses := true, apart := false, narrowed := true }
def FnExactServiceRunUptoSaid : Prop := fnExactServiceRunUptoRow.holds Try.pinned (OpenSpec.upto fnExactServiceRunSpec)

/-- 'laws.FnExactHolders', WHERE WHAT IT READS IS OF BULK AT MOST 1048576: true; the input reads as it did. -/
def fnExactHoldersUptoRow : OpenClaim := { program := "ytpljdlgjeeikkab", sum := "7df3b99020a3973516114f631ed14eea57833f28832157a5cf45f2887311e8e9", func := "loop.example/g00257/laws.FnExactHolders", spec := "fnExactHolders", unfollowed := true, recurses := true, apart := false, narrowed := true }
def FnExactHoldersUptoSaid : Prop := fnExactHoldersUptoRow.holds Try.pinned (OpenSpec.upto fnExactHoldersSpec)

/-- 'laws.FnExactFreshReads', WHERE WHAT IT READS IS OF BULK AT MOST 1048576: true; the input reads as it did. -/
def fnExactFreshReadsUptoRow : OpenClaim := { program := "ytpljdlgjeeikkab", sum := "7df3b99020a3973516114f631ed14eea57833f28832157a5cf45f2887311e8e9", func := "loop.example/g00257/laws.FnExactFreshReads", spec := "fnExactFreshReads", unfollowed := true, recurses := true, apart := false, narrowed := true }
def FnExactFreshReadsUptoSaid : Prop := fnExactFreshReadsUptoRow.holds Try.pinned (OpenSpec.upto fnExactFreshReadsSpec)

/-- 'laws.FnExactLeavesOK', WHERE WHAT IT READS IS OF BULK AT MOST 1048576: true; the input reads as it did. -/
def fnExactLeavesOKUptoRow : OpenClaim := { program := "ytpljdlgjeeikkab", sum := "7df3b99020a3973516114f631ed14eea57833f28832157a5cf45f2887311e8e9", func := "loop.example/g00257/laws.FnExactLeavesOK", spec := "fnExactLeavesOK", unfollowed := true, recurses := true, apart := false, narrowed := true }
def FnExactLeavesOKUptoSaid : Prop := fnExactLeavesOKUptoRow.holds Try.pinned (OpenSpec.upto fnExactLeavesOKSpec)

end Rows
end Go.Proofs.Ytpljdlgjeeikkab
