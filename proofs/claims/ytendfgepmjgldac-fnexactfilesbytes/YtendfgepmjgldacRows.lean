/-
  No cell of these rows narrows 'for every input' (looked for: loops, veiled, ifaces, maps, wideKeys, modest, calm, conditions, laid).
  DERIVED. THE GIVEN ROWS OF THIS SEAT. 5 by the template 'for every input the law returns true; each argument reads behind the call as it read before'; 0 by the template 'total and deterministic' (their statements: YtendfgepmjgldacTotals.lean).
  GIVEN WITH THE SEED: the statements are not yours to turn. If you find one false, say at which input.
  Laid BY PROGRAM, IN A SANDBOX (cutbox-rows.mjs): the forced cells as the released guide's own fill.sh prints them over the translation 1e9a48f44a6d6436… (all of the seat's roots in one cut). By AI agents, Wed Nov 11 2026. No macro, syntax, notation, axiom, sorry.
-/
import Derived.Test.YtendfgepmjgldacChecked
import GoSem.Claim
import GoSem.ClaimJoined
import GoSem.ClaimMapViews
import Derived.JoinedTies
import Derived.KernelRfl
namespace Go.Proofs.Ytendfgepmjgldac
/- THE CELL 'sum', in the pinned program and in every row, IS THE sha256 OF THE DUMP (.gsa) THAT YtendfgepmjgldacProg.lean LOADS. Nothing in Lean hashes anything: it is a label: what it is worth is what the hold of that sum in a sandbox is worth. -/
noncomputable def Try.pinned : Pinned := { name := "ytendfgepmjgldac", sum := "1e9a48f44a6d6436431efc70defc238a8303746fca26a9068df02b46cbc71e58", checked := Try.checked }
namespace Rows
def none {H : Type} : Left H := { results := [], args := [] }

/-- 'laws.FnExactRemoveFile': WHATEVER THE INPUT: true; the input reads as it did. -/
def fnExactRemoveFileSpec : ChangeSpec := { name := "fnExactRemoveFile", fn := fun _ => fun
  | [d1, d2] => { results := [.lit (.bool true)], args := [d1, d2] }
  | _ => none }
def fnExactRemoveFileRow : OpenClaim := { program := "ytendfgepmjgldac", sum := "1e9a48f44a6d6436431efc70defc238a8303746fca26a9068df02b46cbc71e58", func := "loop.example/g00257/laws.FnExactRemoveFile", spec := "fnExactRemoveFile", inPlace := ["internal/bytealg.IndexByteString", "internal/bytealg.IndexString", "internal/bytealg.abigen_runtime_cmpstring"], unfollowed := true, recurses := true, named := ["internal/bytealg.MaxLen"], apart := false }
def FnExactRemoveFileSaid : Prop := fnExactRemoveFileRow.holds Try.pinned (OpenSpec.ofChange fnExactRemoveFileSpec)

/-- ITS FALSE NEIGHBOUR: 'it returns false'. Refute it at one input. -/
def fnExactRemoveFileWrong : ChangeSpec := { name := "fnExactRemoveFile", fn := fun _ => fun
  | [d1, d2] => { results := [.lit (.bool false)], args := [d1, d2] }
  | _ => none }
def FnExactRemoveFileWrongFalsely : Prop := fnExactRemoveFileRow.holds Try.pinned (OpenSpec.ofChange fnExactRemoveFileWrong)

/-- 'laws.FnExactListDir': WHATEVER THE INPUT: true; the input reads as it did. -/
def fnExactListDirSpec : ChangeSpec := { name := "fnExactListDir", fn := fun _ => fun
  | [d1, d2] => { results := [.lit (.bool true)], args := [d1, d2] }
  | _ => none }
def fnExactListDirRow : OpenClaim := { program := "ytendfgepmjgldac", sum := "1e9a48f44a6d6436431efc70defc238a8303746fca26a9068df02b46cbc71e58", func := "loop.example/g00257/laws.FnExactListDir", spec := "fnExactListDir", inPlace := ["internal/bytealg.IndexByteString", "internal/bytealg.IndexString", "internal/bytealg.abigen_runtime_cmpstring"], unfollowed := true, recurses := true, named := ["internal/bytealg.MaxLen"], apart := false }
def FnExactListDirSaid : Prop := fnExactListDirRow.holds Try.pinned (OpenSpec.ofChange fnExactListDirSpec)

/-- ITS FALSE NEIGHBOUR: 'it returns false'. Refute it at one input. -/
def fnExactListDirWrong : ChangeSpec := { name := "fnExactListDir", fn := fun _ => fun
  | [d1, d2] => { results := [.lit (.bool false)], args := [d1, d2] }
  | _ => none }
def FnExactListDirWrongFalsely : Prop := fnExactListDirRow.holds Try.pinned (OpenSpec.ofChange fnExactListDirWrong)

/-- 'laws.FnExactFilesBytes': WHATEVER THE INPUT: true; the input reads as it did. -/
def fnExactFilesBytesSpec : ChangeSpec := { name := "fnExactFilesBytes", fn := fun _ => fun
  | [d] => { results := [.lit (.bool true)], args := [d] }
  | _ => none }
def fnExactFilesBytesRow : OpenClaim := { program := "ytendfgepmjgldac", sum := "1e9a48f44a6d6436431efc70defc238a8303746fca26a9068df02b46cbc71e58", func := "loop.example/g00257/laws.FnExactFilesBytes", spec := "fnExactFilesBytes", inPlace := ["internal/bytealg.IndexByteString", "internal/bytealg.IndexString", "internal/bytealg.abigen_runtime_cmpstring"], unfollowed := true, recurses := true, named := ["internal/bytealg.MaxLen"], apart := false }
def FnExactFilesBytesSaid : Prop := fnExactFilesBytesRow.holds Try.pinned (OpenSpec.ofChange fnExactFilesBytesSpec)

/-- ITS FALSE NEIGHBOUR: 'it returns false'. Refute it at one input. -/
def fnExactFilesBytesWrong : ChangeSpec := { name := "fnExactFilesBytes", fn := fun _ => fun
  | [d] => { results := [.lit (.bool false)], args := [d] }
  | _ => none }
def FnExactFilesBytesWrongFalsely : Prop := fnExactFilesBytesRow.holds Try.pinned (OpenSpec.ofChange fnExactFilesBytesWrong)

/-- 'laws.FnExactReadFiles': WHATEVER THE INPUT: true; the input reads as it did. -/
def fnExactReadFilesSpec : ChangeSpec := { name := "fnExactReadFiles", fn := fun _ => fun
  | [d] => { results := [.lit (.bool true)], args := [d] }
  | _ => none }
def fnExactReadFilesRow : OpenClaim := { program := "ytendfgepmjgldac", sum := "1e9a48f44a6d6436431efc70defc238a8303746fca26a9068df02b46cbc71e58", func := "loop.example/g00257/laws.FnExactReadFiles", spec := "fnExactReadFiles", inPlace := ["internal/bytealg.IndexByteString", "internal/bytealg.IndexString", "internal/bytealg.abigen_runtime_cmpstring"], unfollowed := true, recurses := true, named := ["internal/bytealg.MaxLen"], apart := false }
def FnExactReadFilesSaid : Prop := fnExactReadFilesRow.holds Try.pinned (OpenSpec.ofChange fnExactReadFilesSpec)

/-- ITS FALSE NEIGHBOUR: 'it returns false'. Refute it at one input. -/
def fnExactReadFilesWrong : ChangeSpec := { name := "fnExactReadFiles", fn := fun _ => fun
  | [d] => { results := [.lit (.bool false)], args := [d] }
  | _ => none }
def FnExactReadFilesWrongFalsely : Prop := fnExactReadFilesRow.holds Try.pinned (OpenSpec.ofChange fnExactReadFilesWrong)

/-- 'laws.FnExactSameFiles': WHATEVER THE INPUT: true; the input reads as it did. -/
def fnExactSameFilesSpec : ChangeSpec := { name := "fnExactSameFiles", fn := fun _ => fun
  | [d1, d2] => { results := [.lit (.bool true)], args := [d1, d2] }
  | _ => none }
def fnExactSameFilesRow : OpenClaim := { program := "ytendfgepmjgldac", sum := "1e9a48f44a6d6436431efc70defc238a8303746fca26a9068df02b46cbc71e58", func := "loop.example/g00257/laws.FnExactSameFiles", spec := "fnExactSameFiles", inPlace := ["internal/bytealg.IndexByteString", "internal/bytealg.IndexString", "internal/bytealg.abigen_runtime_cmpstring"], unfollowed := true, recurses := true, named := ["internal/bytealg.MaxLen"], apart := false }
def FnExactSameFilesSaid : Prop := fnExactSameFilesRow.holds Try.pinned (OpenSpec.ofChange fnExactSameFilesSpec)

/-- ITS FALSE NEIGHBOUR: 'it returns false'. Refute it at one input. -/
def fnExactSameFilesWrong : ChangeSpec := { name := "fnExactSameFiles", fn := fun _ => fun
  | [d1, d2] => { results := [.lit (.bool false)], args := [d1, d2] }
  | _ => none }
def FnExactSameFilesWrongFalsely : Prop := fnExactSameFilesRow.holds Try.pinned (OpenSpec.ofChange fnExactSameFilesWrong)

/- THE SECOND FORM. 'bulk': how many values and letters a reading holds, each counted each time it is reached (what is shared counts as often as it is met; a slice's spare places count too). A statement '..UptoSaid' is the law's where the arguments, and the package variables that the reading takes, are together of bulk at most 1048576: NARROWER than '..Said'. Prove '..Said' where nothing that the law and all that it calls make is longer than what came in: it says more and counts as full. Else prove '..UptoSaid'. A law counts once. -/
mutual
def uptoBulk {H : Type} : DataW H → Nat
  | .lit (.string bytes) => bytes.length + 1
  | .lit _ => 1
  | .nil => 1
  | .ptr d => uptoBulk d + 1
  | .slice elems spare => uptoBulkAll elems + uptoBulkAll spare + 1
  | .agg parts => uptoBulkAll parts + 1
  | .iface _ d => uptoBulk d + 1
  | .map entries => uptoBulkEntries entries + 1
  | .held _ => 1
def uptoBulkAll {H : Type} : List (DataW H) → Nat
  | [] => 0
  | d :: r => uptoBulk d + uptoBulkAll r
def uptoBulkEntries {H : Type} : List (Lit × DataW H) → Nat
  | [] => 0
  | x :: r => uptoBulkEntry x + uptoBulkEntries r
def uptoBulkEntry {H : Type} : Lit × DataW H → Nat
  | (.string bytes, d) => bytes.length + uptoBulk d + 1
  | (_, d) => uptoBulk d + 1
 end
def uptoSmall : (H : Type) → List (DataW H) → Bool := fun _ ds => decide (uptoBulkAll ds ≤ 1048576)
def OpenSpec.upto (s : _root_.Go.ChangeSpec) : _root_.Go.OpenSpec := { _root_.Go.OpenSpec.ofChange s with cond := some uptoSmall }

/-- 'laws.FnExactRemoveFile', WHERE WHAT IT READS IS OF BULK AT MOST 1048576: true; the input reads as it did. -/
def fnExactRemoveFileUptoRow : OpenClaim := { program := "ytendfgepmjgldac", sum := "1e9a48f44a6d6436431efc70defc238a8303746fca26a9068df02b46cbc71e58", func := "loop.example/g00257/laws.FnExactRemoveFile", spec := "fnExactRemoveFile", inPlace := ["internal/bytealg.IndexByteString", "internal/bytealg.IndexString", "internal/bytealg.abigen_runtime_cmpstring"], unfollowed := true, recurses := true, named := ["internal/bytealg.MaxLen"], apart := false, narrowed := true }
def FnExactRemoveFileUptoSaid : Prop := fnExactRemoveFileUptoRow.holds Try.pinned (OpenSpec.upto fnExactRemoveFileSpec)

/-- 'laws.FnExactListDir', WHERE WHAT IT READS IS OF BULK AT MOST 1048576: true; the input reads as it did. -/
def fnExactListDirUptoRow : OpenClaim := { program := "ytendfgepmjgldac", sum := "1e9a48f44a6d6436431efc70defc238a8303746fca26a9068df02b46cbc71e58", func := "loop.example/g00257/laws.FnExactListDir", spec := "fnExactListDir", inPlace := ["internal/bytealg.IndexByteString", "internal/bytealg.IndexString", "internal/bytealg.abigen_runtime_cmpstring"], unfollowed := true, recurses := true, named := ["internal/bytealg.MaxLen"], apart := false, narrowed := true }
def FnExactListDirUptoSaid : Prop := fnExactListDirUptoRow.holds Try.pinned (OpenSpec.upto fnExactListDirSpec)

/-- 'laws.FnExactFilesBytes', WHERE WHAT IT READS IS OF BULK AT MOST 1048576: true; the input reads as it did. -/
def fnExactFilesBytesUptoRow : OpenClaim := { program := "ytendfgepmjgldac", sum := "1e9a48f44a6d6436431efc70defc238a8303746fca26a9068df02b46cbc71e58", func := "loop.example/g00257/laws.FnExactFilesBytes", spec := "fnExactFilesBytes", inPlace := ["internal/bytealg.IndexByteString", "internal/bytealg.IndexString", "internal/bytealg.abigen_runtime_cmpstring"], unfollowed := true, recurses := true, named := ["internal/bytealg.MaxLen"], apart := false, narrowed := true }
def FnExactFilesBytesUptoSaid : Prop := fnExactFilesBytesUptoRow.holds Try.pinned (OpenSpec.upto fnExactFilesBytesSpec)

/-- 'laws.FnExactReadFiles', WHERE WHAT IT READS IS OF BULK AT MOST 1048576: true; the input reads as it did. -/
def fnExactReadFilesUptoRow : OpenClaim := { program := "ytendfgepmjgldac", sum := "1e9a48f44a6d6436431efc70defc238a8303746fca26a9068df02b46cbc71e58", func := "loop.example/g00257/laws.FnExactReadFiles", spec := "fnExactReadFiles", inPlace := ["internal/bytealg.IndexByteString", "internal/bytealg.IndexString", "internal/bytealg.abigen_runtime_cmpstring"], unfollowed := true, recurses := true, named := ["internal/bytealg.MaxLen"], apart := false, narrowed := true }
def FnExactReadFilesUptoSaid : Prop := fnExactReadFilesUptoRow.holds Try.pinned (OpenSpec.upto fnExactReadFilesSpec)

/-- 'laws.FnExactSameFiles', WHERE WHAT IT READS IS OF BULK AT MOST 1048576: true; the input reads as it did. -/
def fnExactSameFilesUptoRow : OpenClaim := { program := "ytendfgepmjgldac", sum := "1e9a48f44a6d6436431efc70defc238a8303746fca26a9068df02b46cbc71e58", func := "loop.example/g00257/laws.FnExactSameFiles", spec := "fnExactSameFiles", inPlace := ["internal/bytealg.IndexByteString", "internal/bytealg.IndexString", "internal/bytealg.abigen_runtime_cmpstring"], unfollowed := true, recurses := true, named := ["internal/bytealg.MaxLen"], apart := false, narrowed := true }
def FnExactSameFilesUptoSaid : Prop := fnExactSameFilesUptoRow.holds Try.pinned (OpenSpec.upto fnExactSameFilesSpec)

end Rows
end Go.Proofs.Ytendfgepmjgldac
