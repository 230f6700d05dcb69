/-
  No cell of these rows narrows 'for every input' (looked for: loops, veiled, ifaces, maps, wideKeys, modest, calm, conditions, laid).
  DERIVED. THE GIVEN ROWS OF THIS SEAT. 4 by the template 'for every input the law returns true; each argument reads behind the call as it read before'; 0 by the template 'total and deterministic' (their statements: YtonccbgolbcjfabTotals.lean).
  GIVEN WITH THE SEED: the statements are not yours to turn. If you find one false, say at which input.
  Laid BY PROGRAM, IN A SANDBOX (cutbox-rows.mjs): the forced cells as the released guide's own fill.sh prints them over the translation e8ce62544bcad438… (all of the seat's roots in one cut). By AI agents, Wed Nov 11 2026. No macro, syntax, notation, axiom, sorry.
-/
import Derived.Test.YtonccbgolbcjfabChecked
import GoSem.Claim
import GoSem.ClaimJoined
import GoSem.ClaimMapViews
import Derived.JoinedTies
import Derived.KernelRfl
namespace Go.Proofs.Ytonccbgolbcjfab
/- THE CELL 'sum', in the pinned program and in every row, IS THE sha256 OF THE DUMP (.gsa) THAT YtonccbgolbcjfabProg.lean LOADS. Nothing in Lean hashes anything: it is a label: what it is worth is what the hold of that sum in a sandbox is worth. -/
noncomputable def Try.pinned : Pinned := { name := "ytonccbgolbcjfab", sum := "e8ce62544bcad4383bb29c0a3a2133a46a2cd2bcb5f97c800dea09e536b3d042", checked := Try.checked }
namespace Rows
def none {H : Type} : Left H := { results := [], args := [] }

/-- 'laws.FnExactSuperOK': WHATEVER THE INPUT: true; the input reads as it did. -/
def fnExactSuperOKSpec : ChangeSpec := { name := "fnExactSuperOK", fn := fun _ => fun
  | [d] => { results := [.lit (.bool true)], args := [d] }
  | _ => none }
def fnExactSuperOKRow : OpenClaim := { program := "ytonccbgolbcjfab", sum := "e8ce62544bcad4383bb29c0a3a2133a46a2cd2bcb5f97c800dea09e536b3d042", func := "loop.example/g00257/laws.FnExactSuperOK", spec := "fnExactSuperOK", unfollowed := true, recurses := true, apart := false }
def FnExactSuperOKSaid : Prop := fnExactSuperOKRow.holds Try.pinned (OpenSpec.ofChange fnExactSuperOKSpec)

/-- ITS FALSE NEIGHBOUR: 'it returns false'. Refute it at one input. -/
def fnExactSuperOKWrong : ChangeSpec := { name := "fnExactSuperOK", fn := fun _ => fun
  | [d] => { results := [.lit (.bool false)], args := [d] }
  | _ => none }
def FnExactSuperOKWrongFalsely : Prop := fnExactSuperOKRow.holds Try.pinned (OpenSpec.ofChange fnExactSuperOKWrong)

/-- 'laws.FnExactSuperBytes': WHATEVER THE INPUT: true; the input reads as it did. -/
def fnExactSuperBytesSpec : ChangeSpec := { name := "fnExactSuperBytes", fn := fun _ => fun
  | [d] => { results := [.lit (.bool true)], args := [d] }
  | _ => none }
def fnExactSuperBytesRow : OpenClaim := { program := "ytonccbgolbcjfab", sum := "e8ce62544bcad4383bb29c0a3a2133a46a2cd2bcb5f97c800dea09e536b3d042", func := "loop.example/g00257/laws.FnExactSuperBytes", spec := "fnExactSuperBytes", unfollowed := true, recurses := true, apart := false }
def FnExactSuperBytesSaid : Prop := fnExactSuperBytesRow.holds Try.pinned (OpenSpec.ofChange fnExactSuperBytesSpec)

/-- ITS FALSE NEIGHBOUR: 'it returns false'. Refute it at one input. -/
def fnExactSuperBytesWrong : ChangeSpec := { name := "fnExactSuperBytes", fn := fun _ => fun
  | [d] => { results := [.lit (.bool false)], args := [d] }
  | _ => none }
def FnExactSuperBytesWrongFalsely : Prop := fnExactSuperBytesRow.holds Try.pinned (OpenSpec.ofChange fnExactSuperBytesWrong)

/-- 'laws.FnExactReadSuper': WHATEVER THE INPUT: true; the input reads as it did. -/
def fnExactReadSuperSpec : ChangeSpec := { name := "fnExactReadSuper", fn := fun _ => fun
  | [d] => { results := [.lit (.bool true)], args := [d] }
  | _ => none }
def fnExactReadSuperRow : OpenClaim := { program := "ytonccbgolbcjfab", sum := "e8ce62544bcad4383bb29c0a3a2133a46a2cd2bcb5f97c800dea09e536b3d042", func := "loop.example/g00257/laws.FnExactReadSuper", spec := "fnExactReadSuper", unfollowed := true, recurses := true, apart := false }
def FnExactReadSuperSaid : Prop := fnExactReadSuperRow.holds Try.pinned (OpenSpec.ofChange fnExactReadSuperSpec)

/-- ITS FALSE NEIGHBOUR: 'it returns false'. Refute it at one input. -/
def fnExactReadSuperWrong : ChangeSpec := { name := "fnExactReadSuper", fn := fun _ => fun
  | [d] => { results := [.lit (.bool false)], args := [d] }
  | _ => none }
def FnExactReadSuperWrongFalsely : Prop := fnExactReadSuperRow.holds Try.pinned (OpenSpec.ofChange fnExactReadSuperWrong)

/-- 'laws.FnExactFreeBlocks': WHATEVER THE INPUT: true; the input reads as it did. -/
def fnExactFreeBlocksSpec : ChangeSpec := { name := "fnExactFreeBlocks", fn := fun _ => fun
  | [d1, d2] => { results := [.lit (.bool true)], args := [d1, d2] }
  | _ => none }
def fnExactFreeBlocksRow : OpenClaim := { program := "ytonccbgolbcjfab", sum := "e8ce62544bcad4383bb29c0a3a2133a46a2cd2bcb5f97c800dea09e536b3d042", func := "loop.example/g00257/laws.FnExactFreeBlocks", spec := "fnExactFreeBlocks", unfollowed := true, recurses := true, apart := false }
def FnExactFreeBlocksSaid : Prop := fnExactFreeBlocksRow.holds Try.pinned (OpenSpec.ofChange fnExactFreeBlocksSpec)

/-- ITS FALSE NEIGHBOUR: 'it returns false'. Refute it at one input. -/
def fnExactFreeBlocksWrong : ChangeSpec := { name := "fnExactFreeBlocks", fn := fun _ => fun
  | [d1, d2] => { results := [.lit (.bool false)], args := [d1, d2] }
  | _ => none }
def FnExactFreeBlocksWrongFalsely : Prop := fnExactFreeBlocksRow.holds Try.pinned (OpenSpec.ofChange fnExactFreeBlocksWrong)

/- THE SECOND FORM. 'bulk': how many values and letters a reading holds, each counted each time it is reached (what is shared counts as often as it is met; a slice's spare places count too). A statement '..UptoSaid' is the law's where the arguments, and the package variables that the reading takes, are together of bulk at most 1048576: NARROWER than '..Said'. Prove '..Said' where nothing that the law and all that it calls make is longer than what came in: it says more and counts as full. Else prove '..UptoSaid'. A law counts once. -/
mutual
def uptoBulk {H : Type} : DataW H → Nat
  | .lit (.string bytes) => bytes.length + 1
  | .lit _ => 1
  | .nil => 1
  | .ptr d => uptoBulk d + 1
  | .slice elems spare => uptoBulkAll elems + uptoBulkAll spare + 1
  | .agg parts => uptoBulkAll parts + 1
  | .iface _ d => uptoBulk d + 1
  | .map entries => uptoBulkEntries entries + 1
  | .held _ => 1
def uptoBulkAll {H : Type} : List (DataW H) → Nat
  | [] => 0
  | d :: r => uptoBulk d + uptoBulkAll r
def uptoBulkEntries {H : Type} : List (Lit × DataW H) → Nat
  | [] => 0
  | x :: r => uptoBulkEntry x + uptoBulkEntries r
def uptoBulkEntry {H : Type} : Lit × DataW H → Nat
  | (.string bytes, d) => bytes.length + uptoBulk d + 1
  | (_, d) => uptoBulk d + 1
 end
def uptoSmall : (H : Type) → List (DataW H) → Bool := fun _ ds => decide (uptoBulkAll ds ≤ 1048576)
def OpenSpec.upto (s : _root_.Go.ChangeSpec) : _root_.Go.OpenSpec := { _root_.Go.OpenSpec.ofChange s with cond := some uptoSmall }

/-- 'laws.FnExactSuperOK', WHERE WHAT IT READS IS OF BULK AT MOST 1048576: true; the input reads as it did. -/
def fnExactSuperOKUptoRow : OpenClaim := { program := "ytonccbgolbcjfab", sum := "e8ce62544bcad4383bb29c0a3a2133a46a2cd2bcb5f97c800dea09e536b3d042", func := "loop.example/g00257/laws.FnExactSuperOK", spec := "fnExactSuperOK", unfollowed := true, recurses := true, apart := false, narrowed := true }
def FnExactSuperOKUptoSaid : Prop := fnExactSuperOKUptoRow.holds Try.pinned (OpenSpec.upto fnExactSuperOKSpec)

/-- 'laws.FnExactSuperBytes', WHERE WHAT IT READS IS OF BULK AT MOST 1048576: true; the input reads as it did. -/
def fnExactSuperBytesUptoRow : OpenClaim := { program := "ytonccbgolbcjfab", sum := "e8ce62544bcad4383bb29c0a3a2133a46a2cd2bcb5f97c800dea09e536b3d042", func := "loop.example/g00257/laws.FnExactSuperBytes", spec := "fnExactSuperBytes", unfollowed := true, recurses := true, apart := false, narrowed := true }
def FnExactSuperBytesUptoSaid : Prop := fnExactSuperBytesUptoRow.holds Try.pinned (OpenSpec.upto fnExactSuperBytesSpec)

/-- 'laws.FnExactReadSuper', WHERE WHAT IT READS IS OF BULK AT MOST 1048576: true; the input reads as it did. -/
def fnExactReadSuperUptoRow : OpenClaim := { program := "ytonccbgolbcjfab", sum := "e8ce62544bcad4383bb29c0a3a2133a46a2cd2bcb5f97c800dea09e536b3d042", func := "loop.example/g00257/laws.FnExactReadSuper", spec := "fnExactReadSuper", unfollowed := true, recurses := true, apart := false, narrowed := true }
def FnExactReadSuperUptoSaid : Prop := fnExactReadSuperUptoRow.holds Try.pinned (OpenSpec.upto fnExactReadSuperSpec)

/-- 'laws.FnExactFreeBlocks', WHERE WHAT IT READS IS OF BULK AT MOST 1048576: true; the input reads as it did. -/
def fnExactFreeBlocksUptoRow : OpenClaim := { program := "ytonccbgolbcjfab", sum := "e8ce62544bcad4383bb29c0a3a2133a46a2cd2bcb5f97c800dea09e536b3d042", func := "loop.example/g00257/laws.FnExactFreeBlocks", spec := "fnExactFreeBlocks", unfollowed := true, recurses := true, apart := false, narrowed := true }
def FnExactFreeBlocksUptoSaid : Prop := fnExactFreeBlocksUptoRow.holds Try.pinned (OpenSpec.upto fnExactFreeBlocksSpec)

end Rows
end Go.Proofs.Ytonccbgolbcjfab
