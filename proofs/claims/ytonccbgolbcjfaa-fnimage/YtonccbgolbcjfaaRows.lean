/-
  No cell of these rows narrows 'for every input' (looked for: loops, veiled, ifaces, maps, wideKeys, modest, calm, conditions, laid).
  DERIVED. THE GIVEN ROWS OF THIS SEAT. 5 by the template 'for every input the law returns true; each argument reads behind the call as it read before'; 0 by the template 'total and deterministic' (their statements: YtonccbgolbcjfaaTotals.lean).
  GIVEN WITH THE SEED: the statements are not yours to turn. If you find one false, say at which input.
  Laid BY PROGRAM, IN A SANDBOX (cutbox-rows.mjs): the forced cells as the released guide's own fill.sh prints them over the translation 84e37ecc473c7da3… (all of the seat's roots in one cut). By AI agents, Wed Nov 11 2026. No macro, syntax, notation, axiom, sorry.
-/
import Derived.Test.YtonccbgolbcjfaaChecked
import GoSem.Claim
import GoSem.ClaimJoined
import GoSem.ClaimMapViews
import Derived.JoinedTies
import Derived.KernelRfl
namespace Go.Proofs.Ytonccbgolbcjfaa
/- THE CELL 'sum', in the pinned program and in every row, IS THE sha256 OF THE DUMP (.gsa) THAT YtonccbgolbcjfaaProg.lean LOADS. Nothing in Lean hashes anything: it is a label: what it is worth is what the hold of that sum in a sandbox is worth. -/
noncomputable def Try.pinned : Pinned := { name := "ytonccbgolbcjfaa", sum := "84e37ecc473c7da35246e015c0ff38faf6f1890cc432d47f250dd9097019217d", checked := Try.checked }
namespace Rows
def none {H : Type} : Left H := { results := [], args := [] }

/-- 'laws.FnImage': WHATEVER THE INPUT: true; the input reads as it did. -/
def fnImageSpec : ChangeSpec := { name := "fnImage", fn := fun _ => fun
  | [d1, d2] => { results := [.lit (.bool true)], args := [d1, d2] }
  | _ => none }
def fnImageRow : OpenClaim := { program := "ytonccbgolbcjfaa", sum := "84e37ecc473c7da35246e015c0ff38faf6f1890cc432d47f250dd9097019217d", func := "loop.example/g00257/laws.FnImage", spec := "fnImage", apart := false }
def FnImageSaid : Prop := fnImageRow.holds Try.pinned (OpenSpec.ofChange fnImageSpec)

/-- ITS FALSE NEIGHBOUR: 'it returns false'. Refute it at one input. -/
def fnImageWrong : ChangeSpec := { name := "fnImage", fn := fun _ => fun
  | [d1, d2] => { results := [.lit (.bool false)], args := [d1, d2] }
  | _ => none }
def FnImageWrongFalsely : Prop := fnImageRow.holds Try.pinned (OpenSpec.ofChange fnImageWrong)

/-- 'laws.FnExactPieceCount': WHATEVER THE INPUT: true; the input reads as it did. -/
def fnExactPieceCountSpec : ChangeSpec := { name := "fnExactPieceCount", fn := fun _ => fun
  | [d] => { results := [.lit (.bool true)], args := [d] }
  | _ => none }
def fnExactPieceCountRow : OpenClaim := { program := "ytonccbgolbcjfaa", sum := "84e37ecc473c7da35246e015c0ff38faf6f1890cc432d47f250dd9097019217d", func := "loop.example/g00257/laws.FnExactPieceCount", spec := "fnExactPieceCount", apart := false }
def FnExactPieceCountSaid : Prop := fnExactPieceCountRow.holds Try.pinned (OpenSpec.ofChange fnExactPieceCountSpec)

/-- ITS FALSE NEIGHBOUR: 'it returns false'. Refute it at one input. -/
def fnExactPieceCountWrong : ChangeSpec := { name := "fnExactPieceCount", fn := fun _ => fun
  | [d] => { results := [.lit (.bool false)], args := [d] }
  | _ => none }
def FnExactPieceCountWrongFalsely : Prop := fnExactPieceCountRow.holds Try.pinned (OpenSpec.ofChange fnExactPieceCountWrong)

/-- 'laws.FnExactCutImage': WHATEVER THE INPUT: true; the input reads as it did. -/
def fnExactCutImageSpec : ChangeSpec := { name := "fnExactCutImage", fn := fun _ => fun
  | [d] => { results := [.lit (.bool true)], args := [d] }
  | _ => none }
def fnExactCutImageRow : OpenClaim := { program := "ytonccbgolbcjfaa", sum := "84e37ecc473c7da35246e015c0ff38faf6f1890cc432d47f250dd9097019217d", func := "loop.example/g00257/laws.FnExactCutImage", spec := "fnExactCutImage", apart := false }
def FnExactCutImageSaid : Prop := fnExactCutImageRow.holds Try.pinned (OpenSpec.ofChange fnExactCutImageSpec)

/-- ITS FALSE NEIGHBOUR: 'it returns false'. Refute it at one input. -/
def fnExactCutImageWrong : ChangeSpec := { name := "fnExactCutImage", fn := fun _ => fun
  | [d] => { results := [.lit (.bool false)], args := [d] }
  | _ => none }
def FnExactCutImageWrongFalsely : Prop := fnExactCutImageRow.holds Try.pinned (OpenSpec.ofChange fnExactCutImageWrong)

/-- 'laws.FnExactJoinImage': WHATEVER THE INPUT: true; the input reads as it did. -/
def fnExactJoinImageSpec : ChangeSpec := { name := "fnExactJoinImage", fn := fun _ => fun
  | [d] => { results := [.lit (.bool true)], args := [d] }
  | _ => none }
def fnExactJoinImageRow : OpenClaim := { program := "ytonccbgolbcjfaa", sum := "84e37ecc473c7da35246e015c0ff38faf6f1890cc432d47f250dd9097019217d", func := "loop.example/g00257/laws.FnExactJoinImage", spec := "fnExactJoinImage", apart := false }
def FnExactJoinImageSaid : Prop := fnExactJoinImageRow.holds Try.pinned (OpenSpec.ofChange fnExactJoinImageSpec)

/-- ITS FALSE NEIGHBOUR: 'it returns false'. Refute it at one input. -/
def fnExactJoinImageWrong : ChangeSpec := { name := "fnExactJoinImage", fn := fun _ => fun
  | [d] => { results := [.lit (.bool false)], args := [d] }
  | _ => none }
def FnExactJoinImageWrongFalsely : Prop := fnExactJoinImageRow.holds Try.pinned (OpenSpec.ofChange fnExactJoinImageWrong)

/-- 'laws.FnExactDirtyPieces': WHATEVER THE INPUT: true; the input reads as it did. -/
def fnExactDirtyPiecesSpec : ChangeSpec := { name := "fnExactDirtyPieces", fn := fun _ => fun
  | [d1, d2] => { results := [.lit (.bool true)], args := [d1, d2] }
  | _ => none }
def fnExactDirtyPiecesRow : OpenClaim := { program := "ytonccbgolbcjfaa", sum := "84e37ecc473c7da35246e015c0ff38faf6f1890cc432d47f250dd9097019217d", func := "loop.example/g00257/laws.FnExactDirtyPieces", spec := "fnExactDirtyPieces", apart := false }
def FnExactDirtyPiecesSaid : Prop := fnExactDirtyPiecesRow.holds Try.pinned (OpenSpec.ofChange fnExactDirtyPiecesSpec)

/-- ITS FALSE NEIGHBOUR: 'it returns false'. Refute it at one input. -/
def fnExactDirtyPiecesWrong : ChangeSpec := { name := "fnExactDirtyPieces", fn := fun _ => fun
  | [d1, d2] => { results := [.lit (.bool false)], args := [d1, d2] }
  | _ => none }
def FnExactDirtyPiecesWrongFalsely : Prop := fnExactDirtyPiecesRow.holds Try.pinned (OpenSpec.ofChange fnExactDirtyPiecesWrong)

/- THE SECOND FORM. 'bulk': how many values and letters a reading holds, each counted each time it is reached (what is shared counts as often as it is met; a slice's spare places count too). A statement '..UptoSaid' is the law's where the arguments, and the package variables that the reading takes, are together of bulk at most 1048576: NARROWER than '..Said'. Prove '..Said' where nothing that the law and all that it calls make is longer than what came in: it says more and counts as full. Else prove '..UptoSaid'. A law counts once. -/
mutual
def uptoBulk {H : Type} : DataW H → Nat
  | .lit (.string bytes) => bytes.length + 1
  | .lit _ => 1
  | .nil => 1
  | .ptr d => uptoBulk d + 1
  | .slice elems spare => uptoBulkAll elems + uptoBulkAll spare + 1
  | .agg parts => uptoBulkAll parts + 1
  | .iface _ d => uptoBulk d + 1
  | .map entries => uptoBulkEntries entries + 1
  | .held _ => 1
def uptoBulkAll {H : Type} : List (DataW H) → Nat
  | [] => 0
  | d :: r => uptoBulk d + uptoBulkAll r
def uptoBulkEntries {H : Type} : List (Lit × DataW H) → Nat
  | [] => 0
  | x :: r => uptoBulkEntry x + uptoBulkEntries r
def uptoBulkEntry {H : Type} : Lit × DataW H → Nat
  | (.string bytes, d) => bytes.length + uptoBulk d + 1
  | (_, d) => uptoBulk d + 1
 end
def uptoSmall : (H : Type) → List (DataW H) → Bool := fun _ ds => decide (uptoBulkAll ds ≤ 1048576)
def OpenSpec.upto (s : _root_.Go.ChangeSpec) : _root_.Go.OpenSpec := { _root_.Go.OpenSpec.ofChange s with cond := some uptoSmall }

/-- 'laws.FnImage', WHERE WHAT IT READS IS OF BULK AT MOST 1048576: true; the input reads as it did. -/
def fnImageUptoRow : OpenClaim := { program := "ytonccbgolbcjfaa", sum := "84e37ecc473c7da35246e015c0ff38faf6f1890cc432d47f250dd9097019217d", func := "loop.example/g00257/laws.FnImage", spec := "fnImage", apart := false, narrowed := true }
def FnImageUptoSaid : Prop := fnImageUptoRow.holds Try.pinned (OpenSpec.upto fnImageSpec)

/-- 'laws.FnExactPieceCount', WHERE WHAT IT READS IS OF BULK AT MOST 1048576: true; the input reads as it did. -/
def fnExactPieceCountUptoRow : OpenClaim := { program := "ytonccbgolbcjfaa", sum := "84e37ecc473c7da35246e015c0ff38faf6f1890cc432d47f250dd9097019217d", func := "loop.example/g00257/laws.FnExactPieceCount", spec := "fnExactPieceCount", apart := false, narrowed := true }
def FnExactPieceCountUptoSaid : Prop := fnExactPieceCountUptoRow.holds Try.pinned (OpenSpec.upto fnExactPieceCountSpec)

/-- 'laws.FnExactCutImage', WHERE WHAT IT READS IS OF BULK AT MOST 1048576: true; the input reads as it did. -/
def fnExactCutImageUptoRow : OpenClaim := { program := "ytonccbgolbcjfaa", sum := "84e37ecc473c7da35246e015c0ff38faf6f1890cc432d47f250dd9097019217d", func := "loop.example/g00257/laws.FnExactCutImage", spec := "fnExactCutImage", apart := false, narrowed := true }
def FnExactCutImageUptoSaid : Prop := fnExactCutImageUptoRow.holds Try.pinned (OpenSpec.upto fnExactCutImageSpec)

/-- 'laws.FnExactJoinImage', WHERE WHAT IT READS IS OF BULK AT MOST 1048576: true; the input reads as it did. -/
def fnExactJoinImageUptoRow : OpenClaim := { program := "ytonccbgolbcjfaa", sum := "84e37ecc473c7da35246e015c0ff38faf6f1890cc432d47f250dd9097019217d", func := "loop.example/g00257/laws.FnExactJoinImage", spec := "fnExactJoinImage", apart := false, narrowed := true }
def FnExactJoinImageUptoSaid : Prop := fnExactJoinImageUptoRow.holds Try.pinned (OpenSpec.upto fnExactJoinImageSpec)

/-- 'laws.FnExactDirtyPieces', WHERE WHAT IT READS IS OF BULK AT MOST 1048576: true; the input reads as it did. -/
def fnExactDirtyPiecesUptoRow : OpenClaim := { program := "ytonccbgolbcjfaa", sum := "84e37ecc473c7da35246e015c0ff38faf6f1890cc432d47f250dd9097019217d", func := "loop.example/g00257/laws.FnExactDirtyPieces", spec := "fnExactDirtyPieces", apart := false, narrowed := true }
def FnExactDirtyPiecesUptoSaid : Prop := fnExactDirtyPiecesUptoRow.holds Try.pinned (OpenSpec.upto fnExactDirtyPiecesSpec)

end Rows
end Go.Proofs.Ytonccbgolbcjfaa
