/-
  Texts of the proof, joined: SvcR.
-/
import Derived.Test.YtedncfcmhaaobaaZ04
import Derived.Test.YtedncfcmhaaobaaZ05
import Derived.Test.YtedncfcmhaaobaaZ06
import Derived.Test.YtedncfcmhaaobaaZ07
namespace Go.Proofs.Ytedncfcmhaaobaa
open Go.ChangeShapes Go.WideShapes Go.ChangeAt Go.RowKit
set_option linter.unusedVariables false
structure Rp where
 mute : Bool
 nc : Int
 nt : Int
 sc : Int
 st : Int
 ne : Nat
 E : Nat → Int
 bc : Int
 bt : Int
def rpZ : Rp := ⟨false, 0, 0, 0, 0, 0, fun _ => 0, 0, 0⟩
def rpV (r : Rp) (v : Value) : Nat → Value
 | 0 => .bool r.mute
 | 1 => .int .i64 r.nc
 | 2 => .int .i64 r.nt
 | 3 => .int .i64 r.sc
 | 4 => .int .i64 r.st
 | 5 => v
 | 6 => .int .i64 r.bc
 | _ => .int .i64 r.bt
def rpF (R : Nat → Rp) (V : Nat → Value) (i j : Nat) : Value := rpV (R i) (V i) j
theorem Try.infoRp : (Try.prog.info? 43).map (fun i => (i.zero, i.size, i.bytes)) = some (some (.agg #[.bool false, .int .i64 0, .int .i64 0, .int .i64 0, .int .i64 0, .slice none 0 0, .int .i64 0, .int .i64 0]), 8, 80) := by kernel_rfl
theorem Box4.loadsv {w : World} {b : Nat} {x y z u : Value} (h : Box4 w b 28 x y z u) : (loadVar 28 ⟨b, 0, none⟩).run Try.prog w = .ok (.agg #[x, y, z, u]) w := by
 have h0 := h.c0
 have h1 := h.c1
 have h2 := h.c2
 have h3 := h.c3
 go_simp
end Go.Proofs.Ytedncfcmhaaobaa
