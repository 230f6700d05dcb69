/-
  Texts of the proof, joined: SvcF, SvcG.
-/
import Derived.Test.YtedncfcmhaaobaaV12
namespace Go.Proofs.Ytedncfcmhaaobaa
open Go.ChangeShapes Go.WideShapes Go.ChangeAt Go.RowKit
set_option linter.unusedVariables false
end Go.Proofs.Ytedncfcmhaaobaa
namespace Go.Proofs.Ytedncfcmhaaobaa
open Go.ChangeShapes Go.WideShapes Go.ChangeAt Go.RowKit
set_option linter.unusedVariables false
structure Sv where
 n : Nat
 R : Nat → Rp
 t : Int
 m : Nat
 W : Nat → Wo
 l : Nat
 Q : Nat → Ro
structure Sa where
 a : Option Addr
 b : Option Addr
 d : Option Addr
 A : Nat → Option Addr
 B : Nat → Option Addr
 D : Nat → Option Addr
 X : Nat → Nat
 Y : Nat → Nat
 Z : Nat → Nat
 ca : Nat
 cb : Nat
 cd : Nat
def SvV (w : World) (s : Sv) (p : Sa) : Prop := RpV w p.a s.n s.R p.A p.X ∧ WoV w p.b s.m s.W p.B p.Y ∧ RoV w p.d s.l s.Q p.D p.Z
theorem SvV.below {w w' : World} {s : Sv} {p : Sa} (h : SvV w s p) (hb : Below w.heap.size w w') : SvV w' s p := ⟨h.1.below hb, h.2.1.below hb, h.2.2.below hb⟩
def Sv.max (s : Sv) (x : Nat) : Prop := (s.n ≤ x ∧ ∀ i, i < s.n → (s.R i).ne ≤ x) ∧ (s.m ≤ x ∧ ∀ i, i < s.m → (s.W i).ne ≤ x) ∧ (s.l ≤ x ∧ ∀ i, i < s.l → (s.Q i).ne ≤ x)
end Go.Proofs.Ytedncfcmhaaobaa
