/-
  Texts of the proof, joined: SvcE.
-/
import Derived.Test.YtedncfcmhaaobaaV09
import Derived.Test.YtedncfcmhaaobaaV10
import Derived.Test.YtedncfcmhaaobaaV05
namespace Go.Proofs.Ytedncfcmhaaobaa
open Go.ChangeShapes Go.WideShapes Go.ChangeAt Go.RowKit
set_option linter.unusedVariables false
def RpV (w : World) (a : Option Addr) (n : Nat) (R : Nat → Rp) (A : Nat → Option Addr) (X : Nat → Nat) : Prop := Els w 8 a n (rpF R (fun i => .slice (A i) (R i).ne (X i))) ∧ ∀ i, i < n → Num w (A i) (R i).ne (R i).E
theorem RpV.below {w w' : World} {a : Option Addr} {n : Nat} {R : Nat → Rp} {A : Nat → Option Addr} {X : Nat → Nat} (h : RpV w a n R A X) (hb : Below w.heap.size w w') : RpV w' a n R A X := ⟨h.1.below hb, fun i hi => (h.2 i hi).below hb⟩
theorem RpV.at {w : World} {a : Option Addr} {n : Nat} {R : Nat → Rp} {A : Nat → Option Addr} {X : Nat → Nat} (h : RpV w a n R A X) {k : Nat} (hk : k < n) : ∃ b off, a = some ⟨b, off, none⟩ ∧ ∀ j, j < 8 → w.cell? ⟨b, off + k * 8 + j, none⟩ = some (rpV (R k) (.slice (A k) (R k).ne (X k)) j) := by
 obtain ⟨b, off, ha, hc⟩ := h.1.opened (by omega)
 exact ⟨b, off, ha, hc k hk⟩
end Go.Proofs.Ytedncfcmhaaobaa
