/-
  Texts of the proof, joined: QuX.
-/
import Derived.Test.YtedncfcmhaaobaaZ31
import Derived.Test.YtedncfcmhaaobaaZ32
import Derived.Test.YtedncfcmhaaobaaZ39
import Derived.Test.YtedncfcmhaaobaaZ40
namespace Go.Proofs.Ytedncfcmhaaobaa
open Go.ChangeShapes Go.WideShapes Go.ChangeAt Go.RowKit
set_option linter.unusedVariables false
theorem SvO.vzo {w : World} {B : Nat} {s : Sv} {vr vw vq : Value} {VR VW VQ : Nat → Value} (h : SvO w B s vr vw vq VR VW VQ) : ∃ p : Sa, vr = .slice p.a s.n p.ca ∧ vw = .slice p.b s.m p.cb ∧ vq = .slice p.d s.l p.cd ∧ (∀ w' : World, SvO w' B s vr vw vq VR VW VQ → SvV w' s p) ∧ SzP s p ∧ SzO p := by
 obtain ⟨p, rfl, rfl, rfl, hv, hz⟩ := h.vz
 exact ⟨p, rfl, rfl, rfl, hv, hz, h.r.zero, h.x.zero, h.q.zero⟩
end Go.Proofs.Ytedncfcmhaaobaa
