/-
  Texts of the proof, joined: QuO.
-/
import Derived.Test.YtedncfcmhaaobaaV21
import Derived.Test.YtedncfcmhaaobaaV13
namespace Go.Proofs.Ytedncfcmhaaobaa
open Go.ChangeShapes Go.WideShapes Go.ChangeAt Go.RowKit
set_option linter.unusedVariables false
theorem EO.apart {w : World} {B B' : Nat} {t t' : TypeId} {s s' n n' : Nat} {v v' : Value} {F F' : Nat → Nat → Value} (h : EO w B t s v n F) (h' : EO w B' t' s' v' n' F') (ht : t ≠ t') (g : Nat) (e : v.ownBlock = some g) : v'.ownBlock ≠ some g := fun e' => by
 obtain ⟨hl, ⟨h1, _⟩ | ⟨g1, cap, cur, hv, _, hh, _⟩⟩ := h
 ·rw [h1] at e; cases e
 ·obtain ⟨hl', ⟨h1', _⟩ | ⟨g2, cap', cur', hv', _, hh', _⟩⟩ := h'
  ·rw [h1'] at e'; cases e'
  ·rw [hv] at e
   rw [hv'] at e'
   have e1 : g1 = g := Option.some.inj e
   have e2 : g2 = g := Option.some.inj e'
   rw [e1] at hh
   rw [e2, hh] at hh'
   cases hh'
   exact ht rfl
structure SvO (w : World) (B : Nat) (s : Sv) (vr vw vq : Value) (VR VW VQ : Nat → Value) : Prop where
 r : EO w B 43 8 vr s.n (rpF s.R VR)
 x : EO w B 37 5 vw s.m (woF s.W VW)
 q : EO w B 90 5 vq s.l (roF s.Q VQ)
 e : ∀ i, i < s.n → IE w B (VR i) (s.R i).ne (s.R i).E
 a : ∀ i, i < s.m → IE w B (VW i) (s.W i).ne (s.W i).E
 f : ∀ i, i < s.l → IE w B (VQ i) (s.Q i).ne (s.Q i).E
theorem SvO.below {w w' : World} {B : Nat} {s : Sv} {vr vw vq : Value} {VR VW VQ : Nat → Value} (h : SvO w B s vr vw vq VR VW VQ) (hb : Below w.heap.size w w') : SvO w' B s vr vw vq VR VW VQ :=
 ⟨h.r.below hb, h.x.below hb, h.q.below hb, fun i hi => EO.below (h.e i hi) hb, fun i hi => EO.below (h.a i hi) hb, fun i hi => EO.below (h.f i hi) hb⟩
theorem SvO.mono {w : World} {B B' : Nat} {s : Sv} {vr vw vq : Value} {VR VW VQ : Nat → Value} (h : SvO w B s vr vw vq VR VW VQ) (hB : B' ≤ B) : SvO w B' s vr vw vq VR VW VQ :=
 ⟨h.r.mono hB, h.x.mono hB, h.q.mono hB, fun i hi => EO.mono (h.e i hi) hB, fun i hi => EO.mono (h.a i hi) hB, fun i hi => EO.mono (h.f i hi) hB⟩
def SvD (s : Sv) (VR VW VQ : Nat → Value) : Prop :=
 (∀ i j g, i < s.n → j < s.n → (VR i).ownBlock = some g → (VR j).ownBlock = some g → i = j) ∧
 (∀ i j g, i < s.m → j < s.m → (VW i).ownBlock = some g → (VW j).ownBlock = some g → i = j) ∧
 (∀ i j g, i < s.l → j < s.l → (VQ i).ownBlock = some g → (VQ j).ownBlock = some g → i = j) ∧
 (∀ i j g, i < s.n → j < s.m → (VR i).ownBlock = some g → (VW j).ownBlock ≠ some g) ∧
 (∀ i j g, i < s.n → j < s.l → (VR i).ownBlock = some g → (VQ j).ownBlock ≠ some g) ∧
 (∀ i j g, i < s.m → j < s.l → (VW i).ownBlock = some g → (VQ j).ownBlock ≠ some g)
end Go.Proofs.Ytedncfcmhaaobaa
