/-
  Texts of the proof, joined: QuX.
-/
import Derived.Test.YtedncfcmhaaobaaV31
import Derived.Test.YtedncfcmhaaobaaV28
import Derived.Test.YtedncfcmhaaobaaV40
import Derived.Test.YtedncfcmhaaobaaV42
namespace Go.Proofs.Ytedncfcmhaaobaa
open Go.ChangeShapes Go.WideShapes Go.ChangeAt Go.RowKit
set_option linter.unusedVariables false
theorem SvO.vzo {w : World} {B : Nat} {s : Sv} {vr vw vq : Value} {VR VW VQ : Nat → Value} (h : SvO w B s vr vw vq VR VW VQ) : ∃ p : Sa, vr = .slice p.a s.n p.ca ∧ vw = .slice p.b s.m p.cb ∧ vq = .slice p.d s.l p.cd ∧ (∀ w' : World, SvO w' B s vr vw vq VR VW VQ → SvV w' s p) ∧ SzP s p ∧ SzO p := by
 obtain ⟨p, rfl, rfl, rfl, hv, hz⟩ := h.vz
 exact ⟨p, rfl, rfl, rfl, hv, hz, h.r.zero, h.x.zero, h.q.zero⟩
structure XIs (u : World) (B b : Nat) (s : Sv) (p : Sa) : Prop where
 x : Box4 u b 28 (.slice p.a s.n p.ca) (.int .i64 s.t) (.slice p.b s.m p.cb) (.slice p.d s.l p.cd)
 h : B ≤ b
 z : SzP s p
 o : SzO p
 r : ∃ VR VW VQ, SvO u B s (.slice p.a s.n p.ca) (.slice p.b s.m p.cb) (.slice p.d s.l p.cd) VR VW VQ ∧ ∀ w' : World, SvO w' B s (.slice p.a s.n p.ca) (.slice p.b s.m p.cb) (.slice p.d s.l p.cd) VR VW VQ → SvV w' s p
theorem XIs.v {u : World} {B b : Nat} {s : Sv} {p : Sa} (h : XIs u B b s p) : SvV u s p := by
 obtain ⟨_, _, _, k, f⟩ := h.r
 exact f _ k
theorem XIs.below {u u' : World} {B b : Nat} {s : Sv} {p : Sa} (h : XIs u B b s p) (hb : Below u.heap.size u u') : XIs u' B b s p := by
 obtain ⟨VR, VW, VQ, k, f⟩ := h.r
 exact ⟨h.x.below hb, h.h, h.z, h.o, VR, VW, VQ, k.below hb, f⟩
theorem XIs.put {u : World} {B b : Nat} {s : Sv} {p : Sa} {vr vw vq : Value} {VR VW VQ : Nat → Value} (ho : SvO u B s vr vw vq VR VW VQ) (h1 : vr = .slice p.a s.n p.ca) (h2 : vw = .slice p.b s.m p.cb) (h3 : vq = .slice p.d s.l p.cd) (hv : ∀ w' : World, SvO w' B s vr vw vq VR VW VQ → SvV w' s p) (hz : SzP s p) (hzo : SzO p) (hB : B ≤ b) {x y z m : Value} (hx : Box4 u b 28 x y z m) :
  XIs ((((u.setCell ⟨b, 0, none⟩ (.slice p.a s.n p.ca)).setCell ⟨b, 1, none⟩ (.int .i64 s.t)).setCell ⟨b, 2, none⟩ (.slice p.b s.m p.cb)).setCell ⟨b, 3, none⟩ (.slice p.d s.l p.cd)) B b s p := by
 subst h1 h2 h3
 exact ⟨(((hx.set0 _).set1 _).set2 _).set3 _, hB, hz, hzo, VR, VW, VQ, ho.res hx _ _ _ _, hv⟩
theorem XIs.made {u : World} {B : Nat} {s : Sv} {p : Sa} {vr vw vq : Value} {VR VW VQ : Nat → Value} (ho : SvO u B s vr vw vq VR VW VQ) (h1 : vr = .slice p.a s.n p.ca) (h2 : vw = .slice p.b s.m p.cb) (h3 : vq = .slice p.d s.l p.cd) (hv : ∀ w' : World, SvO w' B s vr vw vq VR VW VQ → SvV w' s p) (hz : SzP s p) (hzo : SzO p) (hB : B ≤ u.heap.size) :
  XIs (u.alloc (.cells #[.slice p.a s.n p.ca, .int .i64 s.t, .slice p.b s.m p.cb, .slice p.d s.l p.cd] 28)) B u.heap.size s p := by
 subst h1 h2 h3
 exact ⟨Box4.madeAt rfl _ _ _ _ _, hB, hz, hzo, VR, VW, VQ, ho.below ((Below.refl _ _).alloc (Nat.le_refl _) _), hv⟩
theorem XIs.move {u : World} {B b b' : Nat} {s : Sv} {p : Sa} (h : XIs u B b s p) (hB : B ≤ b') {x y z m : Value} (hx : Box4 u b' 28 x y z m) :
  XIs ((((u.setCell ⟨b', 0, none⟩ (.slice p.a s.n p.ca)).setCell ⟨b', 1, none⟩ (.int .i64 s.t)).setCell ⟨b', 2, none⟩ (.slice p.b s.m p.cb)).setCell ⟨b', 3, none⟩ (.slice p.d s.l p.cd)) B b' s p := by
 obtain ⟨VR, VW, VQ, k, f⟩ := h.r
 exact XIs.put k rfl rfl rfl f h.z h.o hB hx
def RetSx (B : Nat) (s : Sv) (a : Qa) (e : Ending) (w : World) : Prop := ∃ (s' : Sv) (c : Int) (p : Sa), e = .returned (.tuple #[.agg #[.slice p.a s'.n p.ca, .int .i64 s'.t, .slice p.b s'.m p.cb, .slice p.d s'.l p.cd], .int .i64 c]) ∧ StepS s a s' c ∧ SzP s' p ∧ SzO p ∧ ∃ VR VW VQ, SvO w B s' (.slice p.a s'.n p.ca) (.slice p.b s'.m p.cb) (.slice p.d s'.l p.cd) VR VW VQ ∧ ∀ w' : World, SvO w' B s' (.slice p.a s'.n p.ca) (.slice p.b s'.m p.cb) (.slice p.d s'.l p.cd) VR VW VQ → SvV w' s' p
theorem RetSs.x {B B0 : Nat} {s : Sv} {a : Qa} {e : Ending} {w : World} (h : RetSs B s a e w) (ok : s.Ok) (hB : B0 ≤ B) : RetSx B0 s a e w := by
 obtain ⟨s', c, vr, vw, vq, VR, VW, VQ, rfl, hs, ho, hd⟩ := h
 obtain ⟨p, rfl, rfl, rfl, hv, hz, hzo⟩ := (ho.mono hB).vzo
 exact ⟨s', c, p, rfl, hs.elim (fun q => q.2) (fun q => absurd ok q.1), hz, hzo, VR, VW, VQ, ho.mono hB, hv⟩
theorem RetSx.made {w : World} {B : Nat} {s : Sv} {p : Sa} (hz : SzP s p) (hzo : SzO p) (hr : ∃ VR VW VQ, SvO w B s (.slice p.a s.n p.ca) (.slice p.b s.m p.cb) (.slice p.d s.l p.cd) VR VW VQ ∧ ∀ w' : World, SvO w' B s (.slice p.a s.n p.ca) (.slice p.b s.m p.cb) (.slice p.d s.l p.cd) VR VW VQ → SvV w' s p) (hB : B ≤ w.heap.size) :
  XIs (w.alloc (.cells #[.slice p.a s.n p.ca, .int .i64 s.t, .slice p.b s.m p.cb, .slice p.d s.l p.cd] 28)) B w.heap.size s p := by
 obtain ⟨VR, VW, VQ, k, f⟩ := hr
 exact XIs.made k rfl rfl rfl f hz hzo hB
def XrS (w : World) (B : Nat) (s : Sv) (p : Sa) : Prop := ∃ VR VW VQ, SvO w B s (.slice p.a s.n p.ca) (.slice p.b s.m p.cb) (.slice p.d s.l p.cd) VR VW VQ ∧ ∀ w' : World, SvO w' B s (.slice p.a s.n p.ca) (.slice p.b s.m p.cb) (.slice p.d s.l p.cd) VR VW VQ → SvV w' s p
theorem XrS.below {w u : World} {B : Nat} {s : Sv} {p : Sa} (h : XrS w B s p) (hb : Below w.heap.size w u) : XrS u B s p := by
 obtain ⟨VR, VW, VQ, k, f⟩ := h
 exact ⟨VR, VW, VQ, k.below hb, f⟩
theorem XrS.put {u : World} {B b : Nat} {s : Sv} {p : Sa} (h : XrS u B s p) (hz : SzP s p) (hzo : SzO p) (hB : B ≤ b) {x y z m : Value} (hx : Box4 u b 28 x y z m) :
  XIs ((((u.setCell ⟨b, 0, none⟩ (.slice p.a s.n p.ca)).setCell ⟨b, 1, none⟩ (.int .i64 s.t)).setCell ⟨b, 2, none⟩ (.slice p.b s.m p.cb)).setCell ⟨b, 3, none⟩ (.slice p.d s.l p.cd)) B b s p := by
 obtain ⟨VR, VW, VQ, k, f⟩ := h
 exact XIs.put k rfl rfl rfl f hz hzo hB hx
theorem StepS.nn {s s' : Sv} {a : Qa} {c : Int} (hs : StepS s a s' c) : s'.n = s.n := by
 rcases hs with ⟨_, rfl, _⟩ | ⟨_, q⟩
 ·rfl
 ·exact q.n
theorem StepS.booted {s s' : Sv} {k : Nat} {z c : Int} (h : StepS s ⟨6, k, z⟩ s' c) (ht : s.t < 200) (hk : k < s.n) : (s'.R k).mute = true ∧ c = 0 := by
 have bm : ∀ r : Rp, ∀ y, (r.boot y).mute = true := fun r y => by cases y <;> rfl
 by_cases hm : 0 < s.m ∧ (s.W (s.m - 1)).en = -1
 ·have g : StepS s ⟨6, k, z⟩ _ 0 := .inr ⟨ht, ActS.restartW (s := { s with t := s.t + 1 }) (a := ⟨6, k, z⟩) k hk rfl rfl hm.1 hm.2⟩
  obtain ⟨rfl, rfl⟩ := h.uniq g
  exact ⟨by show (updE s.R k _ k).mute = true; rw [updE_at, if_pos rfl]; exact bm _ _, rfl⟩
 ·have g : StepS s ⟨6, k, z⟩ _ 0 := .inr ⟨ht, ActS.restart (s := { s with t := s.t + 1 }) (a := ⟨6, k, z⟩) k hk rfl rfl hm⟩
  obtain ⟨rfl, rfl⟩ := h.uniq g
  exact ⟨by show (updE s.R k _ k).mute = true; rw [updE_at, if_pos rfl]; exact bm _ _, rfl⟩
structure RvI (s : Sv) (n k : Nat) (L : Int) : Prop where
 ok : RunOk s
 e : s.n = n
 l : k < n
 t : ToldInv s L k
theorem RvI.step {s s' : Sv} {n k : Nat} {L c : Int} {a : Qa} (h : RvI s n k L) (hs : StepS s a s' c) : RvI s' n k L := ⟨hs.ok h.ok, hs.nn.trans h.e, h.l, h.t.step h.ok.1 hs⟩
theorem RvI.has {s : Sv} {n k : Nat} {L : Int} (h : RvI s n k L) : (s.R k).mute = true ∨ L ≤ (s.R k).nc := h.t.has h.ok.1 (by rw [h.e]; exact h.l)
end Go.Proofs.Ytedncfcmhaaobaa
