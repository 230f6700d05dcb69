/-
  Texts of the proof, joined: QuXs.
-/
import Derived.Test.YtedncfcmhaaobaaZ41
import Derived.Test.YtedncfcmhaaobaaZ43
import Derived.Test.YtedncfcmhaaobaaZ18
namespace Go.Proofs.Ytedncfcmhaaobaa
open Go.ChangeShapes Go.WideShapes Go.ChangeAt Go.RowKit
set_option linter.unusedVariables false
structure OwP (u : World) (B : Nat) (s : Sv) (p : Sa) (VR VW VQ : Nat → Value) : Prop where
 o : SvO u B s (.slice p.a s.n p.ca) (.slice p.b s.m p.cb) (.slice p.d s.l p.cd) VR VW VQ
 d : SvD s VR VW VQ
 v : ∀ w' : World, SvO w' B s (.slice p.a s.n p.ca) (.slice p.b s.m p.cb) (.slice p.d s.l p.cd) VR VW VQ → SvV w' s p
theorem OwP.below {u u' : World} {B : Nat} {s : Sv} {p : Sa} {VR VW VQ : Nat → Value} (h : OwP u B s p VR VW VQ) (hb : Below u.heap.size u u') : OwP u' B s p VR VW VQ := ⟨h.o.below hb, h.d, h.v⟩
theorem SvO.keepGe {u u' : World} {B : Nat} {s : Sv} {vr vw vq : Value} {VR VW VQ : Nat → Value} (h : SvO u B s vr vw vq VR VW VQ) (hk : ∀ g, B ≤ g → g < u.heap.size → u'.heap[g]? = u.heap[g]?) : SvO u' B s vr vw vq VR VW VQ :=
 ⟨h.r.keep (fun g e => hk g (h.r.ge g e).1 (h.r.ge g e).2), h.x.keep (fun g e => hk g (h.x.ge g e).1 (h.x.ge g e).2), h.q.keep (fun g e => hk g (h.q.ge g e).1 (h.q.ge g e).2), fun i hi => EO.keep (h.e i hi) (fun g e => hk g (EO.ge (h.e i hi) g e).1 (EO.ge (h.e i hi) g e).2), fun i hi => EO.keep (h.a i hi) (fun g e => hk g (EO.ge (h.a i hi) g e).1 (EO.ge (h.a i hi) g e).2), fun i hi => EO.keep (h.f i hi) (fun g e => hk g (EO.ge (h.f i hi) g e).1 (EO.ge (h.f i hi) g e).2)⟩
theorem OwP.keepGe {u u' : World} {B : Nat} {s : Sv} {p : Sa} {VR VW VQ : Nat → Value} (h : OwP u B s p VR VW VQ) (hk : ∀ g, B ≤ g → g < u.heap.size → u'.heap[g]? = u.heap[g]?) : OwP u' B s p VR VW VQ := ⟨h.o.keepGe hk, h.d, h.v⟩
theorem OwP.sv {u : World} {B : Nat} {s : Sv} {p : Sa} {VR VW VQ : Nat → Value} (h : OwP u B s p VR VW VQ) : SvV u s p := h.v _ h.o
theorem OwP.res {u : World} {B b : Nat} {s : Sv} {p : Sa} {VR VW VQ : Nat → Value} (h : OwP u B s p VR VW VQ) {x y z m : Value} (hx : Box4 u b 28 x y z m) (a1 a2 a3 a4 : Value) : OwP ((((u.setCell ⟨b, 0, none⟩ a1).setCell ⟨b, 1, none⟩ a2).setCell ⟨b, 2, none⟩ a3).setCell ⟨b, 3, none⟩ a4) B s p VR VW VQ := ⟨h.o.res hx _ _ _ _, h.d, h.v⟩
theorem RetSs.ow {B : Nat} {s : Sv} {a : Qa} {e : Ending} {w : World} (h : RetSs B s a e w) : ∃ (s' : Sv) (c : Int) (p : Sa) (VR VW VQ : Nat → Value), e = .returned (.tuple #[.agg #[.slice p.a s'.n p.ca, .int .i64 s'.t, .slice p.b s'.m p.cb, .slice p.d s'.l p.cd], .int .i64 c]) ∧ StIs s a s' c ∧ OwP w B s' p VR VW VQ := by
 obtain ⟨s', c, vr, vw, vq, VR, VW, VQ, rfl, hs, ho, hd⟩ := h
 obtain ⟨p, rfl, rfl, rfl, hv, hz, hzo⟩ := ho.vzo
 exact ⟨s', c, p, VR, VW, VQ, rfl, hs, ho, hd, hv⟩
theorem RetSs.mono {B B0 : Nat} {s : Sv} {a : Qa} {e : Ending} {w : World} (h : RetSs B s a e w) (hB : B0 ≤ B) : RetSs B0 s a e w := by
 obtain ⟨s', c, vr, vw, vq, VR, VW, VQ, he, hs, ho, hd⟩ := h
 exact ⟨s', c, vr, vw, vq, VR, VW, VQ, he, hs, ho.mono hB, hd⟩
theorem RetSs.owAt {B : Nat} {s s1 : Sv} {a : Qa} {c : Int} {e : Ending} {w : World} (h : RetSs B s a e w) (hs : StIs s a s1 c) : ∃ (p : Sa) (VR VW VQ : Nat → Value), e = .returned (.tuple #[.agg #[.slice p.a s1.n p.ca, .int .i64 s1.t, .slice p.b s1.m p.cb, .slice p.d s1.l p.cd], .int .i64 c]) ∧ OwP w B s1 p VR VW VQ := by
 obtain ⟨s', c', p, VR, VW, VQ, he, h1, h2⟩ := h.ow
 obtain ⟨rfl, rfl⟩ := h1.uniq hs
 exact ⟨p, VR, VW, VQ, he, h2⟩
theorem OwP.held {u : World} {B : Nat} {s : Sv} {p : Sa} {VR VW VQ : Nat → Value} (hm : s.max 300) (h : SvO u B (mkS s) (.slice p.a s.n p.ca) (.slice p.b s.m p.cb) (.slice p.d s.l p.cd) VR VW VQ) :
  Calls Try.prog 16 #[.agg #[.slice p.a s.n p.ca, .int .i64 s.t, .slice p.b s.m p.cb, .slice p.d s.l p.cd], .int .i64 1] u fun e w' => e = .returned (.int .i64 ((endS s : Nat) : Int)) ∧ Below u.heap.size u w' := by
 obtain ⟨p', e1, e2, e3, hv, _⟩ := h.vz
 rw [e1, e2, e3]
 exact heldSv_v s p' hm u (hv u h)
def saOf (s : Sv) (ga gb gd : Nat) (VA VB VD : Nat → Nat) : Sa := ⟨some ⟨ga, 0, none⟩, some ⟨gb, 0, none⟩, some ⟨gd, 0, none⟩, fun j => some ⟨VA j, 0, none⟩, fun j => some ⟨VB j, 0, none⟩, fun j => some ⟨VD j, 0, none⟩, fun j => (s.R j).ne, fun j => (s.W j).ne, fun j => (s.Q j).ne, s.n, s.m, s.l⟩
theorem saOf_z (s : Sv) (ga gb gd : Nat) (VA VB VD : Nat → Nat) : SzP s (saOf s ga gb gd VA VB VD) ∧ SzO (saOf s ga gb gd VA VB VD) := ⟨⟨fun i hi e => (by cases e), fun i hi e => (by cases e), fun i hi e => (by cases e)⟩, fun e => (by cases e), fun e => (by cases e), fun e => (by cases e)⟩
structure CpS (u : World) (B : Nat) (s : Sv) (ga gb gd : Nat) (VA VB VD : Nat → Nat) : Prop where
 a : RpO u B ga s.n s.R VA
 b : WoO u B gb s.m s.W VB
 d : RoO u B gd s.l s.Q VD
theorem CpS.below {u u' : World} {B : Nat} {s : Sv} {ga gb gd : Nat} {VA VB VD : Nat → Nat} (h : CpS u B s ga gb gd VA VB VD) (hb : Below u.heap.size u u') : CpS u' B s ga gb gd VA VB VD := ⟨h.a.below hb, h.b.below hb, h.d.below hb⟩
theorem CpS.v {u : World} {B : Nat} {s : Sv} {ga gb gd : Nat} {VA VB VD : Nat → Nat} (h : CpS u B s ga gb gd VA VB VD) : SvV u s (saOf s ga gb gd VA VB VD) := ⟨h.a.v, h.b.v, h.d.v⟩
end Go.Proofs.Ytedncfcmhaaobaa
