/-
  Texts of the proof, joined: QuXs.
-/
import Derived.Test.YtedncfcmhaaobaaY50
import Derived.Test.YtedncfcmhaaobaaY37
import Derived.Test.YtedncfcmhaaobaaY22
namespace Go.Proofs.Ytedncfcmhaaobaa
open Go.ChangeShapes Go.WideShapes Go.ChangeAt Go.RowKit
set_option linter.unusedVariables false
structure OwP (u : World) (B : Nat) (s : Sv) (p : Sa) (VR VW VQ : Nat → Value) : Prop where
 o : SvO u B s (.slice p.a s.n p.ca) (.slice p.b s.m p.cb) (.slice p.d s.l p.cd) VR VW VQ
 d : SvD s VR VW VQ
 v : ∀ w' : World, SvO w' B s (.slice p.a s.n p.ca) (.slice p.b s.m p.cb) (.slice p.d s.l p.cd) VR VW VQ → SvV w' s p
theorem OwP.below {u u' : World} {B : Nat} {s : Sv} {p : Sa} {VR VW VQ : Nat → Value} (h : OwP u B s p VR VW VQ) (hb : Below u.heap.size u u') : OwP u' B s p VR VW VQ := ⟨h.o.below hb, h.d, h.v⟩
theorem SvO.keepGe {u u' : World} {B : Nat} {s : Sv} {vr vw vq : Value} {VR VW VQ : Nat → Value} (h : SvO u B s vr vw vq VR VW VQ) (hk : ∀ g, B ≤ g → g < u.heap.size → u'.heap[g]? = u.heap[g]?) : SvO u' B s vr vw vq VR VW VQ :=
 ⟨h.r.keep (fun g e => hk g (h.r.ge g e).1 (h.r.ge g e).2), h.x.keep (fun g e => hk g (h.x.ge g e).1 (h.x.ge g e).2), h.q.keep (fun g e => hk g (h.q.ge g e).1 (h.q.ge g e).2), fun i hi => EO.keep (h.e i hi) (fun g e => hk g (EO.ge (h.e i hi) g e).1 (EO.ge (h.e i hi) g e).2), fun i hi => EO.keep (h.a i hi) (fun g e => hk g (EO.ge (h.a i hi) g e).1 (EO.ge (h.a i hi) g e).2), fun i hi => EO.keep (h.f i hi) (fun g e => hk g (EO.ge (h.f i hi) g e).1 (EO.ge (h.f i hi) g e).2)⟩
theorem OwP.keepGe {u u' : World} {B : Nat} {s : Sv} {p : Sa} {VR VW VQ : Nat → Value} (h : OwP u B s p VR VW VQ) (hk : ∀ g, B ≤ g → g < u.heap.size → u'.heap[g]? = u.heap[g]?) : OwP u' B s p VR VW VQ := ⟨h.o.keepGe hk, h.d, h.v⟩
theorem OwP.sv {u : World} {B : Nat} {s : Sv} {p : Sa} {VR VW VQ : Nat → Value} (h : OwP u B s p VR VW VQ) : SvV u s p := h.v _ h.o
theorem OwP.held {u : World} {B : Nat} {s : Sv} {p : Sa} {VR VW VQ : Nat → Value} (hm : s.max 300) (h : SvO u B (mkS s) (.slice p.a s.n p.ca) (.slice p.b s.m p.cb) (.slice p.d s.l p.cd) VR VW VQ) :
  Calls Try.prog 16 #[.agg #[.slice p.a s.n p.ca, .int .i64 s.t, .slice p.b s.m p.cb, .slice p.d s.l p.cd], .int .i64 1] u fun e w' => e = .returned (.int .i64 ((endS s : Nat) : Int)) ∧ Below u.heap.size u w' := by
 obtain ⟨p', e1, e2, e3, hv, _⟩ := h.vz
 rw [e1, e2, e3]
 exact heldSv_v s p' hm u (hv u h)
end Go.Proofs.Ytedncfcmhaaobaa
