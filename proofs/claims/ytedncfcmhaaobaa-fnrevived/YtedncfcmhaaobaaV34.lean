/-
  Texts of the proof, joined: QuP0.
-/
import Derived.Test.YtedncfcmhaaobaaV29
import Derived.Test.YtedncfcmhaaobaaV32
import Derived.Test.YtedncfcmhaaobaaV33
import Derived.Test.YtedncfcmhaaobaaV21
import Derived.Test.YtedncfcmhaaobaaV19
import Derived.Test.YtedncfcmhaaobaaV07
import Derived.Test.YtedncfcmhaaobaaV06
namespace Go.Proofs.Ytedncfcmhaaobaa
open Go.ChangeShapes Go.WideShapes Go.ChangeAt Go.RowKit
set_option linter.unusedVariables false
def RetR (B : Nat) (s : Sv) (a : Qa) (e : Ending) (w : World) : Prop := ∃ s' c vr vw vq VR VW VQ, ActS s a s' c ∧ e = .returned (.tuple #[.agg #[vr, .int .i64 s'.t, vw, vq], .int .i64 c]) ∧ SvO w B s' vr vw vq VR VW VQ ∧ SvD s' VR VW VQ
def NA (g : Nat) : Prop := True
theorem SvP.made {w : World} {B b : Nat} {s : Sv} {vr vw vq : Value} {VR VW VQ : Nat → Value} (h0 : B ≤ b) (x : Box4 w b 28 vr (.int .i64 s.t) vw vq) (o : SvO w B s vr vw vq VR VW VQ) (d : SvD s VR VW VQ) : SvP NA w B b s vr vw vq VR VW VQ :=
 ⟨h0, x, o, d, ⟨fun _ _ => trivial, trivial, fun _ _ => trivial, fun _ _ => trivial, fun _ _ => trivial, fun _ _ _ _ => trivial, fun _ _ _ _ => trivial, fun _ _ _ _ => trivial⟩⟩
theorem SvP.nbW {N : Nat → Prop} {w : World} {B b : Nat} {s : Sv} {vr vw vq : Value} {VR VW VQ : Nat → Value} (P : SvP N w B b s vr vw vq VR VW VQ) {k : Nat} (hk : k < s.m) {q : Nat} {t : TypeId} {m : Nat} {f : Nat → Value} (hx : w.rowIs q t m f) (h1 : t ≠ 37) (h2 : t ≠ 3) : ¬ PR vw VW k q := fun z => z.elim (fun z => P.o.x.notIs hx h1 z) (fun z => EO.notIs (P.o.a k hk) hx h2 z)
theorem SvP.nbQ {N : Nat → Prop} {w : World} {B b : Nat} {s : Sv} {vr vw vq : Value} {VR VW VQ : Nat → Value} (P : SvP N w B b s vr vw vq VR VW VQ) {k : Nat} (hk : k < s.l) {q : Nat} {t : TypeId} {m : Nat} {f : Nat → Value} (hx : w.rowIs q t m f) (h1 : t ≠ 90) (h2 : t ≠ 3) : ¬ PR vq VQ k q := fun z => z.elim (fun z => P.o.q.notIs hx h1 z) (fun z => EO.notIs (P.o.f k hk) hx h2 z)
theorem SvP.nbG {N : Nat → Prop} {w : World} {B b : Nat} {s : Sv} {vr vw vq : Value} {VR VW VQ : Nat → Value} (P : SvP N w B b s vr vw vq VR VW VQ) {g : Nat} (hg : vr.ownBlock = some g ∨ vw.ownBlock = some g ∨ vq.ownBlock = some g) {q : Nat} {t : TypeId} {m : Nat} {f : Nat → Value} (hx : w.rowIs q t m f) (h1 : t ≠ 43) (h2 : t ≠ 37) (h3 : t ≠ 90) : ¬ PG g q := fun z => by
 unfold PG at z
 subst z
 rcases hg with h | h | h
 ·exact P.o.r.notIs hx h1 h
 ·exact P.o.x.notIs hx h2 h
 ·exact P.o.q.notIs hx h3 h
theorem SvP.blk {N : Nat → Prop} {w : World} {B b : Nat} {s : Sv} {vr vw vq : Value} {VR VW VQ : Nat → Value} (P : SvP N w B b s vr vw vq VR VW VQ) {g : Nat} (hg : vr.ownBlock = some g ∨ vw.ownBlock = some g ∨ vq.ownBlock = some g) : B ≤ g := by
 rcases hg with h | h | h
 ·exact (P.o.r.ge g h).1
 ·exact (P.o.x.ge g h).1
 ·exact (P.o.q.ge g h).1
theorem SvO.res {w : World} {B rb : Nat} {s : Sv} {vr vw vq : Value} {VR VW VQ : Nat → Value} (h : SvO w B s vr vw vq VR VW VQ) {x y z u : Value} (hx : Box4 w rb 28 x y z u) (a b c d : Value) : SvO ((((w.setCell ⟨rb, 0, none⟩ a).setCell ⟨rb, 1, none⟩ b).setCell ⟨rb, 2, none⟩ c).setCell ⟨rb, 3, none⟩ d) B s vr vw vq VR VW VQ := by
 have kp : ∀ g, g ≠ rb → ((((w.setCell ⟨rb, 0, none⟩ a).setCell ⟨rb, 1, none⟩ b).setCell ⟨rb, 2, none⟩ c).setCell ⟨rb, 3, none⟩ d).heap[g]? = w.heap[g]? := fun g hg => (Below.heap_setCell _ ⟨rb, 3, none⟩ _ g hg).trans ((Below.heap_setCell _ ⟨rb, 2, none⟩ _ g hg).trans ((Below.heap_setCell _ ⟨rb, 1, none⟩ _ g hg).trans (Below.heap_setCell _ ⟨rb, 0, none⟩ _ g hg)))
 exact ⟨h.r.keep (fun g e => kp g (fun z => h.r.notB4 hx (by decide) (z ▸ e))), h.x.keep (fun g e => kp g (fun z => h.x.notB4 hx (by decide) (z ▸ e))), h.q.keep (fun g e => kp g (fun z => h.q.notB4 hx (by decide) (z ▸ e))), fun i hi => EO.keep (h.e i hi) (fun g e => kp g (fun z => EO.notB4 (h.e i hi) hx (by decide) (z ▸ e))), fun i hi => EO.keep (h.a i hi) (fun g e => kp g (fun z => EO.notB4 (h.a i hi) hx (by decide) (z ▸ e))), fun i hi => EO.keep (h.f i hi) (fun g e => kp g (fun z => EO.notB4 (h.f i hi) hx (by decide) (z ▸ e)))⟩
theorem below_res {w0 w : World} {B rb : Nat} (h : Below B w0 w) (hb : B ≤ rb) (a b c d : Value) : Below B w0 ((((w.setCell ⟨rb, 0, none⟩ a).setCell ⟨rb, 1, none⟩ b).setCell ⟨rb, 2, none⟩ c).setCell ⟨rb, 3, none⟩ d) := (((h.setCell (p := ⟨rb, 0, none⟩) hb _).setCell (p := ⟨rb, 1, none⟩) hb _).setCell (p := ⟨rb, 2, none⟩) hb _).setCell (p := ⟨rb, 3, none⟩) hb _
theorem retR_end {w : World} {B rb b : Nat} {s s' : Sv} {a : Qa} {c : Int} {N : Nat → Prop} {vr vw vq : Value} {VR VW VQ : Nat → Value} (h : ActS s a s' c) (P : SvP N w B b s' vr vw vq VR VW VQ) {x y z u : Value} (hx : Box4 w rb 28 x y z u) : RetR B s a (.returned (.tuple #[.agg #[vr, .int .i64 s'.t, vw, vq], .int .i64 c])) ((((w.setCell ⟨rb, 0, none⟩ vr).setCell ⟨rb, 1, none⟩ (.int .i64 s'.t)).setCell ⟨rb, 2, none⟩ vw).setCell ⟨rb, 3, none⟩ vq) := ⟨s', c, vr, vw, vq, VR, VW, VQ, h, rfl, P.o.res hx _ _ _ _, P.d⟩
theorem addE_new {m : Nat} {E : Nat → Int} {x : Int} (h : ¬ hasE m E x) : addE m E x = (m + 1, insE E (plcE x E m) x) := by
 unfold addE
 rw [if_neg h]
 rfl
end Go.Proofs.Ytedncfcmhaaobaa
