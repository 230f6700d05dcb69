/-
  Texts of the proof, joined: QuSp.
-/
import Derived.Test.YtedncfcmhaaobaaV30
import Derived.Test.YtedncfcmhaaobaaV34
import Derived.Test.YtedncfcmhaaobaaV35
import Derived.Test.YtedncfcmhaaobaaV36
import Derived.Test.YtedncfcmhaaobaaV37
import Derived.Test.YtedncfcmhaaobaaV38
import Derived.Test.YtedncfcmhaaobaaV39
import Derived.Deep.Cut
namespace Go.Proofs.Ytedncfcmhaaobaa
open Go.ChangeShapes Go.WideShapes Go.ChangeAt Go.RowKit
set_option linter.unusedVariables false
def slA2 : Value → Option Addr
 | .slice a _ _ => a
 | _ => none
def slX2 : Value → Nat
 | .slice _ _ c => c
 | _ => 0
theorem SvO.vz {w : World} {B : Nat} {s : Sv} {vr vw vq : Value} {VR VW VQ : Nat → Value} (h : SvO w B s vr vw vq VR VW VQ) : ∃ p : Sa, vr = .slice p.a s.n p.ca ∧ vw = .slice p.b s.m p.cb ∧ vq = .slice p.d s.l p.cd ∧ (∀ w' : World, SvO w' B s vr vw vq VR VW VQ → SvV w' s p) ∧ SzP s p := by
 obtain ⟨ra, rc, rfl⟩ := h.r.form
 obtain ⟨wa, wc, rfl⟩ := h.x.form
 obtain ⟨qa, qc, rfl⟩ := h.q.form
 have fe : ∀ i, i < s.n → VR i = .slice (slA2 (VR i)) (s.R i).ne (slX2 (VR i)) := fun i hi => by
  obtain ⟨a, c, e⟩ := EO.form (h.e i hi)
  rw [e]
  rfl
 have fa : ∀ i, i < s.m → VW i = .slice (slA2 (VW i)) (s.W i).ne (slX2 (VW i)) := fun i hi => by
  obtain ⟨a, c, e⟩ := EO.form (h.a i hi)
  rw [e]
  rfl
 have ff : ∀ i, i < s.l → VQ i = .slice (slA2 (VQ i)) (s.Q i).ne (slX2 (VQ i)) := fun i hi => by
  obtain ⟨a, c, e⟩ := EO.form (h.f i hi)
  rw [e]
  rfl
 have ge : ∀ (w' : World), SvO w' B s (.slice ra s.n rc) (.slice wa s.m wc) (.slice qa s.l qc) VR VW VQ → ∀ i, i < s.n → IE w' B (.slice (slA2 (VR i)) (s.R i).ne (slX2 (VR i))) (s.R i).ne (s.R i).E := fun w' h i hi => by rw [← fe i hi]; exact h.e i hi
 have ga : ∀ (w' : World), SvO w' B s (.slice ra s.n rc) (.slice wa s.m wc) (.slice qa s.l qc) VR VW VQ → ∀ i, i < s.m → IE w' B (.slice (slA2 (VW i)) (s.W i).ne (slX2 (VW i))) (s.W i).ne (s.W i).E := fun w' h i hi => by rw [← fa i hi]; exact h.a i hi
 have gf : ∀ (w' : World), SvO w' B s (.slice ra s.n rc) (.slice wa s.m wc) (.slice qa s.l qc) VR VW VQ → ∀ i, i < s.l → IE w' B (.slice (slA2 (VQ i)) (s.Q i).ne (slX2 (VQ i))) (s.Q i).ne (s.Q i).E := fun w' h i hi => by rw [← ff i hi]; exact h.f i hi
 refine ⟨⟨ra, wa, qa, fun i => slA2 (VR i), fun i => slA2 (VW i), fun i => slA2 (VQ i), fun i => slX2 (VR i), fun i => slX2 (VW i), fun i => slX2 (VQ i), rc, wc, qc⟩, rfl, rfl, rfl, fun w' k => ⟨⟨k.r.els.congr (fun i hi j hj => ?_), fun i hi => IE.num (ge w' k i hi)⟩, ⟨k.x.els.congr (fun i hi j hj => ?_), fun i hi => IE.num (ga w' k i hi)⟩, ⟨k.q.els.congr (fun i hi j hj => ?_), fun i hi => IE.num (gf w' k i hi)⟩⟩, fun i hi e => EO.zero (ge w h i hi) e, fun i hi e => EO.zero (ga w h i hi) e, fun i hi e => EO.zero (gf w h i hi) e⟩
 ·unfold rpF
  exact congrArg (fun v => rpV _ v j) (fe i hi)
 ·unfold woF
  exact congrArg (fun v => woV _ v j) (fa i hi)
 ·unfold roF
  exact congrArg (fun v => roV _ v j) (ff i hi)
theorem SvO.keepAll {w w' : World} {B : Nat} {s : Sv} {vr vw vq : Value} {VR VW VQ : Nat → Value} (h : SvO w B s vr vw vq VR VW VQ) (e : ∀ g, B ≤ g → g < w.heap.size → w'.heap[g]? = w.heap[g]?) : SvO w' B s vr vw vq VR VW VQ :=
 ⟨h.r.keep (fun g x => e g (h.r.ge g x).1 (h.r.ge g x).2), h.x.keep (fun g x => e g (h.x.ge g x).1 (h.x.ge g x).2), h.q.keep (fun g x => e g (h.q.ge g x).1 (h.q.ge g x).2), fun i hi => EO.keep (h.e i hi) (fun g x => e g (EO.ge (h.e i hi) g x).1 (EO.ge (h.e i hi) g x).2), fun i hi => EO.keep (h.a i hi) (fun g x => e g (EO.ge (h.a i hi) g x).1 (EO.ge (h.a i hi) g x).2), fun i hi => EO.keep (h.f i hi) (fun g x => e g (EO.ge (h.f i hi) g x).1 (EO.ge (h.f i hi) g x).2)⟩
def RetM (B : Nat) (s : Sv) (q : Sa) (a : Qa) (e : Ending) (w : World) : Prop := ∃ (s' : Sv) (c : Int) (p : Sa), StepS s a s' c ∧ e = .returned (.tuple #[.agg #[.slice p.a s'.n p.ca, .int .i64 s'.t, .slice p.b s'.m p.cb, .slice p.d s'.l p.cd], .int .i64 c]) ∧ SvV w s' p ∧ SzP s' p ∧ ((s' = s ∧ p = q) ∨ ∀ w' : World, (∀ g, B ≤ g → g < w.heap.size → w'.heap[g]? = w.heap[g]?) → SvV w' s' p)
theorem retM_of {w : World} {B B0 rb : Nat} {s s' : Sv} {q : Sa} {a : Qa} {c : Int} {vr vw vq : Value} {VR VW VQ : Nat → Value} (hB : B0 ≤ B) (h : StepS s a s' c) (ho : SvO w B s' vr vw vq VR VW VQ) {x y z u : Value} (hx : Box4 w rb 28 x y z u) (a1 a2 a3 a4 : Value) : RetM B0 s q a (.returned (.tuple #[.agg #[vr, .int .i64 s'.t, vw, vq], .int .i64 c])) ((((w.setCell ⟨rb, 0, none⟩ a1).setCell ⟨rb, 1, none⟩ a2).setCell ⟨rb, 2, none⟩ a3).setCell ⟨rb, 3, none⟩ a4) := by
 have hr := ho.res hx a1 a2 a3 a4
 obtain ⟨p, rfl, rfl, rfl, hv, hz⟩ := hr.vz
 exact ⟨s', c, p, h, rfl, hv _ hr, hz, .inr (fun w' k => hv w' (hr.keepAll (fun g h1 h2 => k g (Nat.le_trans hB h1) h2)))⟩
theorem tagM (a : Int) : max 0 (min 1000000 a) = (if a < 0 then 0 else if 1000000 < a then 1000000 else a) := by
 split
 ·rw [Int.min_eq_right (by omega), Int.max_eq_left (by omega)]
 ·split
  ·rw [Int.min_eq_left (by omega), Int.max_eq_right (by omega)]
  ·rw [Int.min_eq_right (by omega), Int.max_eq_right (by omega)]
theorem SvP.timeM {w : World} {B b : Nat} {s : Sv} {vr vw vq : Value} {VR VW VQ : Nat → Value} (h : SvP NA w B b s vr vw vq VR VW VQ) (T : Int) : SvP NA (w.setCell ⟨b, 1, none⟩ (.int .i64 T)) B b { s with t := T } vr vw vq VR VW VQ := by
 have kp : ∀ g : Nat, g ≠ b → (w.setCell ⟨b, 1, none⟩ (.int .i64 T)).heap[g]? = w.heap[g]? := fun g e => Below.heap_setCell w ⟨b, 1, none⟩ _ g e
 exact SvP.made h.h0 (h.x.set1 _) ⟨h.o.r.keep (fun g e => kp g (fun z => h.o.r.notB4 h.x (by decide) (z ▸ e))), h.o.x.keep (fun g e => kp g (fun z => h.o.x.notB4 h.x (by decide) (z ▸ e))), h.o.q.keep (fun g e => kp g (fun z => h.o.q.notB4 h.x (by decide) (z ▸ e))), fun i hi => EO.keep (h.o.e i hi) (fun g e => kp g (fun z => EO.notB4 (h.o.e i hi) h.x (by decide) (z ▸ e))), fun i hi => EO.keep (h.o.a i hi) (fun g e => kp g (fun z => EO.notB4 (h.o.a i hi) h.x (by decide) (z ▸ e))), fun i hi => EO.keep (h.o.f i hi) (fun g e => kp g (fun z => EO.notB4 (h.o.f i hi) h.x (by decide) (z ▸ e)))⟩ h.d
theorem rep_any (B : Nat) (s : Sv) (K an : Int) (k : Nat) (hk : k < s.n) (hK : K = 2 ∨ K = 4 ∨ K = 5 ∨ K = 6 ∨ K = 7) (ok : s.Ok) (w : World) (hB : B ≤ w.heap.size) (vr vw vq : Value) (VR VW VQ : Nat → Value) (ho : SvO w B s vr vw vq VR VW VQ) (hd : SvD s VR VW VQ) :
  Calls Try.prog 74 #[.agg #[vr, .int .i64 s.t, vw, vq], .agg #[.int .i64 K, .int .i64 (k : Int), .int .i64 an]] w fun e w' => RetR B s ⟨K, k, an⟩ e w' ∧ Below B w w' := by
 rcases hK with rfl | rfl | rfl | rfl | rfl
 ·exact rep_store B s an k hk ok w hB vr vw vq VR VW VQ ho hd
 ·exact rep_reply B s an k hk ok w hB vr vw vq VR VW VQ ho hd
 ·exact rep_save B s an k hk ok w hB vr vw vq VR VW VQ ho hd
 ·exact rep_restart B s an k hk ok w hB vr vw vq VR VW VQ ho hd
 ·exact rep_echo B s an k hk ok w hB vr vw vq VR VW VQ ho hd
end Go.Proofs.Ytedncfcmhaaobaa
