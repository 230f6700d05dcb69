/-
  Texts of the proof, joined: QuSp, QuS6.
-/
import Derived.Test.YtedncfcmhaaobaaY34
import Derived.Test.YtedncfcmhaaobaaY36
import Derived.Test.YtedncfcmhaaobaaY41
import Derived.Test.YtedncfcmhaaobaaY39
import Derived.Test.YtedncfcmhaaobaaY40
import Derived.Test.YtedncfcmhaaobaaY42
import Derived.Deep.Cut
namespace Go.Proofs.Ytedncfcmhaaobaa
open Go.ChangeShapes Go.WideShapes Go.ChangeAt Go.RowKit
set_option linter.unusedVariables false
def slA2 : Value → Option Addr
 | .slice a _ _ => a
 | _ => none
def slX2 : Value → Nat
 | .slice _ _ c => c
 | _ => 0
theorem SvO.vz {w : World} {B : Nat} {s : Sv} {vr vw vq : Value} {VR VW VQ : Nat → Value} (h : SvO w B s vr vw vq VR VW VQ) : ∃ p : Sa, vr = .slice p.a s.n p.ca ∧ vw = .slice p.b s.m p.cb ∧ vq = .slice p.d s.l p.cd ∧ (∀ w' : World, SvO w' B s vr vw vq VR VW VQ → SvV w' s p) ∧ SzP s p := by
 obtain ⟨ra, rc, rfl⟩ := h.r.form
 obtain ⟨wa, wc, rfl⟩ := h.x.form
 obtain ⟨qa, qc, rfl⟩ := h.q.form
 have fe : ∀ i, i < s.n → VR i = .slice (slA2 (VR i)) (s.R i).ne (slX2 (VR i)) := fun i hi => by
  obtain ⟨a, c, e⟩ := EO.form (h.e i hi)
  rw [e]
  rfl
 have fa : ∀ i, i < s.m → VW i = .slice (slA2 (VW i)) (s.W i).ne (slX2 (VW i)) := fun i hi => by
  obtain ⟨a, c, e⟩ := EO.form (h.a i hi)
  rw [e]
  rfl
 have ff : ∀ i, i < s.l → VQ i = .slice (slA2 (VQ i)) (s.Q i).ne (slX2 (VQ i)) := fun i hi => by
  obtain ⟨a, c, e⟩ := EO.form (h.f i hi)
  rw [e]
  rfl
 have ge : ∀ (w' : World), SvO w' B s (.slice ra s.n rc) (.slice wa s.m wc) (.slice qa s.l qc) VR VW VQ → ∀ i, i < s.n → IE w' B (.slice (slA2 (VR i)) (s.R i).ne (slX2 (VR i))) (s.R i).ne (s.R i).E := fun w' h i hi => by rw [← fe i hi]; exact h.e i hi
 have ga : ∀ (w' : World), SvO w' B s (.slice ra s.n rc) (.slice wa s.m wc) (.slice qa s.l qc) VR VW VQ → ∀ i, i < s.m → IE w' B (.slice (slA2 (VW i)) (s.W i).ne (slX2 (VW i))) (s.W i).ne (s.W i).E := fun w' h i hi => by rw [← fa i hi]; exact h.a i hi
 have gf : ∀ (w' : World), SvO w' B s (.slice ra s.n rc) (.slice wa s.m wc) (.slice qa s.l qc) VR VW VQ → ∀ i, i < s.l → IE w' B (.slice (slA2 (VQ i)) (s.Q i).ne (slX2 (VQ i))) (s.Q i).ne (s.Q i).E := fun w' h i hi => by rw [← ff i hi]; exact h.f i hi
 refine ⟨⟨ra, wa, qa, fun i => slA2 (VR i), fun i => slA2 (VW i), fun i => slA2 (VQ i), fun i => slX2 (VR i), fun i => slX2 (VW i), fun i => slX2 (VQ i), rc, wc, qc⟩, rfl, rfl, rfl, fun w' k => ⟨⟨k.r.els.congr (fun i hi j hj => ?_), fun i hi => IE.num (ge w' k i hi)⟩, ⟨k.x.els.congr (fun i hi j hj => ?_), fun i hi => IE.num (ga w' k i hi)⟩, ⟨k.q.els.congr (fun i hi j hj => ?_), fun i hi => IE.num (gf w' k i hi)⟩⟩, fun i hi e => EO.zero (ge w h i hi) e, fun i hi e => EO.zero (ga w h i hi) e, fun i hi e => EO.zero (gf w h i hi) e⟩
 ·unfold rpF
  exact congrArg (fun v => rpV _ v j) (fe i hi)
 ·unfold woF
  exact congrArg (fun v => woV _ v j) (fa i hi)
 ·unfold roF
  exact congrArg (fun v => roV _ v j) (ff i hi)
theorem SvO.keepAll {w w' : World} {B : Nat} {s : Sv} {vr vw vq : Value} {VR VW VQ : Nat → Value} (h : SvO w B s vr vw vq VR VW VQ) (e : ∀ g, B ≤ g → g < w.heap.size → w'.heap[g]? = w.heap[g]?) : SvO w' B s vr vw vq VR VW VQ :=
 ⟨h.r.keep (fun g x => e g (h.r.ge g x).1 (h.r.ge g x).2), h.x.keep (fun g x => e g (h.x.ge g x).1 (h.x.ge g x).2), h.q.keep (fun g x => e g (h.q.ge g x).1 (h.q.ge g x).2), fun i hi => EO.keep (h.e i hi) (fun g x => e g (EO.ge (h.e i hi) g x).1 (EO.ge (h.e i hi) g x).2), fun i hi => EO.keep (h.a i hi) (fun g x => e g (EO.ge (h.a i hi) g x).1 (EO.ge (h.a i hi) g x).2), fun i hi => EO.keep (h.f i hi) (fun g x => e g (EO.ge (h.f i hi) g x).1 (EO.ge (h.f i hi) g x).2)⟩
def RetM (B : Nat) (s : Sv) (q : Sa) (a : Qa) (e : Ending) (w : World) : Prop := ∃ (s' : Sv) (c : Int) (p : Sa), StepS s a s' c ∧ e = .returned (.tuple #[.agg #[.slice p.a s'.n p.ca, .int .i64 s'.t, .slice p.b s'.m p.cb, .slice p.d s'.l p.cd], .int .i64 c]) ∧ SvV w s' p ∧ SzP s' p ∧ ((s' = s ∧ p = q) ∨ ∀ w' : World, (∀ g, B ≤ g → g < w.heap.size → w'.heap[g]? = w.heap[g]?) → SvV w' s' p)
theorem retM_of {w : World} {B B0 rb : Nat} {s s' : Sv} {q : Sa} {a : Qa} {c : Int} {vr vw vq : Value} {VR VW VQ : Nat → Value} (hB : B0 ≤ B) (h : StepS s a s' c) (ho : SvO w B s' vr vw vq VR VW VQ) {x y z u : Value} (hx : Box4 w rb 28 x y z u) (a1 a2 a3 a4 : Value) : RetM B0 s q a (.returned (.tuple #[.agg #[vr, .int .i64 s'.t, vw, vq], .int .i64 c])) ((((w.setCell ⟨rb, 0, none⟩ a1).setCell ⟨rb, 1, none⟩ a2).setCell ⟨rb, 2, none⟩ a3).setCell ⟨rb, 3, none⟩ a4) := by
 have hr := ho.res hx a1 a2 a3 a4
 obtain ⟨p, rfl, rfl, rfl, hv, hz⟩ := hr.vz
 exact ⟨s', c, p, h, rfl, hv _ hr, hz, .inr (fun w' k => hv w' (hr.keepAll (fun g h1 h2 => k g (Nat.le_trans hB h1) h2)))⟩
theorem tagM (a : Int) : max 0 (min 1000000 a) = (if a < 0 then 0 else if 1000000 < a then 1000000 else a) := by
 split
 ·rw [Int.min_eq_right (by omega), Int.max_eq_left (by omega)]
 ·split
  ·rw [Int.min_eq_left (by omega), Int.max_eq_right (by omega)]
  ·rw [Int.min_eq_right (by omega), Int.max_eq_right (by omega)]
theorem SvP.timeM {w : World} {B b : Nat} {s : Sv} {vr vw vq : Value} {VR VW VQ : Nat → Value} (h : SvP NA w B b s vr vw vq VR VW VQ) (T : Int) : SvP NA (w.setCell ⟨b, 1, none⟩ (.int .i64 T)) B b { s with t := T } vr vw vq VR VW VQ := by
 have kp : ∀ g : Nat, g ≠ b → (w.setCell ⟨b, 1, none⟩ (.int .i64 T)).heap[g]? = w.heap[g]? := fun g e => Below.heap_setCell w ⟨b, 1, none⟩ _ g e
 exact SvP.made h.h0 (h.x.set1 _) ⟨h.o.r.keep (fun g e => kp g (fun z => h.o.r.notB4 h.x (by decide) (z ▸ e))), h.o.x.keep (fun g e => kp g (fun z => h.o.x.notB4 h.x (by decide) (z ▸ e))), h.o.q.keep (fun g e => kp g (fun z => h.o.q.notB4 h.x (by decide) (z ▸ e))), fun i hi => EO.keep (h.o.e i hi) (fun g e => kp g (fun z => EO.notB4 (h.o.e i hi) h.x (by decide) (z ▸ e))), fun i hi => EO.keep (h.o.a i hi) (fun g e => kp g (fun z => EO.notB4 (h.o.a i hi) h.x (by decide) (z ▸ e))), fun i hi => EO.keep (h.o.f i hi) (fun g e => kp g (fun z => EO.notB4 (h.o.f i hi) h.x (by decide) (z ▸ e)))⟩ h.d
theorem rep_any (B : Nat) (s : Sv) (K an : Int) (k : Nat) (hk : k < s.n) (hK : K = 2 ∨ K = 4 ∨ K = 5 ∨ K = 6 ∨ K = 7) (ok : s.Ok) (w : World) (hB : B ≤ w.heap.size) (vr vw vq : Value) (VR VW VQ : Nat → Value) (ho : SvO w B s vr vw vq VR VW VQ) (hd : SvD s VR VW VQ) :
  Calls Try.prog 74 #[.agg #[vr, .int .i64 s.t, vw, vq], .agg #[.int .i64 K, .int .i64 (k : Int), .int .i64 an]] w fun e w' => RetR B s ⟨K, k, an⟩ e w' ∧ Below B w w' := by
 rcases hK with rfl | rfl | rfl | rfl | rfl
 ·exact rep_store B s an k hk ok w hB vr vw vq VR VW VQ ho hd
 ·exact rep_reply B s an k hk ok w hB vr vw vq VR VW VQ ho hd
 ·exact rep_save B s an k hk ok w hB vr vw vq VR VW VQ ho hd
 ·exact rep_restart B s an k hk ok w hB vr vw vq VR VW VQ ho hd
 ·exact rep_echo B s an k hk ok w hB vr vw vq VR VW VQ ho hd
end Go.Proofs.Ytedncfcmhaaobaa
namespace Go.Proofs.Ytedncfcmhaaobaa
open Go.ChangeShapes Go.WideShapes Go.ChangeAt Go.RowKit
set_option linter.unusedVariables false
set_option maxRecDepth 100000 in
set_option maxHeartbeats 8000000 in
theorem l09Step_any (s : Sv) (p : Sa) (ak ar an : Int) (rok : s.Ok) (w : World) (h : SvV w s p) (hzp : SzP s p) :
  Calls Try.prog 32 #[.agg #[.slice p.a s.n p.ca, .int .i64 s.t, .slice p.b s.m p.cb, .slice p.d s.l p.cd], .agg #[.int .i64 ak, .int .i64 ar, .int .i64 an]] w fun e w' => RetM w.heap.size s p ⟨ak, ar, an⟩ e w' ∧ Below w.heap.size w w' := by
 obtain ⟨pa, pb, pd, PA, PB, PD, PX, PY, PZ, ca, cb, cd⟩ := p
 have mx : s.max 1000 := by
  have n7 := rok.1.1.2
  refine ⟨⟨by omega, fun i hi => ?_⟩, ⟨by have := rok.1.2.2.1; omega, fun i hi => ?_⟩, by have := rok.1.2.2.2; omega, fun i hi => ?_⟩
  ·have := ids_le (rok.2.2.1 i hi).2.1; omega
  ·have := ids_le (rok.2.1 i hi).2.2.2.1; omega
  ·have := ids_le (rok.2.2.2 i hi).2.1; omega
 have OW : Hid (∀ u : World, SvV u s ⟨pa, pb, pd, PA, PB, PD, PX, PY, PZ, ca, cb, cd⟩ → Calls Try.prog 33 #[.agg #[.slice pa s.n ca, .int .i64 s.t, .slice pb s.m cb, .slice pd s.l cd]] u fun e w' => RetOw u.heap.size s e w' ∧ Below u.heap.size u w') := fun u hu => l09Own_any s ⟨pa, pb, pd, PA, PB, PD, PX, PY, PZ, ca, cb, cd⟩ mx u hu hzp
 have b3 : Below w.heap.size w (((w.alloc (.cells #[.slice pa s.n ca, .int .i64 s.t, .slice pb s.m cb, .slice pd s.l cd] 28)).alloc (.cells #[.int .i64 ak, .int .i64 ar, .int .i64 an] 41)).alloc (.cells #[.slice none 0 0, .int .i64 0, .slice none 0 0, .slice none 0 0] 28)) := (((Below.refl w.heap.size w).alloc (Nat.le_refl _) _).alloc (by simp) _).alloc (by simp; omega) _
 have HV : Hid (SvV (((w.alloc (.cells #[.slice pa s.n ca, .int .i64 s.t, .slice pb s.m cb, .slice pd s.l cd] 28)).alloc (.cells #[.int .i64 ak, .int .i64 ar, .int .i64 an] 41)).alloc (.cells #[.slice none 0 0, .int .i64 0, .slice none 0 0, .slice none 0 0] 28)) s ⟨pa, pb, pd, PA, PB, PD, PX, PY, PZ, ca, cb, cd⟩) := h.below b3
 have X0 : Hid (Box4 (((w.alloc (.cells #[.slice pa s.n ca, .int .i64 s.t, .slice pb s.m cb, .slice pd s.l cd] 28)).alloc (.cells #[.int .i64 ak, .int .i64 ar, .int .i64 an] 41)).alloc (.cells #[.slice none 0 0, .int .i64 0, .slice none 0 0, .slice none 0 0] 28)) w.heap.size 28 (.slice pa s.n ca) (.int .i64 s.t) (.slice pb s.m cb) (.slice pd s.l cd)) := ((Box4.madeAt rfl _ _ _ _ _).alloc _).alloc _
 have AB : Hid (Box3 (((w.alloc (.cells #[.slice pa s.n ca, .int .i64 s.t, .slice pb s.m cb, .slice pd s.l cd] 28)).alloc (.cells #[.int .i64 ak, .int .i64 ar, .int .i64 an] 41)).alloc (.cells #[.slice none 0 0, .int .i64 0, .slice none 0 0, .slice none 0 0] 28)) (w.heap.size + 1) 41 (.int .i64 ak) (.int .i64 ar) (.int .i64 an)) := (Box3.madeAt (by simp) _ _ _ _).alloc _
 have RB : Hid (Box4 (((w.alloc (.cells #[.slice pa s.n ca, .int .i64 s.t, .slice pb s.m cb, .slice pd s.l cd] 28)).alloc (.cells #[.int .i64 ak, .int .i64 ar, .int .i64 an] 41)).alloc (.cells #[.slice none 0 0, .int .i64 0, .slice none 0 0, .slice none 0 0] 28)) (w.heap.size + 1 + 1) 28 (.slice none 0 0) (.int .i64 0) (.slice none 0 0) (.slice none 0 0)) := Box4.madeAt (by simp) _ _ _ _ _
 have BV : Hid (Below w.heap.size w (((w.alloc (.cells #[.slice pa s.n ca, .int .i64 s.t, .slice pb s.m cb, .slice pd s.l cd] 28)).alloc (.cells #[.int .i64 ak, .int .i64 ar, .int .i64 an] 41)).alloc (.cells #[.slice none 0 0, .int .i64 0, .slice none 0 0, .slice none 0 0] 28))) := b3
 have ZP : Hid (SzP s ⟨pa, pb, pd, PA, PB, PD, PX, PY, PZ, ca, cb, cd⟩) := hzp
 have RO : Hid s.Ok := rok
 have H0 : Hid (SvV w s ⟨pa, pb, pd, PA, PB, PD, PX, PY, PZ, ca, cb, cd⟩) := h
 dsimp only
 clear b3 h hzp mx rok
 go_enter Try.func32, Try.ntmps32
 go_upto_region 1 with fail
 generalize (((w.alloc (.cells #[.slice pa s.n ca, .int .i64 s.t, .slice pb s.m cb, .slice pd s.l cd] 28)).alloc (.cells #[.int .i64 ak, .int .i64 ar, .int .i64 an] 41)).alloc (.cells #[.slice none 0 0, .int .i64 0, .slice none 0 0, .slice none 0 0] 28)) = v at *
 obtain ⟨ab, hab⟩ : ∃ x, x = w.heap.size + 1 := ⟨_, rfl⟩
 obtain ⟨rb, hrb⟩ : ∃ x, x = w.heap.size + 1 + 1 := ⟨_, rfl⟩
 have DI : Hid (w.heap.size < ab ∧ ab < rb) := ⟨by omega, by omega⟩
 rw [← hrb, ← hab]
 rw [← hab] at AB
 rw [← hrb] at RB
 clear hab hrb
 have x0 := X0.out.c0
 have x1 := X0.out.c1
 have x2 := X0.out.c2
 have x3 := X0.out.c3
 go_wp2_with fail
 refine (OW.out _ HV.out).mono ?_
 rintro e v1 ⟨⟨vr, vw, vq, VR, VW, VQ, rfl, hO, hD⟩, hb⟩
 obtain ⟨ra, rc, rfl⟩ := hO.r.form
 obtain ⟨wa, wc, rfl⟩ := hO.x.form
 obtain ⟨qa, qc, rfl⟩ := hO.q.form
 clear x0 x1 x2 x3 OW
 have bA : Below v1.heap.size v1 (v1.alloc (.cells #[.slice ra s.n rc, .int .i64 s.t, .slice wa s.m wc, .slice qa s.l qc] 28)) := (Below.refl _ _).alloc (Nat.le_refl _) _
 have PV : Hid (SvP NA (v1.alloc (.cells #[.slice ra s.n rc, .int .i64 s.t, .slice wa s.m wc, .slice qa s.l qc] 28)) v.heap.size v1.heap.size s (.slice ra s.n rc) (.slice wa s.m wc) (.slice qa s.l qc) VR VW VQ) := SvP.made hb.size (Box4.madeAt rfl _ _ _ _ _) (hO.below bA) hD
 have hb2 : Below v.heap.size v (v1.alloc (.cells #[.slice ra s.n rc, .int .i64 s.t, .slice wa s.m wc, .slice qa s.l qc] 28)) := hb.trans (bA.mono hb.size)
 replace HV : Hid (SvV (v1.alloc (.cells #[.slice ra s.n rc, .int .i64 s.t, .slice wa s.m wc, .slice qa s.l qc] 28)) s ⟨pa, pb, pd, PA, PB, PD, PX, PY, PZ, ca, cb, cd⟩) := HV.out.below hb2
 replace X0 : Hid (Box4 (v1.alloc (.cells #[.slice ra s.n rc, .int .i64 s.t, .slice wa s.m wc, .slice qa s.l qc] 28)) w.heap.size 28 (.slice pa s.n ca) (.int .i64 s.t) (.slice pb s.m cb) (.slice pd s.l cd)) := X0.out.below hb2
 replace AB : Hid (Box3 (v1.alloc (.cells #[.slice ra s.n rc, .int .i64 s.t, .slice wa s.m wc, .slice qa s.l qc] 28)) ab 41 (.int .i64 ak) (.int .i64 ar) (.int .i64 an)) := AB.out.below hb2
 have RV : Hid (rb < v.heap.size) := RB.out.lt
 replace RB : Hid (Box4 (v1.alloc (.cells #[.slice ra s.n rc, .int .i64 s.t, .slice wa s.m wc, .slice qa s.l qc] 28)) rb 28 (.slice none 0 0) (.int .i64 0) (.slice none 0 0) (.slice none 0 0)) := RB.out.below hb2
 have WV : Hid (w.heap.size ≤ v.heap.size ∧ v.heap.size ≤ v1.heap.size) := ⟨BV.out.size, hb.size⟩
 replace BV : Hid (v.heap.size ≤ (v1.alloc (.cells #[.slice ra s.n rc, .int .i64 s.t, .slice wa s.m wc, .slice qa s.l qc] 28)).heap.size ∧ Below w.heap.size w (v1.alloc (.cells #[.slice ra s.n rc, .int .i64 s.t, .slice wa s.m wc, .slice qa s.l qc] 28))) := ⟨hb2.size, BV.out.trans (hb2.mono BV.out.size)⟩
 clear hO hD hb bA hb2
 go_upto_region 2 with fail
 generalize (v1.alloc (.cells #[.slice ra s.n rc, .int .i64 s.t, .slice wa s.m wc, .slice qa s.l qc] 28)) = v2 at *
 obtain ⟨ob, hob⟩ : ∃ x, x = v1.heap.size := ⟨_, rfl⟩
 rw [← hob] at PV WV ⊢
 clear hob
 have c1 := PV.out.x.c1
 have t200 : s.t ≤ 200 := RO.out.1.2.1.2
 have t0 : 0 ≤ s.t := RO.out.1.2.1.1
 by_cases ht : s.t = 200
 ·have hb200 : (s.t == 200) = true := by simp [ht]
  have HT : Hid (s.t = 200) := ht
  clear ht t200 t0
  go_upto_region 3 with fail
  clear c1
  have x0 := X0.out.c0
  have x1 := X0.out.c1
  have x2 := X0.out.c2
  have x3 := X0.out.c3
  have y0 := RB.out.c0
  have y1 := RB.out.c1
  have y2 := RB.out.c2
  have y3 := RB.out.c3
  have u0 := RB.out.fr 0
  have u1 := RB.out.fr 1
  have u2 := RB.out.fr 2
  have u3 := RB.out.fr 3
  have X9 : Hid (Box4 ((((v2.setCell ⟨rb, 0, none⟩ (.slice pa s.n ca)).setCell ⟨rb, 1, none⟩ (.int .i64 s.t)).setCell ⟨rb, 2, none⟩ (.slice pb s.m cb)).setCell ⟨rb, 3, none⟩ (.slice pd s.l cd)) rb 28 (.slice pa s.n ca) (.int .i64 s.t) (.slice pb s.m cb) (.slice pd s.l cd)) := (((RB.out.set0 _).set1 _).set2 _).set3 _
  have B9 : Hid (Below w.heap.size w ((((v2.setCell ⟨rb, 0, none⟩ (.slice pa s.n ca)).setCell ⟨rb, 1, none⟩ (.int .i64 s.t)).setCell ⟨rb, 2, none⟩ (.slice pb s.m cb)).setCell ⟨rb, 3, none⟩ (.slice pd s.l cd))) := below_res BV.out.2 (by have := DI.out; omega) _ _ _ _
  have Q9 : Hid (RetM w.heap.size s ⟨pa, pb, pd, PA, PB, PD, PX, PY, PZ, ca, cb, cd⟩ ⟨ak, ar, an⟩ (.returned (.tuple #[.agg #[.slice pa s.n ca, .int .i64 s.t, .slice pb s.m cb, .slice pd s.l cd], .int .i64 7])) ((((v2.setCell ⟨rb, 0, none⟩ (.slice pa s.n ca)).setCell ⟨rb, 1, none⟩ (.int .i64 s.t)).setCell ⟨rb, 2, none⟩ (.slice pb s.m cb)).setCell ⟨rb, 3, none⟩ (.slice pd s.l cd))) := ⟨s, 7, ⟨pa, pb, pd, PA, PB, PD, PX, PY, PZ, ca, cb, cd⟩, .inl ⟨HT.out, rfl, rfl⟩, rfl, H0.out.below B9.out, ZP.out, .inl ⟨rfl, rfl⟩⟩
  clear PV HV X0 AB RB BV ZP RO DI RV WV HT hb200 H0
  go_wp2
  exact ret_cell2 (b := rb) Try.results32 rfl rfl (Box4.loadsv X9.out) ⟨Q9.out, B9.out⟩
 ·have hb200 : (s.t == 200) = false := by simp; exact ht
  have OK : Hid ({ s with t := s.t + 1 } : Sv).Ok := RO.out.up (by omega)
  have ML : Hid (s.t < 200) := by show _ < _; omega
  obtain ⟨T, hT⟩ : ∃ x, x = s.t + 1 := ⟨_, rfl⟩
  have e1 : s.t + 1 = T := hT.symm
  have w1 : IntKind.i64.wrap T = T := IntWalk.i64_in _ (by omega)
  have HT : Hid (T = s.t + 1) := hT
  rw [← hT] at OK
  have f1 := PV.out.x.fr 1
  have P3 : Hid (SvP NA (v2.setCell ⟨ob, 1, none⟩ (.int .i64 T)) v.heap.size ob { s with t := T } (.slice ra s.n rc) (.slice wa s.m wc) (.slice qa s.l qc) VR VW VQ) := PV.out.timeM T
  have AB3 : Hid (Box3 (v2.setCell ⟨ob, 1, none⟩ (.int .i64 T)) ab 41 (.int .i64 ak) (.int .i64 ar) (.int .i64 an)) := AB.out.other (by have := DI.out; have := WV.out; have := RV.out; show ab ≠ ob; omega) _
  have RB3 : Hid (Box4 (v2.setCell ⟨ob, 1, none⟩ (.int .i64 T)) rb 28 (.slice none 0 0) (.int .i64 0) (.slice none 0 0) (.slice none 0 0)) := RB.out.other (by have := RV.out; have := WV.out; show rb ≠ ob; omega) _
  have B3 : Hid (v.heap.size ≤ (v2.setCell ⟨ob, 1, none⟩ (.int .i64 T)).heap.size ∧ Below w.heap.size w (v2.setCell ⟨ob, 1, none⟩ (.int .i64 T))) := ⟨by have := BV.out.1; simpa using this, BV.out.2.setCell (by have := WV.out; show w.heap.size ≤ ob; omega) _⟩
  have ST : Hid (∀ s' c, ActS { s with t := T } ⟨ak, ar, an⟩ s' c → StepS s ⟨ak, ar, an⟩ s' c) := fun s' c h => .inr ⟨ML.out, by rw [← HT.out]; exact h⟩
  clear PV AB RB BV X0 HV RO ht t200 t0 hT
  go_upto_region 5 with fail
  generalize (v2.setCell ⟨ob, 1, none⟩ (.int .i64 T)) = v3 at *
  clear c1 f1 e1 w1 hb200
  have x0 := AB3.out.c0
  by_cases k1 : ak = 1
  ·subst k1
   have c2 := P3.out.x.c2
   by_cases hm : 0 < s.m ∧ (s.W (s.m - 1)).en = -1
   ·obtain ⟨p, hp⟩ : ∃ p, p = s.m - 1 := ⟨_, rfl⟩
    have pm : p < s.m := by omega
    have ep : (s.m : Int) - 1 = (p : Int) := by omega
    have plt : (p : Int) < (s.m : Int) := by omega
    have m0 : (0 : Int) < (s.m : Int) := by omega
    have m200 : s.m ≤ 200 := OK.out.1.2.2.1
    have pw : IntKind.i64.wrap (p : Int) = (p : Int) := IntWalk.i64_in _ (by omega)
    have HM : Hid (0 < s.m ∧ (s.W (s.m - 1)).en = -1) := hm
    obtain ⟨gw, ew, -, -, KW⟩ := RkW.start P3.out.o.x pm
    subst ew
    have q4 : v3.cell? ⟨gw, p * 5 + 4, none⟩ = some (.int .i64 (-1)) := by have h9 := KW.c pm 4 (by omega); rw [h9]; show some (Value.int .i64 (s.W p).en) = _; rw [hp, hm.2]
    clear KW hm hp
    go_upto_region 9 with fail
    clear x0 c2 q4
    have PE := P3.out
    have RE : Box4 v3 rb 28 (.slice none 0 0) (.int .i64 0) (.slice none 0 0) (.slice none 0 0) := RB3.out
    have k0 := PE.x.c0
    have y0 := RE.c0
    have u0 := RE.fr 0
    have k1 := PE.x.c1
    have y1 := RE.c1
    have u1 := RE.fr 1
    have k2 := PE.x.c2
    have y2 := RE.c2
    have u2 := RE.fr 2
    have k3 := PE.x.c3
    have y3 := RE.c3
    have u3 := RE.fr 3
    have X9 : Hid (Box4 ((((v3.setCell ⟨rb, 0, none⟩ (.slice ra s.n rc)).setCell ⟨rb, 1, none⟩ (.int .i64 T)).setCell ⟨rb, 2, none⟩ (.slice (some ⟨gw, 0, none⟩) s.m wc)).setCell ⟨rb, 3, none⟩ (.slice qa s.l qc)) rb 28 (.slice ra s.n rc) (.int .i64 T) (.slice (some ⟨gw, 0, none⟩) s.m wc) (.slice qa s.l qc)) := (((RE.set0 _).set1 _).set2 _).set3 _
    have Q9 : Hid (RetM w.heap.size s ⟨pa, pb, pd, PA, PB, PD, PX, PY, PZ, ca, cb, cd⟩ _ (.returned (.tuple #[.agg #[.slice ra s.n rc, .int .i64 T, .slice (some ⟨gw, 0, none⟩) s.m wc, .slice qa s.l qc], .int .i64 9])) ((((v3.setCell ⟨rb, 0, none⟩ (.slice ra s.n rc)).setCell ⟨rb, 1, none⟩ (.int .i64 T)).setCell ⟨rb, 2, none⟩ (.slice (some ⟨gw, 0, none⟩) s.m wc)).setCell ⟨rb, 3, none⟩ (.slice qa s.l qc))) := retM_of WV.out.1 (s' := { s with t := T }) (ST.out _ _ (ActS.twice1 (a := ⟨1, ar, an⟩) rfl HM.out.1 HM.out.2)) PE.o RE _ _ _ _
    have B9 : Hid (Below w.heap.size w ((((v3.setCell ⟨rb, 0, none⟩ (.slice ra s.n rc)).setCell ⟨rb, 1, none⟩ (.int .i64 T)).setCell ⟨rb, 2, none⟩ (.slice (some ⟨gw, 0, none⟩) s.m wc)).setCell ⟨rb, 3, none⟩ (.slice qa s.l qc))) := below_res (B3.out.2) (by have := DI.out; omega) _ _ _ _
    clear PE RE P3 AB3 RB3 B3 OK DI RV WV ML H0 ZP ST HM
    go_wp2
    exact ret_cell2 (b := rb) Try.results32 rfl rfl (Box4.loadsv X9.out) ⟨Q9.out, B9.out⟩
   ·have HM : Hid (¬ (0 < s.m ∧ (s.W (s.m - 1)).en = -1)) := hm
    by_cases hm0 : 0 < s.m
    ·obtain ⟨p, hp⟩ : ∃ p, p = s.m - 1 := ⟨_, rfl⟩
     have pm : p < s.m := by omega
     have ep : (s.m : Int) - 1 = (p : Int) := by omega
     have plt : (p : Int) < (s.m : Int) := by omega
     have m0 : (0 : Int) < (s.m : Int) := by omega
     have m200 : s.m ≤ 200 := OK.out.1.2.2.1
     have pw : IntKind.i64.wrap (p : Int) = (p : Int) := IntWalk.i64_in _ (by omega)
     have hen : ¬ (s.W p).en = -1 := fun z => hm ⟨hm0, by rw [← hp]; exact z⟩
     have tm := (OK.out.2.1 p pm).2.2.2.2
     have hge : ¬ (s.W p).en < 0 := by have h1 := tm.1.1; have h2 := tm.2; dsimp only at h1 h2; omega
     obtain ⟨gw, ew, -, -, KW⟩ := RkW.start P3.out.o.x pm
     have q4 : v3.cell? ⟨gw, p * 5 + 4, none⟩ = some (.int .i64 (s.W p).en) := KW.c pm 4 (by omega)
     have c2' := c2
     rw [ew] at c2'
     clear KW hen tm hm0 hp
     clear c2
     have c2 := c2'
     clear c2'
     go_upto_region 10 with fail
     clear q4 c2 ew ep plt pw hge m0
     have c2 := P3.out.x.c2
     clear hm
     obtain ⟨M1, hM1⟩ : ∃ x, x = s.m + 1 := ⟨_, rfl⟩
     have e1 : (s.m : Int) + 1 = (M1 : Int) := by omega
     have w1 : IntKind.i64.wrap (M1 : Int) = (M1 : Int) := IntWalk.i64_in _ (by have : s.m ≤ 200 := OK.out.1.2.2.1; omega)
     obtain ⟨TG, hTG⟩ : ∃ x, x = (if an < 0 then 0 else if 1000000 < an then 1000000 else an) := ⟨_, rfl⟩
     have tC : max 0 (min 1000000 an) = TG := by rw [hTG]; exact tagM an
     have WN : Hid (woNew s.m an T = ⟨(M1 : Int), TG, 0, fun _ => 0, T, -1⟩) := by show _ = _; unfold woNew; rw [hTG, ← e1]
     have c1 := P3.out.x.c1
     have x2 := AB3.out.c2
     have hA1 : Below v3.heap.size v3 (v3.alloc (.cells #[] 3)) := (Below.refl _ _).alloc (Nat.le_refl _) _
     have c1L : (v3.alloc (.cells #[] 3)).cell? ⟨ob, 1, none⟩ = some (.int .i64 T) := (P3.out.x.below hA1).c1
     have hA2 : Below (v3.alloc (.cells #[] 3)).heap.size (v3.alloc (.cells #[] 3)) ((v3.alloc (.cells #[] 3)).alloc (.cells #[.int .i64 (M1 : Int), .int .i64 TG, .slice (some ⟨v3.heap.size, 0, none⟩) 0 0, .int .i64 T, .int .i64 (-1)] 37)) := (Below.refl _ _).alloc (Nat.le_refl _) _
     have hA : Below v3.heap.size v3 ((v3.alloc (.cells #[] 3)).alloc (.cells #[.int .i64 (M1 : Int), .int .i64 TG, .slice (some ⟨v3.heap.size, 0, none⟩) 0 0, .int .i64 T, .int .i64 (-1)] 37)) := hA1.trans (hA2.mono hA1.size)
     have z1 : (v3.alloc (.cells #[] 3)).heap.size = v3.heap.size + 1 := by simp
     obtain ⟨nv, v6, hr6, hE6, hg6, hl6⟩ := appWo ((v3.alloc (.cells #[] 3)).alloc (.cells #[.int .i64 (M1 : Int), .int .i64 TG, .slice (some ⟨v3.heap.size, 0, none⟩) 0 0, .int .i64 T, .int .i64 (-1)] 37)) v.heap.size (.slice wa s.m wc) s.m (v3.heap.size + 1) s.W VW (woNew s.m an T) (.slice (some ⟨v3.heap.size, 0, none⟩) 0 0) rfl (Nat.le_trans B3.out.1 hA.size) (by have : s.m ≤ 200 := OK.out.1.2.2.1; omega) (P3.out.o.x.below hA) (fun j hj => by rw [WN.out, Nat.zero_add, World.cell?_alloc_at (w := (v3.alloc (.cells #[] 3))) _ _ _ j z1.symm]; rcases (show j = 0 ∨ j = 1 ∨ j = 2 ∨ j = 3 ∨ j = 4 by omega) with rfl | rfl | rfl | rfl | rfl <;> rfl)
     obtain ⟨ua, uc, rfl⟩ := hE6.form
     have x6 : Box4 v6 ob 28 (.slice ra s.n rc) (.int .i64 T) (.slice wa s.m wc) (.slice qa s.l qc) := (P3.out.x.below hA).ofBlock (hg6.block _ (P3.out.x.below hA).lt (fun e => P3.out.o.x.notB4 P3.out.x (by decide) e.symm))
     have G7 : ∀ g, g < v3.heap.size → (Value.slice wa s.m wc).ownBlock ≠ some g → g ≠ ob → (v6.setCell ⟨ob, 2, none⟩ (.slice ua (s.m + 1) uc)).heap[g]? = v3.heap[g]? := fun g hg h1 h2 => (Below.heap_setCell v6 ⟨ob, 2, none⟩ _ g h2).trans ((hg6.block g (Nat.lt_of_lt_of_le hg hA.size) (fun e => h1 e.symm)).trans (hA.block g hg))
     have E7 : EO (v6.setCell ⟨ob, 2, none⟩ (.slice ua (s.m + 1) uc)) v.heap.size 37 5 (.slice ua (s.m + 1) uc) (s.m + 1) (woF (updE s.W s.m (woNew s.m an T)) (updE VW s.m (.slice (some ⟨v3.heap.size, 0, none⟩) 0 0))) := hE6.keep (fun g e => Below.heap_setCell v6 ⟨ob, 2, none⟩ _ g (fun z => hE6.notB4 x6 (by decide) (by have z' : g = ob := z; rw [z'] at e; exact e)))
     have lit : IE (v3.alloc (.cells #[] 3)) v.heap.size (.slice (some ⟨v3.heap.size, 0, none⟩) 0 0) 0 (fun _ => 0) := IE.lit v3 v.heap.size B3.out.1 _
     have litb := P3.out.x.lt
     have LI : IE (v6.setCell ⟨ob, 2, none⟩ (.slice ua (s.m + 1) uc)) v.heap.size (.slice (some ⟨v3.heap.size, 0, none⟩) 0 0) 0 (fun _ => 0) := EO.keep lit (fun g e => by
      have e' : v3.heap.size = g := Option.some.inj e
      subst e'
      exact (Below.heap_setCell v6 ⟨ob, 2, none⟩ _ _ (by show v3.heap.size ≠ ob; omega)).trans ((hg6.block _ (by have := hA2.size; omega) (fun e => by have := (P3.out.o.x.ge _ e.symm).2; omega)).trans (hA2.block _ (by omega))))
     have P7 := SvO.pushW (s := { s with t := T }) (r := woNew s.m an T) P3.out.x P3.out.o P3.out.d G7 E7 (by rw [WN.out]; exact LI) (fun g e => by have e' : v3.heap.size = g := Option.some.inj e; omega)
     have P8 : Hid (SvP NA (v6.setCell ⟨ob, 2, none⟩ (.slice ua (s.m + 1) uc)) v.heap.size ob { s with t := T, m := s.m + 1, W := updE s.W s.m (woNew s.m an T) } (.slice ra s.n rc) (.slice ua (s.m + 1) uc) (.slice qa s.l qc) VR (updE VW s.m (.slice (some ⟨v3.heap.size, 0, none⟩) 0 0)) VQ) := SvP.made P3.out.h0 (x6.set2 _) P7.1 P7.2
     have RB8 : Hid (Box4 (v6.setCell ⟨ob, 2, none⟩ (.slice ua (s.m + 1) uc)) rb 28 (.slice none 0 0) (.int .i64 0) (.slice none 0 0) (.slice none 0 0)) := RB3.out.ofBlock (G7 rb RB3.out.lt (fun e => P3.out.o.x.notB4 RB3.out (by decide) e) (by have := RV.out; have := WV.out; omega))
     have B8 : Hid (Below w.heap.size w (v6.setCell ⟨ob, 2, none⟩ (.slice ua (s.m + 1) uc))) := ((B3.out.2.trans (hA.mono B3.out.2.size)).trans ((Below.refl _ _).grown hg6 (Nat.le_trans B3.out.2.size hA.size) (fun g e => by have := (P3.out.o.x.ge g e).1; have := WV.out; omega))).setCell (by have := WV.out; show w.heap.size ≤ ob; omega) _
     have HAP : Hid _ := hr6
     have f2 := x6.fr 2
     have c26 := x6.c2
     clear hA1 hA2 hA z1 hr6 hE6 hg6 hl6 x6 G7 E7 lit litb LI P7 hM1 hTG
     go_upto_region 11 with (at_builtin; refine Lib.wpList_append_run _ rfl (.tmp 39) (.tmp 53) _ _ rfl _ _ rfl rfl _ _ (HAP.out _) ?_)
     clear HAP f2 c26 c1 c1L x2 x0 c2 P3 B3 AB3 RB3
     generalize (v6.setCell ⟨ob, 2, none⟩ (.slice ua (s.m + 1) uc)) = v7 at *
     have PE := P8.out
     have RE : Box4 v7 rb 28 (.slice none 0 0) (.int .i64 0) (.slice none 0 0) (.slice none 0 0) := RB8.out
     have k0 := PE.x.c0
     have y0 := RE.c0
     have u0 := RE.fr 0
     have k1 := PE.x.c1
     have y1 := RE.c1
     have u1 := RE.fr 1
     have k2 := PE.x.c2
     have y2 := RE.c2
     have u2 := RE.fr 2
     have k3 := PE.x.c3
     have y3 := RE.c3
     have u3 := RE.fr 3
     have X9 : Hid (Box4 ((((v7.setCell ⟨rb, 0, none⟩ (.slice ra s.n rc)).setCell ⟨rb, 1, none⟩ (.int .i64 T)).setCell ⟨rb, 2, none⟩ (.slice ua (s.m + 1) uc)).setCell ⟨rb, 3, none⟩ (.slice qa s.l qc)) rb 28 (.slice ra s.n rc) (.int .i64 T) (.slice ua (s.m + 1) uc) (.slice qa s.l qc)) := (((RE.set0 _).set1 _).set2 _).set3 _
     have Q9 : Hid (RetM w.heap.size s ⟨pa, pb, pd, PA, PB, PD, PX, PY, PZ, ca, cb, cd⟩ _ (.returned (.tuple #[.agg #[.slice ra s.n rc, .int .i64 T, .slice ua (s.m + 1) uc, .slice qa s.l qc], .int .i64 0])) ((((v7.setCell ⟨rb, 0, none⟩ (.slice ra s.n rc)).setCell ⟨rb, 1, none⟩ (.int .i64 T)).setCell ⟨rb, 2, none⟩ (.slice ua (s.m + 1) uc)).setCell ⟨rb, 3, none⟩ (.slice qa s.l qc))) := retM_of WV.out.1 (s' := { s with t := T, m := s.m + 1, W := updE s.W s.m (woNew s.m an T) }) (ST.out _ _ (ActS.begin (a := ⟨1, ar, an⟩) rfl HM.out)) PE.o RE _ _ _ _
     have B9 : Hid (Below w.heap.size w ((((v7.setCell ⟨rb, 0, none⟩ (.slice ra s.n rc)).setCell ⟨rb, 1, none⟩ (.int .i64 T)).setCell ⟨rb, 2, none⟩ (.slice ua (s.m + 1) uc)).setCell ⟨rb, 3, none⟩ (.slice qa s.l qc))) := below_res (B8.out) (by have := DI.out; omega) _ _ _ _
     clear PE RE P8 RB8 B8 OK DI RV WV ML H0 ZP ST HM WN
     go_wp2
     exact ret_cell2 (b := rb) Try.results32 rfl rfl (Box4.loadsv X9.out) ⟨Q9.out, B9.out⟩
    ·have hm1 : ¬ (0 : Int) < (s.m : Int) := by omega
     clear hm0
     go_upto_region 10 with fail
     clear hm1
     clear hm
     obtain ⟨M1, hM1⟩ : ∃ x, x = s.m + 1 := ⟨_, rfl⟩
     have e1 : (s.m : Int) + 1 = (M1 : Int) := by omega
     have w1 : IntKind.i64.wrap (M1 : Int) = (M1 : Int) := IntWalk.i64_in _ (by have : s.m ≤ 200 := OK.out.1.2.2.1; omega)
     obtain ⟨TG, hTG⟩ : ∃ x, x = (if an < 0 then 0 else if 1000000 < an then 1000000 else an) := ⟨_, rfl⟩
     have tC : max 0 (min 1000000 an) = TG := by rw [hTG]; exact tagM an
     have WN : Hid (woNew s.m an T = ⟨(M1 : Int), TG, 0, fun _ => 0, T, -1⟩) := by show _ = _; unfold woNew; rw [hTG, ← e1]
     have c1 := P3.out.x.c1
     have x2 := AB3.out.c2
     have hA1 : Below v3.heap.size v3 (v3.alloc (.cells #[] 3)) := (Below.refl _ _).alloc (Nat.le_refl _) _
     have c1L : (v3.alloc (.cells #[] 3)).cell? ⟨ob, 1, none⟩ = some (.int .i64 T) := (P3.out.x.below hA1).c1
     have hA2 : Below (v3.alloc (.cells #[] 3)).heap.size (v3.alloc (.cells #[] 3)) ((v3.alloc (.cells #[] 3)).alloc (.cells #[.int .i64 (M1 : Int), .int .i64 TG, .slice (some ⟨v3.heap.size, 0, none⟩) 0 0, .int .i64 T, .int .i64 (-1)] 37)) := (Below.refl _ _).alloc (Nat.le_refl _) _
     have hA : Below v3.heap.size v3 ((v3.alloc (.cells #[] 3)).alloc (.cells #[.int .i64 (M1 : Int), .int .i64 TG, .slice (some ⟨v3.heap.size, 0, none⟩) 0 0, .int .i64 T, .int .i64 (-1)] 37)) := hA1.trans (hA2.mono hA1.size)
     have z1 : (v3.alloc (.cells #[] 3)).heap.size = v3.heap.size + 1 := by simp
     obtain ⟨nv, v6, hr6, hE6, hg6, hl6⟩ := appWo ((v3.alloc (.cells #[] 3)).alloc (.cells #[.int .i64 (M1 : Int), .int .i64 TG, .slice (some ⟨v3.heap.size, 0, none⟩) 0 0, .int .i64 T, .int .i64 (-1)] 37)) v.heap.size (.slice wa s.m wc) s.m (v3.heap.size + 1) s.W VW (woNew s.m an T) (.slice (some ⟨v3.heap.size, 0, none⟩) 0 0) rfl (Nat.le_trans B3.out.1 hA.size) (by have : s.m ≤ 200 := OK.out.1.2.2.1; omega) (P3.out.o.x.below hA) (fun j hj => by rw [WN.out, Nat.zero_add, World.cell?_alloc_at (w := (v3.alloc (.cells #[] 3))) _ _ _ j z1.symm]; rcases (show j = 0 ∨ j = 1 ∨ j = 2 ∨ j = 3 ∨ j = 4 by omega) with rfl | rfl | rfl | rfl | rfl <;> rfl)
     obtain ⟨ua, uc, rfl⟩ := hE6.form
     have x6 : Box4 v6 ob 28 (.slice ra s.n rc) (.int .i64 T) (.slice wa s.m wc) (.slice qa s.l qc) := (P3.out.x.below hA).ofBlock (hg6.block _ (P3.out.x.below hA).lt (fun e => P3.out.o.x.notB4 P3.out.x (by decide) e.symm))
     have G7 : ∀ g, g < v3.heap.size → (Value.slice wa s.m wc).ownBlock ≠ some g → g ≠ ob → (v6.setCell ⟨ob, 2, none⟩ (.slice ua (s.m + 1) uc)).heap[g]? = v3.heap[g]? := fun g hg h1 h2 => (Below.heap_setCell v6 ⟨ob, 2, none⟩ _ g h2).trans ((hg6.block g (Nat.lt_of_lt_of_le hg hA.size) (fun e => h1 e.symm)).trans (hA.block g hg))
     have E7 : EO (v6.setCell ⟨ob, 2, none⟩ (.slice ua (s.m + 1) uc)) v.heap.size 37 5 (.slice ua (s.m + 1) uc) (s.m + 1) (woF (updE s.W s.m (woNew s.m an T)) (updE VW s.m (.slice (some ⟨v3.heap.size, 0, none⟩) 0 0))) := hE6.keep (fun g e => Below.heap_setCell v6 ⟨ob, 2, none⟩ _ g (fun z => hE6.notB4 x6 (by decide) (by have z' : g = ob := z; rw [z'] at e; exact e)))
     have lit : IE (v3.alloc (.cells #[] 3)) v.heap.size (.slice (some ⟨v3.heap.size, 0, none⟩) 0 0) 0 (fun _ => 0) := IE.lit v3 v.heap.size B3.out.1 _
     have litb := P3.out.x.lt
     have LI : IE (v6.setCell ⟨ob, 2, none⟩ (.slice ua (s.m + 1) uc)) v.heap.size (.slice (some ⟨v3.heap.size, 0, none⟩) 0 0) 0 (fun _ => 0) := EO.keep lit (fun g e => by
      have e' : v3.heap.size = g := Option.some.inj e
      subst e'
      exact (Below.heap_setCell v6 ⟨ob, 2, none⟩ _ _ (by show v3.heap.size ≠ ob; omega)).trans ((hg6.block _ (by have := hA2.size; omega) (fun e => by have := (P3.out.o.x.ge _ e.symm).2; omega)).trans (hA2.block _ (by omega))))
     have P7 := SvO.pushW (s := { s with t := T }) (r := woNew s.m an T) P3.out.x P3.out.o P3.out.d G7 E7 (by rw [WN.out]; exact LI) (fun g e => by have e' : v3.heap.size = g := Option.some.inj e; omega)
     have P8 : Hid (SvP NA (v6.setCell ⟨ob, 2, none⟩ (.slice ua (s.m + 1) uc)) v.heap.size ob { s with t := T, m := s.m + 1, W := updE s.W s.m (woNew s.m an T) } (.slice ra s.n rc) (.slice ua (s.m + 1) uc) (.slice qa s.l qc) VR (updE VW s.m (.slice (some ⟨v3.heap.size, 0, none⟩) 0 0)) VQ) := SvP.made P3.out.h0 (x6.set2 _) P7.1 P7.2
     have RB8 : Hid (Box4 (v6.setCell ⟨ob, 2, none⟩ (.slice ua (s.m + 1) uc)) rb 28 (.slice none 0 0) (.int .i64 0) (.slice none 0 0) (.slice none 0 0)) := RB3.out.ofBlock (G7 rb RB3.out.lt (fun e => P3.out.o.x.notB4 RB3.out (by decide) e) (by have := RV.out; have := WV.out; omega))
     have B8 : Hid (Below w.heap.size w (v6.setCell ⟨ob, 2, none⟩ (.slice ua (s.m + 1) uc))) := ((B3.out.2.trans (hA.mono B3.out.2.size)).trans ((Below.refl _ _).grown hg6 (Nat.le_trans B3.out.2.size hA.size) (fun g e => by have := (P3.out.o.x.ge g e).1; have := WV.out; omega))).setCell (by have := WV.out; show w.heap.size ≤ ob; omega) _
     have HAP : Hid _ := hr6
     have f2 := x6.fr 2
     have c26 := x6.c2
     clear hA1 hA2 hA z1 hr6 hE6 hg6 hl6 x6 G7 E7 lit litb LI P7 hM1 hTG
     go_upto_region 11 with (at_builtin; refine Lib.wpList_append_run _ rfl (.tmp 39) (.tmp 53) _ _ rfl _ _ rfl rfl _ _ (HAP.out _) ?_)
     clear HAP f2 c26 c1 c1L x2 x0 c2 P3 B3 AB3 RB3
     generalize (v6.setCell ⟨ob, 2, none⟩ (.slice ua (s.m + 1) uc)) = v7 at *
     have PE := P8.out
     have RE : Box4 v7 rb 28 (.slice none 0 0) (.int .i64 0) (.slice none 0 0) (.slice none 0 0) := RB8.out
     have k0 := PE.x.c0
     have y0 := RE.c0
     have u0 := RE.fr 0
     have k1 := PE.x.c1
     have y1 := RE.c1
     have u1 := RE.fr 1
     have k2 := PE.x.c2
     have y2 := RE.c2
     have u2 := RE.fr 2
     have k3 := PE.x.c3
     have y3 := RE.c3
     have u3 := RE.fr 3
     have X9 : Hid (Box4 ((((v7.setCell ⟨rb, 0, none⟩ (.slice ra s.n rc)).setCell ⟨rb, 1, none⟩ (.int .i64 T)).setCell ⟨rb, 2, none⟩ (.slice ua (s.m + 1) uc)).setCell ⟨rb, 3, none⟩ (.slice qa s.l qc)) rb 28 (.slice ra s.n rc) (.int .i64 T) (.slice ua (s.m + 1) uc) (.slice qa s.l qc)) := (((RE.set0 _).set1 _).set2 _).set3 _
     have Q9 : Hid (RetM w.heap.size s ⟨pa, pb, pd, PA, PB, PD, PX, PY, PZ, ca, cb, cd⟩ _ (.returned (.tuple #[.agg #[.slice ra s.n rc, .int .i64 T, .slice ua (s.m + 1) uc, .slice qa s.l qc], .int .i64 0])) ((((v7.setCell ⟨rb, 0, none⟩ (.slice ra s.n rc)).setCell ⟨rb, 1, none⟩ (.int .i64 T)).setCell ⟨rb, 2, none⟩ (.slice ua (s.m + 1) uc)).setCell ⟨rb, 3, none⟩ (.slice qa s.l qc))) := retM_of WV.out.1 (s' := { s with t := T, m := s.m + 1, W := updE s.W s.m (woNew s.m an T) }) (ST.out _ _ (ActS.begin (a := ⟨1, ar, an⟩) rfl HM.out)) PE.o RE _ _ _ _
     have B9 : Hid (Below w.heap.size w ((((v7.setCell ⟨rb, 0, none⟩ (.slice ra s.n rc)).setCell ⟨rb, 1, none⟩ (.int .i64 T)).setCell ⟨rb, 2, none⟩ (.slice ua (s.m + 1) uc)).setCell ⟨rb, 3, none⟩ (.slice qa s.l qc))) := below_res (B8.out) (by have := DI.out; omega) _ _ _ _
     clear PE RE P8 RB8 B8 OK DI RV WV ML H0 ZP ST HM WN
     go_wp2
     exact ret_cell2 (b := rb) Try.results32 rfl rfl (Box4.loadsv X9.out) ⟨Q9.out, B9.out⟩
  ·have g1 : (ak == 1) = false := by simp; exact k1
   by_cases k3 : ak = 3
   ·subst k3
    clear g1 k1
    have c3 := P3.out.x.c3
    have c1 := P3.out.x.c1
    have hA1 : Below v3.heap.size v3 (v3.alloc (.cells #[] 3)) := (Below.refl _ _).alloc (Nat.le_refl _) _
    have c1L : (v3.alloc (.cells #[] 3)).cell? ⟨ob, 1, none⟩ = some (.int .i64 T) := (P3.out.x.below hA1).c1
    have hA2 : Below (v3.alloc (.cells #[] 3)).heap.size (v3.alloc (.cells #[] 3)) ((v3.alloc (.cells #[] 3)).alloc (.cells #[.slice (some ⟨v3.heap.size, 0, none⟩) 0 0, .int .i64 0, .int .i64 0, .int .i64 T, .int .i64 (-1)] 90)) := (Below.refl _ _).alloc (Nat.le_refl _) _
    have hA : Below v3.heap.size v3 ((v3.alloc (.cells #[] 3)).alloc (.cells #[.slice (some ⟨v3.heap.size, 0, none⟩) 0 0, .int .i64 0, .int .i64 0, .int .i64 T, .int .i64 (-1)] 90)) := hA1.trans (hA2.mono hA1.size)
    have z1 : (v3.alloc (.cells #[] 3)).heap.size = v3.heap.size + 1 := by simp
    obtain ⟨nv, v6, hr6, hE6, hg6, hl6⟩ := appRo ((v3.alloc (.cells #[] 3)).alloc (.cells #[.slice (some ⟨v3.heap.size, 0, none⟩) 0 0, .int .i64 0, .int .i64 0, .int .i64 T, .int .i64 (-1)] 90)) v.heap.size (.slice qa s.l qc) s.l (v3.heap.size + 1) s.Q VQ (roNew T) (.slice (some ⟨v3.heap.size, 0, none⟩) 0 0) rfl (Nat.le_trans B3.out.1 hA.size) (by have : s.l ≤ 200 := OK.out.1.2.2.2; omega) (P3.out.o.q.below hA) (fun j hj => by rw [Nat.zero_add, World.cell?_alloc_at (w := (v3.alloc (.cells #[] 3))) _ _ _ j z1.symm]; rcases (show j = 0 ∨ j = 1 ∨ j = 2 ∨ j = 3 ∨ j = 4 by omega) with rfl | rfl | rfl | rfl | rfl <;> rfl)
    obtain ⟨ua, uc, rfl⟩ := hE6.form
    have x6 : Box4 v6 ob 28 (.slice ra s.n rc) (.int .i64 T) (.slice wa s.m wc) (.slice qa s.l qc) := (P3.out.x.below hA).ofBlock (hg6.block _ (P3.out.x.below hA).lt (fun e => P3.out.o.q.notB4 P3.out.x (by decide) e.symm))
    have G7 : ∀ g, g < v3.heap.size → (Value.slice qa s.l qc).ownBlock ≠ some g → g ≠ ob → (v6.setCell ⟨ob, 3, none⟩ (.slice ua (s.l + 1) uc)).heap[g]? = v3.heap[g]? := fun g hg h1 h2 => (Below.heap_setCell v6 ⟨ob, 3, none⟩ _ g h2).trans ((hg6.block g (Nat.lt_of_lt_of_le hg hA.size) (fun e => h1 e.symm)).trans (hA.block g hg))
    have E7 : EO (v6.setCell ⟨ob, 3, none⟩ (.slice ua (s.l + 1) uc)) v.heap.size 90 5 (.slice ua (s.l + 1) uc) (s.l + 1) (roF (updE s.Q s.l (roNew T)) (updE VQ s.l (.slice (some ⟨v3.heap.size, 0, none⟩) 0 0))) := hE6.keep (fun g e => Below.heap_setCell v6 ⟨ob, 3, none⟩ _ g (fun z => hE6.notB4 x6 (by decide) (by have z' : g = ob := z; rw [z'] at e; exact e)))
    have lit : IE (v3.alloc (.cells #[] 3)) v.heap.size (.slice (some ⟨v3.heap.size, 0, none⟩) 0 0) 0 (fun _ => 0) := IE.lit v3 v.heap.size B3.out.1 _
    have litb := P3.out.x.lt
    have LI : IE (v6.setCell ⟨ob, 3, none⟩ (.slice ua (s.l + 1) uc)) v.heap.size (.slice (some ⟨v3.heap.size, 0, none⟩) 0 0) 0 (fun _ => 0) := EO.keep lit (fun g e => by
     have e' : v3.heap.size = g := Option.some.inj e
     subst e'
     exact (Below.heap_setCell v6 ⟨ob, 3, none⟩ _ _ (by show v3.heap.size ≠ ob; omega)).trans ((hg6.block _ (by have := hA2.size; omega) (fun e => by have := (P3.out.o.q.ge _ e.symm).2; omega)).trans (hA2.block _ (by omega))))
    have P7 := SvO.pushQ (s := { s with t := T }) (r := roNew T) P3.out.x P3.out.o P3.out.d G7 E7 LI (fun g e => by have e' : v3.heap.size = g := Option.some.inj e; omega)
    have P8 : Hid (SvP NA (v6.setCell ⟨ob, 3, none⟩ (.slice ua (s.l + 1) uc)) v.heap.size ob { s with t := T, l := s.l + 1, Q := updE s.Q s.l (roNew T) } (.slice ra s.n rc) (.slice wa s.m wc) (.slice ua (s.l + 1) uc) VR VW (updE VQ s.l (.slice (some ⟨v3.heap.size, 0, none⟩) 0 0))) := SvP.made P3.out.h0 (x6.set3 _) P7.1 P7.2
    have RB8 : Hid (Box4 (v6.setCell ⟨ob, 3, none⟩ (.slice ua (s.l + 1) uc)) rb 28 (.slice none 0 0) (.int .i64 0) (.slice none 0 0) (.slice none 0 0)) := RB3.out.ofBlock (G7 rb RB3.out.lt (fun e => P3.out.o.q.notB4 RB3.out (by decide) e) (by have := RV.out; have := WV.out; omega))
    have B8 : Hid (Below w.heap.size w (v6.setCell ⟨ob, 3, none⟩ (.slice ua (s.l + 1) uc))) := ((B3.out.2.trans (hA.mono B3.out.2.size)).trans ((Below.refl _ _).grown hg6 (Nat.le_trans B3.out.2.size hA.size) (fun g e => by have := (P3.out.o.q.ge g e).1; have := WV.out; omega))).setCell (by have := WV.out; show w.heap.size ≤ ob; omega) _
    have HAP : Hid _ := hr6
    have f3 := x6.fr 3
    have c36 := x6.c3
    clear hA1 hA2 hA z1 hr6 hE6 hg6 hl6 x6 G7 E7 lit litb LI P7
    go_upto_region 14 with (at_builtin; refine Lib.wpList_append_run _ rfl (.tmp 60) (.tmp 65) _ _ rfl _ _ rfl rfl _ _ (HAP.out _) ?_)
    clear HAP f3 c36 c1 c1L x0 c3 P3 B3 AB3 RB3
    generalize (v6.setCell ⟨ob, 3, none⟩ (.slice ua (s.l + 1) uc)) = v7 at *
    have PE := P8.out
    have RE : Box4 v7 rb 28 (.slice none 0 0) (.int .i64 0) (.slice none 0 0) (.slice none 0 0) := RB8.out
    have k0 := PE.x.c0
    have y0 := RE.c0
    have u0 := RE.fr 0
    have k1 := PE.x.c1
    have y1 := RE.c1
    have u1 := RE.fr 1
    have k2 := PE.x.c2
    have y2 := RE.c2
    have u2 := RE.fr 2
    have k3 := PE.x.c3
    have y3 := RE.c3
    have u3 := RE.fr 3
    have X9 : Hid (Box4 ((((v7.setCell ⟨rb, 0, none⟩ (.slice ra s.n rc)).setCell ⟨rb, 1, none⟩ (.int .i64 T)).setCell ⟨rb, 2, none⟩ (.slice wa s.m wc)).setCell ⟨rb, 3, none⟩ (.slice ua (s.l + 1) uc)) rb 28 (.slice ra s.n rc) (.int .i64 T) (.slice wa s.m wc) (.slice ua (s.l + 1) uc)) := (((RE.set0 _).set1 _).set2 _).set3 _
    have Q9 : Hid (RetM w.heap.size s ⟨pa, pb, pd, PA, PB, PD, PX, PY, PZ, ca, cb, cd⟩ _ (.returned (.tuple #[.agg #[.slice ra s.n rc, .int .i64 T, .slice wa s.m wc, .slice ua (s.l + 1) uc], .int .i64 0])) ((((v7.setCell ⟨rb, 0, none⟩ (.slice ra s.n rc)).setCell ⟨rb, 1, none⟩ (.int .i64 T)).setCell ⟨rb, 2, none⟩ (.slice wa s.m wc)).setCell ⟨rb, 3, none⟩ (.slice ua (s.l + 1) uc))) := retM_of WV.out.1 (s' := { s with t := T, l := s.l + 1, Q := updE s.Q s.l (roNew T) }) (ST.out _ _ (ActS.ask (a := ⟨3, ar, an⟩) rfl)) PE.o RE _ _ _ _
    have B9 : Hid (Below w.heap.size w ((((v7.setCell ⟨rb, 0, none⟩ (.slice ra s.n rc)).setCell ⟨rb, 1, none⟩ (.int .i64 T)).setCell ⟨rb, 2, none⟩ (.slice wa s.m wc)).setCell ⟨rb, 3, none⟩ (.slice ua (s.l + 1) uc))) := below_res (B8.out) (by have := DI.out; omega) _ _ _ _
    clear PE RE P8 RB8 B8 OK DI RV WV ML H0 ZP ST
    go_wp2
    exact ret_cell2 (b := rb) Try.results32 rfl rfl (Box4.loadsv X9.out) ⟨Q9.out, B9.out⟩
   ·have g3 : (ak == 3) = false := by simp; exact k3
    by_cases kk : ak = 2 ∨ ak = 4 ∨ ak = 5 ∨ ak = 6 ∨ ak = 7
    ·have KK : Hid (ak = 2 ∨ ak = 4 ∨ ak = 5 ∨ ak = 6 ∨ ak = 7) := kk
     obtain ⟨N1, hN1⟩ : ∃ N1 : Int, N1 = (s.n : Int) - 1 := ⟨_, rfl⟩
     have e1 : (s.n : Int) - 1 = N1 := hN1.symm
     have w1 : IntKind.i64.wrap N1 = N1 := IntWalk.i64_in _ (by have : 1 ≤ s.n ∧ s.n ≤ 7 := OK.out.1.1; omega)
     have HN1 : Hid (N1 = (s.n : Int) - 1) := hN1
     clear hN1
     have c0 := P3.out.x.c0
     have x1 := AB3.out.c1
     by_cases hin : ¬ (0 ≤ ar ∧ ar ≤ N1)
     ·have IN : Hid (∀ w : World, Calls Try.prog 71 #[.int .i64 ar, .int .i64 0, .int .i64 N1] w fun e w' => e = .returned (.bool false) ∧ w = w') := fun w => in_any ar 0 N1 false (by simp only [decide_eq_false hin]) w
      have NI : Hid (¬ (0 ≤ ar ∧ ar < (s.n : Int))) := fun z => hin ⟨z.1, by have := HN1.out; omega⟩
      have AW : Hid (StepS s ⟨ak, ar, an⟩ { s with t := T } 4) := ST.out _ _ (ActS.away KK.out NI.out)
      clear hin k1 k3 KK
      clear ST
      rcases kk with rfl | rfl | rfl | rfl | rfl
      all_goals (
       clear g1 g3
       go_wp2_with fail
       refine (IN.out _).mono ?_
       rintro e _ ⟨rfl, rfl⟩
       clear IN
       go_upto_region 21 with fail
       clear x0 c0 x1
       have PE := P3.out
       have RE : Box4 v3 rb 28 (.slice none 0 0) (.int .i64 0) (.slice none 0 0) (.slice none 0 0) := RB3.out
       have k0 := PE.x.c0
       have y0 := RE.c0
       have u0 := RE.fr 0
       have k1 := PE.x.c1
       have y1 := RE.c1
       have u1 := RE.fr 1
       have k2 := PE.x.c2
       have y2 := RE.c2
       have u2 := RE.fr 2
       have k3 := PE.x.c3
       have y3 := RE.c3
       have u3 := RE.fr 3
       have X9 : Hid (Box4 ((((v3.setCell ⟨rb, 0, none⟩ (.slice ra s.n rc)).setCell ⟨rb, 1, none⟩ (.int .i64 T)).setCell ⟨rb, 2, none⟩ (.slice wa s.m wc)).setCell ⟨rb, 3, none⟩ (.slice qa s.l qc)) rb 28 (.slice ra s.n rc) (.int .i64 T) (.slice wa s.m wc) (.slice qa s.l qc)) := (((RE.set0 _).set1 _).set2 _).set3 _
       have Q9 : Hid (RetM w.heap.size s ⟨pa, pb, pd, PA, PB, PD, PX, PY, PZ, ca, cb, cd⟩ _ (.returned (.tuple #[.agg #[.slice ra s.n rc, .int .i64 T, .slice wa s.m wc, .slice qa s.l qc], .int .i64 4])) ((((v3.setCell ⟨rb, 0, none⟩ (.slice ra s.n rc)).setCell ⟨rb, 1, none⟩ (.int .i64 T)).setCell ⟨rb, 2, none⟩ (.slice wa s.m wc)).setCell ⟨rb, 3, none⟩ (.slice qa s.l qc))) := retM_of WV.out.1 (s' := { s with t := T }) (AW.out) PE.o RE _ _ _ _
       have B9 : Hid (Below w.heap.size w ((((v3.setCell ⟨rb, 0, none⟩ (.slice ra s.n rc)).setCell ⟨rb, 1, none⟩ (.int .i64 T)).setCell ⟨rb, 2, none⟩ (.slice wa s.m wc)).setCell ⟨rb, 3, none⟩ (.slice qa s.l qc))) := below_res (B3.out.2) (by have := DI.out; omega) _ _ _ _
       clear PE RE P3 AB3 RB3 B3 OK DI RV WV ML H0 ZP NI HN1 AW
       go_wp2
       exact ret_cell2 (b := rb) Try.results32 rfl rfl (Box4.loadsv X9.out) ⟨Q9.out, B9.out⟩)
     ·replace hin := Classical.not_not.1 hin
      have IN : Hid (∀ w : World, Calls Try.prog 71 #[.int .i64 ar, .int .i64 0, .int .i64 N1] w fun e w' => e = .returned (.bool true) ∧ w = w') := fun w => in_any ar 0 N1 true (by simp only [decide_eq_true hin]) w
      obtain ⟨k, hk⟩ := Int.eq_ofNat_of_zero_le hin.1
      have km : k < s.n := by have := HN1.out; have := hin.2; omega
      clear hin
      subst hk
      have RP : Hid (Calls Try.prog 74 #[.agg #[.slice ra s.n rc, .int .i64 T, .slice wa s.m wc, .slice qa s.l qc], .agg #[.int .i64 ak, .int .i64 (k : Int), .int .i64 an]] v3 fun e w' => RetR v.heap.size { s with t := T } ⟨ak, k, an⟩ e w' ∧ Below v.heap.size v3 w') := rep_any v.heap.size { s with t := T } ak an k km KK.out OK.out v3 B3.out.1 _ _ _ VR VW VQ P3.out.o P3.out.d
      have c1 := P3.out.x.c1
      have c2 := P3.out.x.c2
      have c3 := P3.out.x.c3
      have x2 := AB3.out.c2
      clear k1 k3 KK
      rcases kk with rfl | rfl | rfl | rfl | rfl
      all_goals (
       clear g1 g3
       go_wp2_with fail
       refine (IN.out _).mono ?_
       rintro e _ ⟨rfl, rfl⟩
       clear IN
       go_wp2_with fail
       refine RP.out.mono ?_
       rintro e v5 ⟨⟨s', c, vr5, vw5, vq5, VR5, VW5, VQ5, hact, rfl, hO5, hD5⟩, hb5⟩
       obtain ⟨r1, r2, rfl⟩ := hO5.r.form
       obtain ⟨t1, t2, rfl⟩ := hO5.x.form
       obtain ⟨q1, q2, rfl⟩ := hO5.q.form
       have RE : Box4 v5 rb 28 (.slice none 0 0) (.int .i64 0) (.slice none 0 0) (.slice none 0 0) := RB3.out.ofBlock (hb5.block rb RV.out)
       clear x0 x1 x2 c0 c1 c2 c3 RP
       have y0 := RE.c0
       have u0 := RE.fr 0
       have y1 := RE.c1
       have u1 := RE.fr 1
       have y2 := RE.c2
       have u2 := RE.fr 2
       have y3 := RE.c3
       have u3 := RE.fr 3
       have X9 : Hid (Box4 ((((v5.setCell ⟨rb, 0, none⟩ (.slice r1 s'.n r2)).setCell ⟨rb, 1, none⟩ (.int .i64 s'.t)).setCell ⟨rb, 2, none⟩ (.slice t1 s'.m t2)).setCell ⟨rb, 3, none⟩ (.slice q1 s'.l q2)) rb 28 (.slice r1 s'.n r2) (.int .i64 s'.t) (.slice t1 s'.m t2) (.slice q1 s'.l q2)) := (((RE.set0 _).set1 _).set2 _).set3 _
       have Q9 : Hid (RetM w.heap.size s ⟨pa, pb, pd, PA, PB, PD, PX, PY, PZ, ca, cb, cd⟩ _ (.returned (.tuple #[.agg #[.slice r1 s'.n r2, .int .i64 s'.t, .slice t1 s'.m t2, .slice q1 s'.l q2], .int .i64 c])) ((((v5.setCell ⟨rb, 0, none⟩ (.slice r1 s'.n r2)).setCell ⟨rb, 1, none⟩ (.int .i64 s'.t)).setCell ⟨rb, 2, none⟩ (.slice t1 s'.m t2)).setCell ⟨rb, 3, none⟩ (.slice q1 s'.l q2))) := retM_of WV.out.1 (s' := s') (ST.out _ _ hact) hO5 RE _ _ _ _
       have B9 : Hid (Below w.heap.size w ((((v5.setCell ⟨rb, 0, none⟩ (.slice r1 s'.n r2)).setCell ⟨rb, 1, none⟩ (.int .i64 s'.t)).setCell ⟨rb, 2, none⟩ (.slice t1 s'.m t2)).setCell ⟨rb, 3, none⟩ (.slice q1 s'.l q2))) := below_res (B3.out.2.trans (hb5.mono WV.out.1)) (by have := DI.out; omega) _ _ _ _
       clear RE hact hO5 hD5 hb5 P3 AB3 RB3 B3 OK DI RV WV ML H0 ZP ST HN1
       go_wp2
       exact ret_cell2 (b := rb) Try.results32 rfl rfl (Box4.loadsv X9.out) ⟨Q9.out, B9.out⟩)
    ·have g2 : (ak == 2) = false := by simp; omega
     have g4 : (ak == 4) = false := by simp; omega
     have g5 : (ak == 5) = false := by simp; omega
     have g6 : (ak == 6) = false := by simp; omega
     have g7 : (ak == 7) = false := by simp; omega
     have FO : Hid (StepS s ⟨ak, ar, an⟩ { s with t := T } 3) := ST.out _ _ (ActS.form (fun q => by have := q.1; have := q.2; dsimp only at *; omega))
     clear k1 k3 kk
     go_upto_region 23 with fail
     clear x0 g1 g2 g3 g4 g5 g6 g7
     have PE := P3.out
     have RE : Box4 v3 rb 28 (.slice none 0 0) (.int .i64 0) (.slice none 0 0) (.slice none 0 0) := RB3.out
     have k0 := PE.x.c0
     have y0 := RE.c0
     have u0 := RE.fr 0
     have k1 := PE.x.c1
     have y1 := RE.c1
     have u1 := RE.fr 1
     have k2 := PE.x.c2
     have y2 := RE.c2
     have u2 := RE.fr 2
     have k3 := PE.x.c3
     have y3 := RE.c3
     have u3 := RE.fr 3
     have X9 : Hid (Box4 ((((v3.setCell ⟨rb, 0, none⟩ (.slice ra s.n rc)).setCell ⟨rb, 1, none⟩ (.int .i64 T)).setCell ⟨rb, 2, none⟩ (.slice wa s.m wc)).setCell ⟨rb, 3, none⟩ (.slice qa s.l qc)) rb 28 (.slice ra s.n rc) (.int .i64 T) (.slice wa s.m wc) (.slice qa s.l qc)) := (((RE.set0 _).set1 _).set2 _).set3 _
     have Q9 : Hid (RetM w.heap.size s ⟨pa, pb, pd, PA, PB, PD, PX, PY, PZ, ca, cb, cd⟩ _ (.returned (.tuple #[.agg #[.slice ra s.n rc, .int .i64 T, .slice wa s.m wc, .slice qa s.l qc], .int .i64 3])) ((((v3.setCell ⟨rb, 0, none⟩ (.slice ra s.n rc)).setCell ⟨rb, 1, none⟩ (.int .i64 T)).setCell ⟨rb, 2, none⟩ (.slice wa s.m wc)).setCell ⟨rb, 3, none⟩ (.slice qa s.l qc))) := retM_of WV.out.1 (s' := { s with t := T }) (FO.out) PE.o RE _ _ _ _
     have B9 : Hid (Below w.heap.size w ((((v3.setCell ⟨rb, 0, none⟩ (.slice ra s.n rc)).setCell ⟨rb, 1, none⟩ (.int .i64 T)).setCell ⟨rb, 2, none⟩ (.slice wa s.m wc)).setCell ⟨rb, 3, none⟩ (.slice qa s.l qc))) := below_res (B3.out.2) (by have := DI.out; omega) _ _ _ _
     clear PE RE P3 AB3 RB3 B3 OK DI RV WV ML H0 ZP ST FO
     go_wp2
     exact ret_cell2 (b := rb) Try.results32 rfl rfl (Box4.loadsv X9.out) ⟨Q9.out, B9.out⟩
end Go.Proofs.Ytedncfcmhaaobaa
