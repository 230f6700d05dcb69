/-
  Texts of the proof, joined: QuOw.
-/
import Derived.Test.YtedncfcmhaaobaaY33
import Derived.Test.YtedncfcmhaaobaaY26
import Derived.Deep.Cut
namespace Go.Proofs.Ytedncfcmhaaobaa
open Go.ChangeShapes Go.WideShapes Go.ChangeAt Go.RowKit
set_option linter.unusedVariables false
theorem SvO.pushR {w w' : World} {B ob : Nat} {s : Sv} {vr vw vq vr' : Value} {VR VW VQ : Nat → Value} {x y z m : Value} (hx : Box4 w ob 28 x y z m) (h : SvO w B s vr vw vq VR VW VQ) (d : SvD s VR VW VQ) {r : Rp} {v : Value} (hg : ∀ g, g < w.heap.size → vr.ownBlock ≠ some g → g ≠ ob → w'.heap[g]? = w.heap[g]?) (hr : EO w' B 43 8 vr' (s.n + 1) (rpF (updE s.R s.n r) (updE VR s.n v))) (hl : IE w' B v r.ne r.E) (hv : ∀ g, v.ownBlock = some g → w.heap.size ≤ g) :
  SvO w' B { s with n := s.n + 1, R := updE s.R s.n r } vr' vw vq (updE VR s.n v) VW VQ ∧ SvD { s with n := s.n + 1, R := updE s.R s.n r } (updE VR s.n v) VW VQ := by
 have lt : ∀ i g, i < s.n + 1 → (updE VR s.n v i).ownBlock = some g → (i < s.n ∧ (VR i).ownBlock = some g) ∨ (i = s.n ∧ w.heap.size ≤ g) := fun i g hi e => by
  rw [updE_at] at e
  split at e
  ·rename_i q; exact .inr ⟨q, hv g e⟩
  ·exact .inl ⟨by omega, e⟩
 refine ⟨⟨hr, h.x.keep (fun g e => hg g (h.x.ge g e).2 (fun z => h.x.apart h.r (by decide) g e z) (fun z => h.x.notB4 hx (by decide) (z ▸ e))), h.q.keep (fun g e => hg g (h.q.ge g e).2 (fun z => h.q.apart h.r (by decide) g e z) (fun z => h.q.notB4 hx (by decide) (z ▸ e))), fun i hi => ?_, fun i hi => EO.keep (h.a i hi) (fun g e => hg g (EO.ge (h.a i hi) g e).2 (fun z => EO.apart (h.a i hi) h.r (by decide) g e z) (fun z => EO.notB4 (h.a i hi) hx (by decide) (z ▸ e))), fun i hi => EO.keep (h.f i hi) (fun g e => hg g (EO.ge (h.f i hi) g e).2 (fun z => EO.apart (h.f i hi) h.r (by decide) g e z) (fun z => EO.notB4 (h.f i hi) hx (by decide) (z ▸ e)))⟩, fun i j g hi hj e1 e2 => ?_, d.2.1, d.2.2.1, fun i j g hi hj e1 e2 => ?_, fun i j g hi hj e1 e2 => ?_, d.2.2.2.2.2⟩
 ·dsimp only at hi ⊢
  rw [updE_at, updE_at]
  by_cases q : i = s.n
  ·rw [if_pos q, if_pos q]; exact hl
  ·rw [if_neg q, if_neg q]
   have hi' : i < s.n := by omega
   exact EO.keep (h.e i hi') (fun g e => hg g (EO.ge (h.e i hi') g e).2 (fun z => EO.apart (h.e i hi') h.r (by decide) g e z) (fun z => EO.notB4 (h.e i hi') hx (by decide) (z ▸ e)))
 ·rcases lt i g hi e1 with ⟨p, q⟩ | ⟨p, q⟩ <;> rcases lt j g hj e2 with ⟨p2, q2⟩ | ⟨p2, q2⟩
  ·exact d.1 i j g p p2 q q2
  ·have := (EO.ge (h.e i p) g q).2; omega
  ·have := (EO.ge (h.e j p2) g q2).2; omega
  ·omega
 ·rcases lt i g hi e1 with ⟨p, q⟩ | ⟨p, q⟩
  ·exact d.2.2.2.1 i j g p hj q e2
  ·have := (EO.ge (h.a j hj) g e2).2; omega
 ·rcases lt i g hi e1 with ⟨p, q⟩ | ⟨p, q⟩
  ·exact d.2.2.2.2.1 i j g p hj q e2
  ·have := (EO.ge (h.f j hj) g e2).2; omega
theorem SvO.pushW {w w' : World} {B ob : Nat} {s : Sv} {vr vw vq vw' : Value} {VR VW VQ : Nat → Value} {x y z m : Value} (hx : Box4 w ob 28 x y z m) (h : SvO w B s vr vw vq VR VW VQ) (d : SvD s VR VW VQ) {r : Wo} {v : Value} (hg : ∀ g, g < w.heap.size → vw.ownBlock ≠ some g → g ≠ ob → w'.heap[g]? = w.heap[g]?) (hr : EO w' B 37 5 vw' (s.m + 1) (woF (updE s.W s.m r) (updE VW s.m v))) (hl : IE w' B v r.ne r.E) (hv : ∀ g, v.ownBlock = some g → w.heap.size ≤ g) :
  SvO w' B { s with m := s.m + 1, W := updE s.W s.m r } vr vw' vq VR (updE VW s.m v) VQ ∧ SvD { s with m := s.m + 1, W := updE s.W s.m r } VR (updE VW s.m v) VQ := by
 have lt : ∀ i g, i < s.m + 1 → (updE VW s.m v i).ownBlock = some g → (i < s.m ∧ (VW i).ownBlock = some g) ∨ (i = s.m ∧ w.heap.size ≤ g) := fun i g hi e => by
  rw [updE_at] at e
  split at e
  ·rename_i q; exact .inr ⟨q, hv g e⟩
  ·exact .inl ⟨by omega, e⟩
 refine ⟨⟨h.r.keep (fun g e => hg g (h.r.ge g e).2 (fun z => h.r.apart h.x (by decide) g e z) (fun z => h.r.notB4 hx (by decide) (z ▸ e))), hr, h.q.keep (fun g e => hg g (h.q.ge g e).2 (fun z => h.q.apart h.x (by decide) g e z) (fun z => h.q.notB4 hx (by decide) (z ▸ e))), fun i hi => EO.keep (h.e i hi) (fun g e => hg g (EO.ge (h.e i hi) g e).2 (fun z => EO.apart (h.e i hi) h.x (by decide) g e z) (fun z => EO.notB4 (h.e i hi) hx (by decide) (z ▸ e))), fun i hi => ?_, fun i hi => EO.keep (h.f i hi) (fun g e => hg g (EO.ge (h.f i hi) g e).2 (fun z => EO.apart (h.f i hi) h.x (by decide) g e z) (fun z => EO.notB4 (h.f i hi) hx (by decide) (z ▸ e)))⟩, d.1, fun i j g hi hj e1 e2 => ?_, d.2.2.1, fun i j g hi hj e1 e2 => ?_, d.2.2.2.2.1, fun i j g hi hj e1 e2 => ?_⟩
 ·dsimp only at hi ⊢
  rw [updE_at, updE_at]
  by_cases q : i = s.m
  ·rw [if_pos q, if_pos q]; exact hl
  ·rw [if_neg q, if_neg q]
   have hi' : i < s.m := by omega
   exact EO.keep (h.a i hi') (fun g e => hg g (EO.ge (h.a i hi') g e).2 (fun z => EO.apart (h.a i hi') h.x (by decide) g e z) (fun z => EO.notB4 (h.a i hi') hx (by decide) (z ▸ e)))
 ·rcases lt i g hi e1 with ⟨p, q⟩ | ⟨p, q⟩ <;> rcases lt j g hj e2 with ⟨p2, q2⟩ | ⟨p2, q2⟩
  ·exact d.2.1 i j g p p2 q q2
  ·have := (EO.ge (h.a i p) g q).2; omega
  ·have := (EO.ge (h.a j p2) g q2).2; omega
  ·omega
 ·rcases lt j g hj e2 with ⟨p, q⟩ | ⟨p, q⟩
  ·exact d.2.2.2.1 i j g hi p e1 q
  ·have := (EO.ge (h.e i hi) g e1).2; omega
 ·rcases lt i g hi e1 with ⟨p, q⟩ | ⟨p, q⟩
  ·exact d.2.2.2.2.2 i j g p hj q e2
  ·have := (EO.ge (h.f j hj) g e2).2; omega
theorem SvO.pushQ {w w' : World} {B ob : Nat} {s : Sv} {vr vw vq vq' : Value} {VR VW VQ : Nat → Value} {x y z m : Value} (hx : Box4 w ob 28 x y z m) (h : SvO w B s vr vw vq VR VW VQ) (d : SvD s VR VW VQ) {r : Ro} {v : Value} (hg : ∀ g, g < w.heap.size → vq.ownBlock ≠ some g → g ≠ ob → w'.heap[g]? = w.heap[g]?) (hr : EO w' B 90 5 vq' (s.l + 1) (roF (updE s.Q s.l r) (updE VQ s.l v))) (hl : IE w' B v r.ne r.E) (hv : ∀ g, v.ownBlock = some g → w.heap.size ≤ g) :
  SvO w' B { s with l := s.l + 1, Q := updE s.Q s.l r } vr vw vq' VR VW (updE VQ s.l v) ∧ SvD { s with l := s.l + 1, Q := updE s.Q s.l r } VR VW (updE VQ s.l v) := by
 have lt : ∀ i g, i < s.l + 1 → (updE VQ s.l v i).ownBlock = some g → (i < s.l ∧ (VQ i).ownBlock = some g) ∨ (i = s.l ∧ w.heap.size ≤ g) := fun i g hi e => by
  rw [updE_at] at e
  split at e
  ·rename_i q; exact .inr ⟨q, hv g e⟩
  ·exact .inl ⟨by omega, e⟩
 refine ⟨⟨h.r.keep (fun g e => hg g (h.r.ge g e).2 (fun z => h.r.apart h.q (by decide) g e z) (fun z => h.r.notB4 hx (by decide) (z ▸ e))), h.x.keep (fun g e => hg g (h.x.ge g e).2 (fun z => h.x.apart h.q (by decide) g e z) (fun z => h.x.notB4 hx (by decide) (z ▸ e))), hr, fun i hi => EO.keep (h.e i hi) (fun g e => hg g (EO.ge (h.e i hi) g e).2 (fun z => EO.apart (h.e i hi) h.q (by decide) g e z) (fun z => EO.notB4 (h.e i hi) hx (by decide) (z ▸ e))), fun i hi => EO.keep (h.a i hi) (fun g e => hg g (EO.ge (h.a i hi) g e).2 (fun z => EO.apart (h.a i hi) h.q (by decide) g e z) (fun z => EO.notB4 (h.a i hi) hx (by decide) (z ▸ e))), fun i hi => ?_⟩, d.1, d.2.1, fun i j g hi hj e1 e2 => ?_, d.2.2.2.1, fun i j g hi hj e1 e2 => ?_, fun i j g hi hj e1 e2 => ?_⟩
 ·dsimp only at hi ⊢
  rw [updE_at, updE_at]
  by_cases q : i = s.l
  ·rw [if_pos q, if_pos q]; exact hl
  ·rw [if_neg q, if_neg q]
   have hi' : i < s.l := by omega
   exact EO.keep (h.f i hi') (fun g e => hg g (EO.ge (h.f i hi') g e).2 (fun z => EO.apart (h.f i hi') h.q (by decide) g e z) (fun z => EO.notB4 (h.f i hi') hx (by decide) (z ▸ e)))
 ·rcases lt i g hi e1 with ⟨p, q⟩ | ⟨p, q⟩ <;> rcases lt j g hj e2 with ⟨p2, q2⟩ | ⟨p2, q2⟩
  ·exact d.2.2.1 i j g p p2 q q2
  ·have := (EO.ge (h.f i p) g q).2; omega
  ·have := (EO.ge (h.f j p2) g q2).2; omega
  ·omega
 ·rcases lt j g hj e2 with ⟨p, q⟩ | ⟨p, q⟩
  ·exact d.2.2.2.2.1 i j g hi p e1 q
  ·have := (EO.ge (h.e i hi) g e1).2; omega
 ·rcases lt j g hj e2 with ⟨p, q⟩ | ⟨p, q⟩
  ·exact d.2.2.2.2.2 i j g hi p e1 q
  ·have := (EO.ge (h.a i hi) g e1).2; omega
structure OwI (w : World) (s : Sv) (p : Sa) (sb rb ob k m l : Nat) (wr : World) : Prop where
 x : Box4 wr sb 28 (.slice p.a s.n p.ca) (.int .i64 s.t) (.slice p.b s.m p.cb) (.slice p.d s.l p.cd)
 r : Box4 wr rb 28 (.slice none 0 0) (.int .i64 0) (.slice none 0 0) (.slice none 0 0)
 o : ∃ vr vw vq VR VW VQ, Box4 wr ob 28 vr (.int .i64 s.t) vw vq ∧ SvO wr w.heap.size { s with n := k, m := m, l := l } vr vw vq VR VW VQ ∧ SvD { s with n := k, m := m, l := l } VR VW VQ
 b : Below w.heap.size w wr
def RetOw (B : Nat) (s : Sv) (e : Ending) (w : World) : Prop := ∃ vr vw vq VR VW VQ, e = .returned (.agg #[vr, .int .i64 s.t, vw, vq]) ∧ SvO w B s vr vw vq VR VW VQ ∧ SvD s VR VW VQ
def SzP (s : Sv) (p : Sa) : Prop := (∀ i, i < s.n → p.A i = none → p.X i = 0) ∧ (∀ i, i < s.m → p.B i = none → p.Y i = 0) ∧ (∀ i, i < s.l → p.D i = none → p.Z i = 0)
theorem BxF.keepB {w w' : World} {b : Nat} {t : TypeId} {m : Nat} {f : Nat → Value} (h : BxF w b t m f) (e : w'.heap[b]? = w.heap[b]?) : BxF w' b t m f := World.rowIs.of_block h e
theorem BxF.set {w : World} {b : Nat} {t : TypeId} {m : Nat} {f : Nat → Value} (h : BxF w b t m f) (j : Nat) (x : Value) {g : Nat → Value} (e : ∀ i, i < m → g i = if i = j then x else f i) : BxF (w.setCell ⟨b, j, none⟩ x) b t m g := World.rowIs.congr (World.rowIs.set h j x) (fun i hi => by rw [e i hi])
set_option maxRecDepth 100000 in
set_option maxHeartbeats 8000000 in
theorem l09Own_any (s : Sv) (p : Sa) (hmx : s.max 1000) (w : World) (h : SvV w s p) (hzp : SzP s p) :
  Calls Try.prog 33 #[.agg #[.slice p.a s.n p.ca, .int .i64 s.t, .slice p.b s.m p.cb, .slice p.d s.l p.cd]] w fun e w' => RetOw w.heap.size s e w' ∧ Below w.heap.size w w' := by
 obtain ⟨pa, pb, pd, PA, PB, PD, PX, PY, PZ, ca, cb, cd⟩ := p
 have HV : Hid (SvV w s ⟨pa, pb, pd, PA, PB, PD, PX, PY, PZ, ca, cb, cd⟩) := h
 have MX : Hid (s.max 1000) := hmx
 have ZP : Hid (SzP s ⟨pa, pb, pd, PA, PB, PD, PX, PY, PZ, ca, cb, cd⟩) := hzp
 have b6 : Below w.heap.size w ((((((w.alloc (.cells #[.slice pa s.n ca, .int .i64 s.t, .slice pb s.m cb, .slice pd s.l cd] 28)).alloc (.cells #[.slice none 0 0, .int .i64 0, .slice none 0 0, .slice none 0 0] 28)).alloc (.cells #[] 43)).alloc (.cells #[] 37)).alloc (.cells #[] 90)).alloc (.cells #[.slice (some ⟨w.heap.size + 2, 0, none⟩) 0 0, .int .i64 s.t, .slice (some ⟨w.heap.size + 3, 0, none⟩) 0 0, .slice (some ⟨w.heap.size + 4, 0, none⟩) 0 0] 28)) := (((((((Below.refl w.heap.size w).alloc (Nat.le_refl _) _).alloc (by simp) _).alloc (by simp; omega) _).alloc (by simp; omega) _).alloc (by simp; omega) _).alloc (by simp; omega) _)
 have I0 : Hid (OwI w s ⟨pa, pb, pd, PA, PB, PD, PX, PY, PZ, ca, cb, cd⟩ w.heap.size (w.heap.size + 1) (w.heap.size + 5) 0 0 0 ((((((w.alloc (.cells #[.slice pa s.n ca, .int .i64 s.t, .slice pb s.m cb, .slice pd s.l cd] 28)).alloc (.cells #[.slice none 0 0, .int .i64 0, .slice none 0 0, .slice none 0 0] 28)).alloc (.cells #[] 43)).alloc (.cells #[] 37)).alloc (.cells #[] 90)).alloc (.cells #[.slice (some ⟨w.heap.size + 2, 0, none⟩) 0 0, .int .i64 s.t, .slice (some ⟨w.heap.size + 3, 0, none⟩) 0 0, .slice (some ⟨w.heap.size + 4, 0, none⟩) 0 0] 28))) := by
  refine ⟨(((((Box4.madeAt rfl _ _ _ _ _).alloc _).alloc _).alloc _).alloc _).alloc _, ((((Box4.madeAt (by simp) _ _ _ _ _).alloc _).alloc _).alloc _).alloc _, ⟨.slice (some ⟨w.heap.size + 2, 0, none⟩) 0 0, .slice (some ⟨w.heap.size + 3, 0, none⟩) 0 0, .slice (some ⟨w.heap.size + 4, 0, none⟩) 0 0, fun _ => .slice none 0 0, fun _ => .slice none 0 0, fun _ => .slice none 0 0, Box4.madeAt (by simp) _ _ _ _ _, ⟨?_, ?_, ?_, fun i hi => absurd hi (Nat.not_lt_zero i), fun i hi => absurd hi (Nat.not_lt_zero i), fun i hi => absurd hi (Nat.not_lt_zero i)⟩, ⟨fun i j q _ _ e => (by cases e), fun i j q _ _ e => (by cases e), fun i j q _ _ e => (by cases e), fun i j q _ _ e => (by cases e), fun i j q _ _ e => (by cases e), fun i j q _ _ e => (by cases e)⟩⟩, b6⟩
  ·have h1 := EO.lit ((w.alloc (.cells #[.slice pa s.n ca, .int .i64 s.t, .slice pb s.m cb, .slice pd s.l cd] 28)).alloc (.cells #[.slice none 0 0, .int .i64 0, .slice none 0 0, .slice none 0 0] 28)) w.heap.size 43 8 (by simp; omega) (rpF s.R (fun _ => .slice none 0 0))
   simp at h1
   exact EO.below (EO.below (EO.below h1 ((Below.refl _ _).alloc (Nat.le_refl _) _)) ((Below.refl _ _).alloc (Nat.le_refl _) _)) ((Below.refl _ _).alloc (Nat.le_refl _) _)
  ·have h1 := EO.lit (((w.alloc (.cells #[.slice pa s.n ca, .int .i64 s.t, .slice pb s.m cb, .slice pd s.l cd] 28)).alloc (.cells #[.slice none 0 0, .int .i64 0, .slice none 0 0, .slice none 0 0] 28)).alloc (.cells #[] 43)) w.heap.size 37 5 (by simp; omega) (woF s.W (fun _ => .slice none 0 0))
   simp at h1
   exact EO.below (EO.below h1 ((Below.refl _ _).alloc (Nat.le_refl _) _)) ((Below.refl _ _).alloc (Nat.le_refl _) _)
  ·have h1 := EO.lit ((((w.alloc (.cells #[.slice pa s.n ca, .int .i64 s.t, .slice pb s.m cb, .slice pd s.l cd] 28)).alloc (.cells #[.slice none 0 0, .int .i64 0, .slice none 0 0, .slice none 0 0] 28)).alloc (.cells #[] 43)).alloc (.cells #[] 37)) w.heap.size 90 5 (by simp; omega) (roF s.Q (fun _ => .slice none 0 0))
   simp at h1
   exact EO.below h1 ((Below.refl _ _).alloc (Nat.le_refl _) _)
 clear h hmx b6 hzp
 dsimp only
 go_enter Try.func33, Try.ntmps33
 have x0 := I0.out.x.c0
 go_upto_region 2 with fail
 generalize ((((((w.alloc (.cells #[.slice pa s.n ca, .int .i64 s.t, .slice pb s.m cb, .slice pd s.l cd] 28)).alloc (.cells #[.slice none 0 0, .int .i64 0, .slice none 0 0, .slice none 0 0] 28)).alloc (.cells #[] 43)).alloc (.cells #[] 37)).alloc (.cells #[] 90)).alloc (.cells #[.slice (some ⟨w.heap.size + 2, 0, none⟩) 0 0, .int .i64 s.t, .slice (some ⟨w.heap.size + 3, 0, none⟩) 0 0, .slice (some ⟨w.heap.size + 4, 0, none⟩) 0 0] 28)) = v at *
 obtain ⟨rb, hrb⟩ : ∃ x, x = w.heap.size + 1 := ⟨_, rfl⟩
 obtain ⟨ob, hob⟩ : ∃ x, x = w.heap.size + 5 := ⟨_, rfl⟩
 have NE : Hid (w.heap.size < rb ∧ rb < ob) := ⟨by omega, by omega⟩
 have e5 : w.heap.size + 1 + 1 + 1 + 1 + 1 = ob := by omega
 rw [e5, ← hrb]
 rw [← hrb, ← hob] at I0
 clear x0 e5 hrb hob
 go_wp2
 go_loopw [4] (fun i wr => ∃ k : Nat, k ≤ s.n ∧ i = .int .i64 (k : Int) ∧ OwI w s ⟨pa, pb, pd, PA, PB, PD, PX, PY, PZ, ca, cb, cd⟩ w.heap.size rb ob k 0 0 wr) (fun i _ => s.n - (intOf i).toNat)
 case atStart => exact ⟨0, by omega, rfl, I0.out⟩
 case round =>
  clear I0
  obtain ⟨k, hk, rfl, hI⟩ := hrel
  have HI : Hid (OwI w s ⟨pa, pb, pd, PA, PB, PD, PX, PY, PZ, ca, cb, cd⟩ w.heap.size rb ob k 0 0 wr) := hI
  have x0 := hI.x.c0
  by_cases hlt : k < s.n
  ·have hlt' : (k : Int) < (s.n : Int) := by omega
   have HLT : Hid (k < s.n ∧ k ≤ 1000) := ⟨hlt, by have := MX.out.1.1; omega⟩
   obtain ⟨eb, off, ea, hc⟩ := (HV.out.below hI.b).1.at hlt
   dsimp only at ea
   have EA : Hid (pa = some ⟨eb, off, none⟩) := ea
   rw [ea] at x0
   have k1000 : (k : Int) ≤ 1000 := by have := HLT.out; omega
   have c0 : wr.cell? ⟨eb, off + k * 8, none⟩ = some (.bool (s.R k).mute) := hc 0 (by omega)
   have c1 : wr.cell? ⟨eb, off + k * 8 + 1, none⟩ = some (.int .i64 (s.R k).nc) := hc 1 (by omega)
   have c2 : wr.cell? ⟨eb, off + k * 8 + 2, none⟩ = some (.int .i64 (s.R k).nt) := hc 2 (by omega)
   have c3 : wr.cell? ⟨eb, off + k * 8 + 3, none⟩ = some (.int .i64 (s.R k).sc) := hc 3 (by omega)
   have c4 : wr.cell? ⟨eb, off + k * 8 + 4, none⟩ = some (.int .i64 (s.R k).st) := hc 4 (by omega)
   have c5 : wr.cell? ⟨eb, off + k * 8 + 5, none⟩ = some (.slice (PA k) (s.R k).ne (PX k)) := hc 5 (by omega)
   have c6 : wr.cell? ⟨eb, off + k * 8 + 6, none⟩ = some (.int .i64 (s.R k).bc) := hc 6 (by omega)
   have c7 : wr.cell? ⟨eb, off + k * 8 + 7, none⟩ = some (.int .i64 (s.R k).bt) := hc 7 (by omega)
   have hA1 : Below wr.heap.size wr (wr.alloc (.cells #[.bool (s.R k).mute, .int .i64 (s.R k).nc, .int .i64 (s.R k).nt, .int .i64 (s.R k).sc, .int .i64 (s.R k).st, .slice (PA k) (s.R k).ne (PX k), .int .i64 (s.R k).bc, .int .i64 (s.R k).bt] 43)) := (Below.refl _ _).alloc (Nat.le_refl _) _
   have hA2 : Below (wr.alloc (.cells #[.bool (s.R k).mute, .int .i64 (s.R k).nc, .int .i64 (s.R k).nt, .int .i64 (s.R k).sc, .int .i64 (s.R k).st, .slice (PA k) (s.R k).ne (PX k), .int .i64 (s.R k).bc, .int .i64 (s.R k).bt] 43)).heap.size (wr.alloc (.cells #[.bool (s.R k).mute, .int .i64 (s.R k).nc, .int .i64 (s.R k).nt, .int .i64 (s.R k).sc, .int .i64 (s.R k).st, .slice (PA k) (s.R k).ne (PX k), .int .i64 (s.R k).bc, .int .i64 (s.R k).bt] 43)) ((wr.alloc (.cells #[.bool (s.R k).mute, .int .i64 (s.R k).nc, .int .i64 (s.R k).nt, .int .i64 (s.R k).sc, .int .i64 (s.R k).st, .slice (PA k) (s.R k).ne (PX k), .int .i64 (s.R k).bc, .int .i64 (s.R k).bt] 43)).alloc (.cells #[] 3)) := (Below.refl _ _).alloc (Nat.le_refl _) _
   have hA : Below wr.heap.size wr ((wr.alloc (.cells #[.bool (s.R k).mute, .int .i64 (s.R k).nc, .int .i64 (s.R k).nt, .int .i64 (s.R k).sc, .int .i64 (s.R k).st, .slice (PA k) (s.R k).ne (PX k), .int .i64 (s.R k).bc, .int .i64 (s.R k).bt] 43)).alloc (.cells #[] 3)) := hA1.trans (hA2.mono hA1.size)
   have z1 : (wr.alloc (.cells #[.bool (s.R k).mute, .int .i64 (s.R k).nc, .int .i64 (s.R k).nt, .int .i64 (s.R k).sc, .int .i64 (s.R k).st, .slice (PA k) (s.R k).ne (PX k), .int .i64 (s.R k).bc, .int .i64 (s.R k).bt] 43)).heap.size = wr.heap.size + 1 := by simp
   have z2 : ((wr.alloc (.cells #[.bool (s.R k).mute, .int .i64 (s.R k).nc, .int .i64 (s.R k).nt, .int .i64 (s.R k).sc, .int .i64 (s.R k).st, .slice (PA k) (s.R k).ne (PX k), .int .i64 (s.R k).bc, .int .i64 (s.R k).bt] 43)).alloc (.cells #[] 3)).heap.size = wr.heap.size + 1 + 1 := by simp
   have nums : Num ((wr.alloc (.cells #[.bool (s.R k).mute, .int .i64 (s.R k).nc, .int .i64 (s.R k).nt, .int .i64 (s.R k).sc, .int .i64 (s.R k).st, .slice (PA k) (s.R k).ne (PX k), .int .i64 (s.R k).bc, .int .i64 (s.R k).bt] 43)).alloc (.cells #[] 3)) (PA k) (s.R k).ne (s.R k).E := ((HV.out.below hI.b).1.2 k hlt).below hA
   have lit : IE ((wr.alloc (.cells #[.bool (s.R k).mute, .int .i64 (s.R k).nc, .int .i64 (s.R k).nt, .int .i64 (s.R k).sc, .int .i64 (s.R k).st, .slice (PA k) (s.R k).ne (PX k), .int .i64 (s.R k).bc, .int .i64 (s.R k).bt] 43)).alloc (.cells #[] 3)) w.heap.size (.slice (some ⟨wr.heap.size + 1, 0, none⟩) 0 0) 0 (fun _ => 0) := by have := IE.lit (wr.alloc (.cells #[.bool (s.R k).mute, .int .i64 (s.R k).nc, .int .i64 (s.R k).nt, .int .i64 (s.R k).sc, .int .i64 (s.R k).st, .slice (PA k) (s.R k).ne (PX k), .int .i64 (s.R k).bc, .int .i64 (s.R k).bt] 43)) w.heap.size (Nat.le_trans hI.b.size hA1.size) (fun _ => 0); rw [z1] at this; exact this
   have ne1 : (s.R k).ne ≤ 1000 := MX.out.1.2 k hlt
   obtain ⟨v', w3, hr3, hE3, hg3, hl3⟩ := allIn ((wr.alloc (.cells #[.bool (s.R k).mute, .int .i64 (s.R k).nc, .int .i64 (s.R k).nt, .int .i64 (s.R k).sc, .int .i64 (s.R k).st, .slice (PA k) (s.R k).ne (PX k), .int .i64 (s.R k).bc, .int .i64 (s.R k).bt] 43)).alloc (.cells #[] 3)) w.heap.size (.slice (some ⟨wr.heap.size + 1, 0, none⟩) 0 0) 0 (fun _ => 0) (PA k) (s.R k).ne (PX k) (s.R k).E (Nat.le_trans hI.b.size hA.size) (by omega) lit nums (ZP.out.1 k hlt)
   rw [Nat.zero_add, catE_zero] at hE3
   obtain ⟨va, vc, rfl⟩ := hE3.form
   have fresh : ∀ g, (Value.slice va (s.R k).ne vc).ownBlock = some g → wr.heap.size ≤ g ∧ g ≠ wr.heap.size := fun g e => by
    rcases hl3 with q | q
    ·rw [q] at e; have e' : wr.heap.size + 1 = g := Option.some.inj e; omega
    ·rw [q, z2] at e; have e' := Option.some.inj e; omega
   have nb : wr.heap.size ≠ wr.heap.size + 1 := by omega
   have R3 : BxF w3 wr.heap.size 43 8 (rpV (s.R k) (.slice (PA k) (s.R k).ne (PX k))) := ((BxF.rp wr (s.R k) _).alloc _).keepB (hg3.block _ (by rw [z2]; omega) (fun e => by have e' : wr.heap.size = wr.heap.size + 1 := Option.some.inj e; omega))
   have hI3 : IE w3 w.heap.size (.slice va (s.R k).ne vc) (s.R k).ne (s.R k).E := hE3
   have R4 : Hid (BxF (w3.setCell ⟨wr.heap.size, 5, none⟩ (.slice va (s.R k).ne vc)) wr.heap.size 43 8 (rpV (s.R k) (.slice va (s.R k).ne vc))) := R3.set 5 _ (fun i hi => by rcases (show i = 0 ∨ i = 1 ∨ i = 2 ∨ i = 3 ∨ i = 4 ∨ i = 5 ∨ i = 6 ∨ i = 7 by omega) with rfl | rfl | rfl | rfl | rfl | rfl | rfl | rfl <;> rfl)
   have I4 : Hid (IE (w3.setCell ⟨wr.heap.size, 5, none⟩ (.slice va (s.R k).ne vc)) w.heap.size (.slice va (s.R k).ne vc) (s.R k).ne (s.R k).E) := EO.keep hI3 (fun g e => Below.heap_setCell w3 ⟨wr.heap.size, 5, none⟩ _ g (fresh g e).2)
   have B4 : Hid (Below wr.heap.size wr (w3.setCell ⟨wr.heap.size, 5, none⟩ (.slice va (s.R k).ne vc))) := (hA.trans ((Below.refl _ _).grown hg3 hA.size (fun g e => by have e' : wr.heap.size + 1 = g := Option.some.inj e; omega))).setCell (Nat.le_refl _) _
   have FR : Hid (∀ g, (Value.slice va (s.R k).ne vc).ownBlock = some g → wr.heap.size ≤ g) := fun g e => (fresh g e).1
   have HAP : Hid _ := hr3
   have f5 := World.rowIs.frozen R3 5
   have g5 : w3.cell? ⟨wr.heap.size, 5, none⟩ = some (.slice (PA k) (s.R k).ne (PX k)) := R3.cell 5 (by omega)
   clear hc hA1 hA2 hA z1 z2 nums lit hr3 hE3 hg3 hl3 fresh R3 hI3 nb ne1
   go_upto_region 7 with (at_builtin; refine Lib.wpList_append_run _ rfl (.tmp 28) (.tmp 30) _ _ rfl _ _ rfl rfl _ _ (HAP.out _) ?_)
   generalize (w3.setCell ⟨wr.heap.size, 5, none⟩ (.slice va (s.R k).ne vc)) = w4 at *
   obtain ⟨vr, vw, vq, VR, VW, VQ, hxo, hO, hD⟩ := hI.o
   obtain ⟨ra, rc, rfl⟩ := hO.r.form
   have hxo4 := hxo.below B4.out
   have hO4 := hO.below B4.out
   have o0 := hxo4.c0
   have d0 : w4.cell? ⟨wr.heap.size, 0, none⟩ = some (.bool (s.R k).mute) := R4.out.cell 0 (by omega)
   have d1 : w4.cell? ⟨wr.heap.size, 1, none⟩ = some (.int .i64 (s.R k).nc) := R4.out.cell 1 (by omega)
   have d2 : w4.cell? ⟨wr.heap.size, 2, none⟩ = some (.int .i64 (s.R k).nt) := R4.out.cell 2 (by omega)
   have d3 : w4.cell? ⟨wr.heap.size, 3, none⟩ = some (.int .i64 (s.R k).sc) := R4.out.cell 3 (by omega)
   have d4 : w4.cell? ⟨wr.heap.size, 4, none⟩ = some (.int .i64 (s.R k).st) := R4.out.cell 4 (by omega)
   have d5 : w4.cell? ⟨wr.heap.size, 5, none⟩ = some (.slice va (s.R k).ne vc) := R4.out.cell 5 (by omega)
   have d6 : w4.cell? ⟨wr.heap.size, 6, none⟩ = some (.int .i64 (s.R k).bc) := R4.out.cell 6 (by omega)
   have d7 : w4.cell? ⟨wr.heap.size, 7, none⟩ = some (.int .i64 (s.R k).bt) := R4.out.cell 7 (by omega)
   have hB5 : Below w4.heap.size w4 (w4.alloc (.cells #[.bool (s.R k).mute, .int .i64 (s.R k).nc, .int .i64 (s.R k).nt, .int .i64 (s.R k).sc, .int .i64 (s.R k).st, .slice va (s.R k).ne vc, .int .i64 (s.R k).bc, .int .i64 (s.R k).bt] 43)) := (Below.refl _ _).alloc (Nat.le_refl _) _
   have w4s : w.heap.size ≤ w4.heap.size := Nat.le_trans hI.b.size B4.out.size
   obtain ⟨v2, w6, hr6, hE6, hg6, hl6⟩ := appRp (w4.alloc (.cells #[.bool (s.R k).mute, .int .i64 (s.R k).nc, .int .i64 (s.R k).nt, .int .i64 (s.R k).sc, .int .i64 (s.R k).st, .slice va (s.R k).ne vc, .int .i64 (s.R k).bc, .int .i64 (s.R k).bt] 43)) w.heap.size (.slice ra k rc) k w4.heap.size s.R VR (s.R k) (.slice va (s.R k).ne vc) rfl (Nat.le_trans w4s hB5.size) (by have := HLT.out; omega) (hO4.r.below hB5) (fun j hj => by rw [Nat.zero_add, World.cell?_alloc_at (w := w4) _ _ _ j rfl]; rcases (show j = 0 ∨ j = 1 ∨ j = 2 ∨ j = 3 ∨ j = 4 ∨ j = 5 ∨ j = 6 ∨ j = 7 by omega) with rfl | rfl | rfl | rfl | rfl | rfl | rfl | rfl <;> rfl)
   obtain ⟨ua, uc, rfl⟩ := hE6.form
   have x6 : Box4 w6 ob 28 (.slice ra k rc) (.int .i64 s.t) (vw) (vq) := (hxo4.below hB5).ofBlock (hg6.block _ (hxo4.below hB5).lt (fun e => hO4.r.notB4 hxo4 (by decide) e.symm))
   have F7 : ∀ g, g < w4.heap.size → (Value.slice ra k rc).ownBlock ≠ some g → g ≠ ob → (w6.setCell ⟨ob, 0, none⟩ (.slice ua (k + 1) uc)).heap[g]? = w4.heap[g]? := fun g hg h1 h2 => (Below.heap_setCell w6 ⟨ob, 0, none⟩ _ g h2).trans ((hg6.block g (Nat.lt_of_lt_of_le hg hB5.size) (fun e => h1 e.symm)).trans (hB5.block g hg))
   have E7 : EO (w6.setCell ⟨ob, 0, none⟩ (.slice ua (k + 1) uc)) w.heap.size 43 8 (.slice ua (k + 1) uc) (k + 1) (rpF (updE s.R k (s.R k)) (updE VR k (.slice va (s.R k).ne vc))) := hE6.keep (fun g e => Below.heap_setCell w6 ⟨ob, 0, none⟩ _ g (fun z => hE6.notB4 x6 (by decide) (by have z' : g = ob := z; rw [z'] at e; exact e)))
   have I7 : IE (w6.setCell ⟨ob, 0, none⟩ (.slice ua (k + 1) uc)) w.heap.size (.slice va (s.R k).ne vc) (s.R k).ne (s.R k).E := EO.keep I4.out (fun g e => F7 g (EO.ge I4.out g e).2 (fun z => EO.apart I4.out hO4.r (by decide) g e z) (fun z => EO.notB4 I4.out hxo4 (by decide) (z ▸ e)))
   have G7 : ∀ g, g < wr.heap.size → (Value.slice ra k rc).ownBlock ≠ some g → g ≠ ob → (w6.setCell ⟨ob, 0, none⟩ (.slice ua (k + 1) uc)).heap[g]? = wr.heap[g]? := fun g hg h1 h2 => (F7 g (Nat.lt_of_lt_of_le hg B4.out.size) h1 h2).trans (B4.out.block g hg)
   have P7 := SvO.pushR hxo hO hD G7 E7 I7 FR.out
   dsimp only at P7
   rw [updE_self] at P7
   have kb : ∀ {q : Nat} {x y z u : Value}, Box4 wr q 28 x y z u → q ≠ ob → Box4 (w6.setCell ⟨ob, 0, none⟩ (.slice ua (k + 1) uc)) q 28 x y z u := fun hq hne => hq.ofBlock (G7 _ hq.lt (fun e => hO.r.notB4 hq (by decide) e) hne)
   have N7 : Hid (OwI w s ⟨pa, pb, pd, PA, PB, PD, PX, PY, PZ, ca, cb, cd⟩ w.heap.size rb ob (k + 1) 0 0 (w6.setCell ⟨ob, 0, none⟩ (.slice ua (k + 1) uc))) := ⟨kb hI.x (by have := NE.out; omega), kb hI.r (by have := NE.out; omega), ⟨(.slice ua (k + 1) uc), vw, vq, (updE VR k (.slice va (s.R k).ne vc)), VW, VQ, x6.set0 _, P7.1, P7.2⟩, ((hI.b.trans (B4.out.mono hI.b.size)).trans ((hB5.mono w4s).trans ((Below.refl _ _).grown hg6 (Nat.le_trans w4s hB5.size) (fun g e => (hO.r.ge g e).1)))).setCell (by have := NE.out; show w.heap.size ≤ ob; omega) _⟩
   have HAP2 : Hid _ := hr6
   have f0 := x6.fr 0
   have y0 := x6.c0
   clear ea c0 c1 c2 c3 c4 c5 c6 c7 x0 g5 hxo hO hD hxo4 hO4 hB5 w4s hr6 hE6 hg6 hl6 x6 F7 E7 I7 G7 P7 kb hI HI R4 I4 B4 FR HAP
   go_wp2_with (at_builtin; refine Lib.wpList_append_run _ rfl (.tmp 34) (.tmp 36) _ _ rfl _ _ rfl rfl _ _ (HAP2.out _) ?_)
   go_roundw
   case rel => exact ⟨⟨k + 1, by have := HLT.out; omega, by go_num, N7.out⟩, EA.out.symm⟩
   case measure => have := HLT.out; simp [intOf]; omega
  ·obtain rfl : k = s.n := by omega
   have hlt' : ¬ (s.n : Int) < (s.n : Int) := by omega
   have I1 : Hid (OwI w s ⟨pa, pb, pd, PA, PB, PD, PX, PY, PZ, ca, cb, cd⟩ w.heap.size rb ob s.n 0 0 wr) := hI
   clear hI HI hk hlt
   go_wp2
   go_loopw [6] (fun i wr => ∃ k : Nat, k ≤ s.m ∧ i = .int .i64 (k : Int) ∧ OwI w s ⟨pa, pb, pd, PA, PB, PD, PX, PY, PZ, ca, cb, cd⟩ w.heap.size rb ob s.n k 0 wr) (fun i _ => s.m - (intOf i).toNat)
   case atStart => exact ⟨0, by omega, rfl, I1.out⟩
   case round =>
    clear I1
    obtain ⟨k, hk, rfl, hI⟩ := hrel
    have HI : Hid (OwI w s ⟨pa, pb, pd, PA, PB, PD, PX, PY, PZ, ca, cb, cd⟩ w.heap.size rb ob s.n k 0 wr) := hI
    have x2 := hI.x.c2
    by_cases hlt : k < s.m
    ·have hlt' : (k : Int) < (s.m : Int) := by omega
     have HLT : Hid (k < s.m ∧ k ≤ 1000) := ⟨hlt, by have := MX.out.2.1.1; omega⟩
     obtain ⟨eb, off, ea, hc⟩ := (HV.out.below hI.b).2.1.at hlt
     dsimp only at ea
     have EA : Hid (pb = some ⟨eb, off, none⟩) := ea
     rw [ea] at x2
     have k1000 : (k : Int) ≤ 1000 := by have := HLT.out; omega
     have c0 : wr.cell? ⟨eb, off + k * 5, none⟩ = some (.int .i64 (s.W k).mc) := hc 0 (by omega)
     have c1 : wr.cell? ⟨eb, off + k * 5 + 1, none⟩ = some (.int .i64 (s.W k).mt) := hc 1 (by omega)
     have c2 : wr.cell? ⟨eb, off + k * 5 + 2, none⟩ = some (.slice (PB k) (s.W k).ne (PY k)) := hc 2 (by omega)
     have c3 : wr.cell? ⟨eb, off + k * 5 + 3, none⟩ = some (.int .i64 (s.W k).bg) := hc 3 (by omega)
     have c4 : wr.cell? ⟨eb, off + k * 5 + 4, none⟩ = some (.int .i64 (s.W k).en) := hc 4 (by omega)
     have hA1 : Below wr.heap.size wr (wr.alloc (.cells #[.int .i64 (s.W k).mc, .int .i64 (s.W k).mt, .slice (PB k) (s.W k).ne (PY k), .int .i64 (s.W k).bg, .int .i64 (s.W k).en] 37)) := (Below.refl _ _).alloc (Nat.le_refl _) _
     have hA2 : Below (wr.alloc (.cells #[.int .i64 (s.W k).mc, .int .i64 (s.W k).mt, .slice (PB k) (s.W k).ne (PY k), .int .i64 (s.W k).bg, .int .i64 (s.W k).en] 37)).heap.size (wr.alloc (.cells #[.int .i64 (s.W k).mc, .int .i64 (s.W k).mt, .slice (PB k) (s.W k).ne (PY k), .int .i64 (s.W k).bg, .int .i64 (s.W k).en] 37)) ((wr.alloc (.cells #[.int .i64 (s.W k).mc, .int .i64 (s.W k).mt, .slice (PB k) (s.W k).ne (PY k), .int .i64 (s.W k).bg, .int .i64 (s.W k).en] 37)).alloc (.cells #[] 3)) := (Below.refl _ _).alloc (Nat.le_refl _) _
     have hA : Below wr.heap.size wr ((wr.alloc (.cells #[.int .i64 (s.W k).mc, .int .i64 (s.W k).mt, .slice (PB k) (s.W k).ne (PY k), .int .i64 (s.W k).bg, .int .i64 (s.W k).en] 37)).alloc (.cells #[] 3)) := hA1.trans (hA2.mono hA1.size)
     have z1 : (wr.alloc (.cells #[.int .i64 (s.W k).mc, .int .i64 (s.W k).mt, .slice (PB k) (s.W k).ne (PY k), .int .i64 (s.W k).bg, .int .i64 (s.W k).en] 37)).heap.size = wr.heap.size + 1 := by simp
     have z2 : ((wr.alloc (.cells #[.int .i64 (s.W k).mc, .int .i64 (s.W k).mt, .slice (PB k) (s.W k).ne (PY k), .int .i64 (s.W k).bg, .int .i64 (s.W k).en] 37)).alloc (.cells #[] 3)).heap.size = wr.heap.size + 1 + 1 := by simp
     have nums : Num ((wr.alloc (.cells #[.int .i64 (s.W k).mc, .int .i64 (s.W k).mt, .slice (PB k) (s.W k).ne (PY k), .int .i64 (s.W k).bg, .int .i64 (s.W k).en] 37)).alloc (.cells #[] 3)) (PB k) (s.W k).ne (s.W k).E := ((HV.out.below hI.b).2.1.2 k hlt).below hA
     have lit : IE ((wr.alloc (.cells #[.int .i64 (s.W k).mc, .int .i64 (s.W k).mt, .slice (PB k) (s.W k).ne (PY k), .int .i64 (s.W k).bg, .int .i64 (s.W k).en] 37)).alloc (.cells #[] 3)) w.heap.size (.slice (some ⟨wr.heap.size + 1, 0, none⟩) 0 0) 0 (fun _ => 0) := by have := IE.lit (wr.alloc (.cells #[.int .i64 (s.W k).mc, .int .i64 (s.W k).mt, .slice (PB k) (s.W k).ne (PY k), .int .i64 (s.W k).bg, .int .i64 (s.W k).en] 37)) w.heap.size (Nat.le_trans hI.b.size hA1.size) (fun _ => 0); rw [z1] at this; exact this
     have ne1 : (s.W k).ne ≤ 1000 := MX.out.2.1.2 k hlt
     obtain ⟨v', w3, hr3, hE3, hg3, hl3⟩ := allIn ((wr.alloc (.cells #[.int .i64 (s.W k).mc, .int .i64 (s.W k).mt, .slice (PB k) (s.W k).ne (PY k), .int .i64 (s.W k).bg, .int .i64 (s.W k).en] 37)).alloc (.cells #[] 3)) w.heap.size (.slice (some ⟨wr.heap.size + 1, 0, none⟩) 0 0) 0 (fun _ => 0) (PB k) (s.W k).ne (PY k) (s.W k).E (Nat.le_trans hI.b.size hA.size) (by omega) lit nums (ZP.out.2.1 k hlt)
     rw [Nat.zero_add, catE_zero] at hE3
     obtain ⟨va, vc, rfl⟩ := hE3.form
     have fresh : ∀ g, (Value.slice va (s.W k).ne vc).ownBlock = some g → wr.heap.size ≤ g ∧ g ≠ wr.heap.size := fun g e => by
      rcases hl3 with q | q
      ·rw [q] at e; have e' : wr.heap.size + 1 = g := Option.some.inj e; omega
      ·rw [q, z2] at e; have e' := Option.some.inj e; omega
     have nb : wr.heap.size ≠ wr.heap.size + 1 := by omega
     have R3 : BxF w3 wr.heap.size 37 5 (woV (s.W k) (.slice (PB k) (s.W k).ne (PY k))) := ((BxF.wo wr (s.W k) _).alloc _).keepB (hg3.block _ (by rw [z2]; omega) (fun e => by have e' : wr.heap.size = wr.heap.size + 1 := Option.some.inj e; omega))
     have hI3 : IE w3 w.heap.size (.slice va (s.W k).ne vc) (s.W k).ne (s.W k).E := hE3
     have R4 : Hid (BxF (w3.setCell ⟨wr.heap.size, 2, none⟩ (.slice va (s.W k).ne vc)) wr.heap.size 37 5 (woV (s.W k) (.slice va (s.W k).ne vc))) := R3.set 2 _ (fun i hi => by rcases (show i = 0 ∨ i = 1 ∨ i = 2 ∨ i = 3 ∨ i = 4 by omega) with rfl | rfl | rfl | rfl | rfl <;> rfl)
     have I4 : Hid (IE (w3.setCell ⟨wr.heap.size, 2, none⟩ (.slice va (s.W k).ne vc)) w.heap.size (.slice va (s.W k).ne vc) (s.W k).ne (s.W k).E) := EO.keep hI3 (fun g e => Below.heap_setCell w3 ⟨wr.heap.size, 2, none⟩ _ g (fresh g e).2)
     have B4 : Hid (Below wr.heap.size wr (w3.setCell ⟨wr.heap.size, 2, none⟩ (.slice va (s.W k).ne vc))) := (hA.trans ((Below.refl _ _).grown hg3 hA.size (fun g e => by have e' : wr.heap.size + 1 = g := Option.some.inj e; omega))).setCell (Nat.le_refl _) _
     have FR : Hid (∀ g, (Value.slice va (s.W k).ne vc).ownBlock = some g → wr.heap.size ≤ g) := fun g e => (fresh g e).1
     have HAP : Hid _ := hr3
     have f2 := World.rowIs.frozen R3 2
     have g2 : w3.cell? ⟨wr.heap.size, 2, none⟩ = some (.slice (PB k) (s.W k).ne (PY k)) := R3.cell 2 (by omega)
     clear hc hA1 hA2 hA z1 z2 nums lit hr3 hE3 hg3 hl3 fresh R3 hI3 nb ne1
     go_upto_region 13 with (at_builtin; refine Lib.wpList_append_run _ rfl (.tmp 51) (.tmp 53) _ _ rfl _ _ rfl rfl _ _ (HAP.out _) ?_)
     generalize (w3.setCell ⟨wr.heap.size, 2, none⟩ (.slice va (s.W k).ne vc)) = w4 at *
     obtain ⟨vr, vw, vq, VR, VW, VQ, hxo, hO, hD⟩ := hI.o
     obtain ⟨ra, rc, rfl⟩ := hO.x.form
     have hxo4 := hxo.below B4.out
     have hO4 := hO.below B4.out
     have o2 := hxo4.c2
     have d0 : w4.cell? ⟨wr.heap.size, 0, none⟩ = some (.int .i64 (s.W k).mc) := R4.out.cell 0 (by omega)
     have d1 : w4.cell? ⟨wr.heap.size, 1, none⟩ = some (.int .i64 (s.W k).mt) := R4.out.cell 1 (by omega)
     have d2 : w4.cell? ⟨wr.heap.size, 2, none⟩ = some (.slice va (s.W k).ne vc) := R4.out.cell 2 (by omega)
     have d3 : w4.cell? ⟨wr.heap.size, 3, none⟩ = some (.int .i64 (s.W k).bg) := R4.out.cell 3 (by omega)
     have d4 : w4.cell? ⟨wr.heap.size, 4, none⟩ = some (.int .i64 (s.W k).en) := R4.out.cell 4 (by omega)
     have hB5 : Below w4.heap.size w4 (w4.alloc (.cells #[.int .i64 (s.W k).mc, .int .i64 (s.W k).mt, .slice va (s.W k).ne vc, .int .i64 (s.W k).bg, .int .i64 (s.W k).en] 37)) := (Below.refl _ _).alloc (Nat.le_refl _) _
     have w4s : w.heap.size ≤ w4.heap.size := Nat.le_trans hI.b.size B4.out.size
     obtain ⟨v2, w6, hr6, hE6, hg6, hl6⟩ := appWo (w4.alloc (.cells #[.int .i64 (s.W k).mc, .int .i64 (s.W k).mt, .slice va (s.W k).ne vc, .int .i64 (s.W k).bg, .int .i64 (s.W k).en] 37)) w.heap.size (.slice ra k rc) k w4.heap.size s.W VW (s.W k) (.slice va (s.W k).ne vc) rfl (Nat.le_trans w4s hB5.size) (by have := HLT.out; omega) (hO4.x.below hB5) (fun j hj => by rw [Nat.zero_add, World.cell?_alloc_at (w := w4) _ _ _ j rfl]; rcases (show j = 0 ∨ j = 1 ∨ j = 2 ∨ j = 3 ∨ j = 4 by omega) with rfl | rfl | rfl | rfl | rfl <;> rfl)
     obtain ⟨ua, uc, rfl⟩ := hE6.form
     have x6 : Box4 w6 ob 28 (vr) (.int .i64 s.t) (.slice ra k rc) (vq) := (hxo4.below hB5).ofBlock (hg6.block _ (hxo4.below hB5).lt (fun e => hO4.x.notB4 hxo4 (by decide) e.symm))
     have F7 : ∀ g, g < w4.heap.size → (Value.slice ra k rc).ownBlock ≠ some g → g ≠ ob → (w6.setCell ⟨ob, 2, none⟩ (.slice ua (k + 1) uc)).heap[g]? = w4.heap[g]? := fun g hg h1 h2 => (Below.heap_setCell w6 ⟨ob, 2, none⟩ _ g h2).trans ((hg6.block g (Nat.lt_of_lt_of_le hg hB5.size) (fun e => h1 e.symm)).trans (hB5.block g hg))
     have E7 : EO (w6.setCell ⟨ob, 2, none⟩ (.slice ua (k + 1) uc)) w.heap.size 37 5 (.slice ua (k + 1) uc) (k + 1) (woF (updE s.W k (s.W k)) (updE VW k (.slice va (s.W k).ne vc))) := hE6.keep (fun g e => Below.heap_setCell w6 ⟨ob, 2, none⟩ _ g (fun z => hE6.notB4 x6 (by decide) (by have z' : g = ob := z; rw [z'] at e; exact e)))
     have I7 : IE (w6.setCell ⟨ob, 2, none⟩ (.slice ua (k + 1) uc)) w.heap.size (.slice va (s.W k).ne vc) (s.W k).ne (s.W k).E := EO.keep I4.out (fun g e => F7 g (EO.ge I4.out g e).2 (fun z => EO.apart I4.out hO4.x (by decide) g e z) (fun z => EO.notB4 I4.out hxo4 (by decide) (z ▸ e)))
     have G7 : ∀ g, g < wr.heap.size → (Value.slice ra k rc).ownBlock ≠ some g → g ≠ ob → (w6.setCell ⟨ob, 2, none⟩ (.slice ua (k + 1) uc)).heap[g]? = wr.heap[g]? := fun g hg h1 h2 => (F7 g (Nat.lt_of_lt_of_le hg B4.out.size) h1 h2).trans (B4.out.block g hg)
     have P7 := SvO.pushW hxo hO hD G7 E7 I7 FR.out
     dsimp only at P7
     rw [updE_self] at P7
     have kb : ∀ {q : Nat} {x y z u : Value}, Box4 wr q 28 x y z u → q ≠ ob → Box4 (w6.setCell ⟨ob, 2, none⟩ (.slice ua (k + 1) uc)) q 28 x y z u := fun hq hne => hq.ofBlock (G7 _ hq.lt (fun e => hO.x.notB4 hq (by decide) e) hne)
     have N7 : Hid (OwI w s ⟨pa, pb, pd, PA, PB, PD, PX, PY, PZ, ca, cb, cd⟩ w.heap.size rb ob s.n (k + 1) 0 (w6.setCell ⟨ob, 2, none⟩ (.slice ua (k + 1) uc))) := ⟨kb hI.x (by have := NE.out; omega), kb hI.r (by have := NE.out; omega), ⟨vr, (.slice ua (k + 1) uc), vq, VR, (updE VW k (.slice va (s.W k).ne vc)), VQ, x6.set2 _, P7.1, P7.2⟩, ((hI.b.trans (B4.out.mono hI.b.size)).trans ((hB5.mono w4s).trans ((Below.refl _ _).grown hg6 (Nat.le_trans w4s hB5.size) (fun g e => (hO.x.ge g e).1)))).setCell (by have := NE.out; show w.heap.size ≤ ob; omega) _⟩
     have HAP2 : Hid _ := hr6
     have f2 := x6.fr 2
     have y2 := x6.c2
     clear ea c0 c1 c2 c3 c4 x2 g2 hxo hO hD hxo4 hO4 hB5 w4s hr6 hE6 hg6 hl6 x6 F7 E7 I7 G7 P7 kb hI HI R4 I4 B4 FR HAP
     go_wp2_with (at_builtin; refine Lib.wpList_append_run _ rfl (.tmp 57) (.tmp 59) _ _ rfl _ _ rfl rfl _ _ (HAP2.out _) ?_)
     go_roundw
     case rel => exact ⟨⟨k + 1, by have := HLT.out; omega, by go_num, N7.out⟩, EA.out.symm⟩
     case measure => have := HLT.out; simp [intOf]; omega
    ·obtain rfl : k = s.m := by omega
     have hlt' : ¬ (s.m : Int) < (s.m : Int) := by omega
     have I2 : Hid (OwI w s ⟨pa, pb, pd, PA, PB, PD, PX, PY, PZ, ca, cb, cd⟩ w.heap.size rb ob s.n s.m 0 wr) := hI
     clear hI HI hk hlt
     go_wp2
     go_loopw [8] (fun i wr => ∃ k : Nat, k ≤ s.l ∧ i = .int .i64 (k : Int) ∧ OwI w s ⟨pa, pb, pd, PA, PB, PD, PX, PY, PZ, ca, cb, cd⟩ w.heap.size rb ob s.n s.m k wr) (fun i _ => s.l - (intOf i).toNat)
     case atStart => exact ⟨0, by omega, rfl, I2.out⟩
     case round =>
      clear I2
      obtain ⟨k, hk, rfl, hI⟩ := hrel
      have HI : Hid (OwI w s ⟨pa, pb, pd, PA, PB, PD, PX, PY, PZ, ca, cb, cd⟩ w.heap.size rb ob s.n s.m k wr) := hI
      have x3 := hI.x.c3
      by_cases hlt : k < s.l
      ·have hlt' : (k : Int) < (s.l : Int) := by omega
       have HLT : Hid (k < s.l ∧ k ≤ 1000) := ⟨hlt, by have := MX.out.2.2.1; omega⟩
       obtain ⟨eb, off, ea, hc⟩ := (HV.out.below hI.b).2.2.at hlt
       dsimp only at ea
       have EA : Hid (pd = some ⟨eb, off, none⟩) := ea
       rw [ea] at x3
       have k1000 : (k : Int) ≤ 1000 := by have := HLT.out; omega
       have c0 : wr.cell? ⟨eb, off + k * 5, none⟩ = some (.slice (PD k) (s.Q k).ne (PZ k)) := hc 0 (by omega)
       have c1 : wr.cell? ⟨eb, off + k * 5 + 1, none⟩ = some (.int .i64 (s.Q k).bc) := hc 1 (by omega)
       have c2 : wr.cell? ⟨eb, off + k * 5 + 2, none⟩ = some (.int .i64 (s.Q k).bt) := hc 2 (by omega)
       have c3 : wr.cell? ⟨eb, off + k * 5 + 3, none⟩ = some (.int .i64 (s.Q k).bg) := hc 3 (by omega)
       have c4 : wr.cell? ⟨eb, off + k * 5 + 4, none⟩ = some (.int .i64 (s.Q k).en) := hc 4 (by omega)
       have hA1 : Below wr.heap.size wr (wr.alloc (.cells #[.slice (PD k) (s.Q k).ne (PZ k), .int .i64 (s.Q k).bc, .int .i64 (s.Q k).bt, .int .i64 (s.Q k).bg, .int .i64 (s.Q k).en] 90)) := (Below.refl _ _).alloc (Nat.le_refl _) _
       have hA2 : Below (wr.alloc (.cells #[.slice (PD k) (s.Q k).ne (PZ k), .int .i64 (s.Q k).bc, .int .i64 (s.Q k).bt, .int .i64 (s.Q k).bg, .int .i64 (s.Q k).en] 90)).heap.size (wr.alloc (.cells #[.slice (PD k) (s.Q k).ne (PZ k), .int .i64 (s.Q k).bc, .int .i64 (s.Q k).bt, .int .i64 (s.Q k).bg, .int .i64 (s.Q k).en] 90)) ((wr.alloc (.cells #[.slice (PD k) (s.Q k).ne (PZ k), .int .i64 (s.Q k).bc, .int .i64 (s.Q k).bt, .int .i64 (s.Q k).bg, .int .i64 (s.Q k).en] 90)).alloc (.cells #[] 3)) := (Below.refl _ _).alloc (Nat.le_refl _) _
       have hA : Below wr.heap.size wr ((wr.alloc (.cells #[.slice (PD k) (s.Q k).ne (PZ k), .int .i64 (s.Q k).bc, .int .i64 (s.Q k).bt, .int .i64 (s.Q k).bg, .int .i64 (s.Q k).en] 90)).alloc (.cells #[] 3)) := hA1.trans (hA2.mono hA1.size)
       have z1 : (wr.alloc (.cells #[.slice (PD k) (s.Q k).ne (PZ k), .int .i64 (s.Q k).bc, .int .i64 (s.Q k).bt, .int .i64 (s.Q k).bg, .int .i64 (s.Q k).en] 90)).heap.size = wr.heap.size + 1 := by simp
       have z2 : ((wr.alloc (.cells #[.slice (PD k) (s.Q k).ne (PZ k), .int .i64 (s.Q k).bc, .int .i64 (s.Q k).bt, .int .i64 (s.Q k).bg, .int .i64 (s.Q k).en] 90)).alloc (.cells #[] 3)).heap.size = wr.heap.size + 1 + 1 := by simp
       have nums : Num ((wr.alloc (.cells #[.slice (PD k) (s.Q k).ne (PZ k), .int .i64 (s.Q k).bc, .int .i64 (s.Q k).bt, .int .i64 (s.Q k).bg, .int .i64 (s.Q k).en] 90)).alloc (.cells #[] 3)) (PD k) (s.Q k).ne (s.Q k).E := ((HV.out.below hI.b).2.2.2 k hlt).below hA
       have lit : IE ((wr.alloc (.cells #[.slice (PD k) (s.Q k).ne (PZ k), .int .i64 (s.Q k).bc, .int .i64 (s.Q k).bt, .int .i64 (s.Q k).bg, .int .i64 (s.Q k).en] 90)).alloc (.cells #[] 3)) w.heap.size (.slice (some ⟨wr.heap.size + 1, 0, none⟩) 0 0) 0 (fun _ => 0) := by have := IE.lit (wr.alloc (.cells #[.slice (PD k) (s.Q k).ne (PZ k), .int .i64 (s.Q k).bc, .int .i64 (s.Q k).bt, .int .i64 (s.Q k).bg, .int .i64 (s.Q k).en] 90)) w.heap.size (Nat.le_trans hI.b.size hA1.size) (fun _ => 0); rw [z1] at this; exact this
       have ne1 : (s.Q k).ne ≤ 1000 := MX.out.2.2.2 k hlt
       obtain ⟨v', w3, hr3, hE3, hg3, hl3⟩ := allIn ((wr.alloc (.cells #[.slice (PD k) (s.Q k).ne (PZ k), .int .i64 (s.Q k).bc, .int .i64 (s.Q k).bt, .int .i64 (s.Q k).bg, .int .i64 (s.Q k).en] 90)).alloc (.cells #[] 3)) w.heap.size (.slice (some ⟨wr.heap.size + 1, 0, none⟩) 0 0) 0 (fun _ => 0) (PD k) (s.Q k).ne (PZ k) (s.Q k).E (Nat.le_trans hI.b.size hA.size) (by omega) lit nums (ZP.out.2.2 k hlt)
       rw [Nat.zero_add, catE_zero] at hE3
       obtain ⟨va, vc, rfl⟩ := hE3.form
       have fresh : ∀ g, (Value.slice va (s.Q k).ne vc).ownBlock = some g → wr.heap.size ≤ g ∧ g ≠ wr.heap.size := fun g e => by
        rcases hl3 with q | q
        ·rw [q] at e; have e' : wr.heap.size + 1 = g := Option.some.inj e; omega
        ·rw [q, z2] at e; have e' := Option.some.inj e; omega
       have nb : wr.heap.size ≠ wr.heap.size + 1 := by omega
       have R3 : BxF w3 wr.heap.size 90 5 (roV (s.Q k) (.slice (PD k) (s.Q k).ne (PZ k))) := ((BxF.ro wr (s.Q k) _).alloc _).keepB (hg3.block _ (by rw [z2]; omega) (fun e => by have e' : wr.heap.size = wr.heap.size + 1 := Option.some.inj e; omega))
       have hI3 : IE w3 w.heap.size (.slice va (s.Q k).ne vc) (s.Q k).ne (s.Q k).E := hE3
       have R4 : Hid (BxF (w3.setCell ⟨wr.heap.size, 0, none⟩ (.slice va (s.Q k).ne vc)) wr.heap.size 90 5 (roV (s.Q k) (.slice va (s.Q k).ne vc))) := R3.set 0 _ (fun i hi => by rcases (show i = 0 ∨ i = 1 ∨ i = 2 ∨ i = 3 ∨ i = 4 by omega) with rfl | rfl | rfl | rfl | rfl <;> rfl)
       have I4 : Hid (IE (w3.setCell ⟨wr.heap.size, 0, none⟩ (.slice va (s.Q k).ne vc)) w.heap.size (.slice va (s.Q k).ne vc) (s.Q k).ne (s.Q k).E) := EO.keep hI3 (fun g e => Below.heap_setCell w3 ⟨wr.heap.size, 0, none⟩ _ g (fresh g e).2)
       have B4 : Hid (Below wr.heap.size wr (w3.setCell ⟨wr.heap.size, 0, none⟩ (.slice va (s.Q k).ne vc))) := (hA.trans ((Below.refl _ _).grown hg3 hA.size (fun g e => by have e' : wr.heap.size + 1 = g := Option.some.inj e; omega))).setCell (Nat.le_refl _) _
       have FR : Hid (∀ g, (Value.slice va (s.Q k).ne vc).ownBlock = some g → wr.heap.size ≤ g) := fun g e => (fresh g e).1
       have HAP : Hid _ := hr3
       have f0 := World.rowIs.frozen R3 0
       have g0 : w3.cell? ⟨wr.heap.size, 0, none⟩ = some (.slice (PD k) (s.Q k).ne (PZ k)) := R3.cell 0 (by omega)
       clear hc hA1 hA2 hA z1 z2 nums lit hr3 hE3 hg3 hl3 fresh R3 hI3 nb ne1
       go_upto_region 19 with (at_builtin; refine Lib.wpList_append_run _ rfl (.tmp 74) (.tmp 76) _ _ rfl _ _ rfl rfl _ _ (HAP.out _) ?_)
       generalize (w3.setCell ⟨wr.heap.size, 0, none⟩ (.slice va (s.Q k).ne vc)) = w4 at *
       obtain ⟨vr, vw, vq, VR, VW, VQ, hxo, hO, hD⟩ := hI.o
       obtain ⟨ra, rc, rfl⟩ := hO.q.form
       have hxo4 := hxo.below B4.out
       have hO4 := hO.below B4.out
       have o3 := hxo4.c3
       have d0 : w4.cell? ⟨wr.heap.size, 0, none⟩ = some (.slice va (s.Q k).ne vc) := R4.out.cell 0 (by omega)
       have d1 : w4.cell? ⟨wr.heap.size, 1, none⟩ = some (.int .i64 (s.Q k).bc) := R4.out.cell 1 (by omega)
       have d2 : w4.cell? ⟨wr.heap.size, 2, none⟩ = some (.int .i64 (s.Q k).bt) := R4.out.cell 2 (by omega)
       have d3 : w4.cell? ⟨wr.heap.size, 3, none⟩ = some (.int .i64 (s.Q k).bg) := R4.out.cell 3 (by omega)
       have d4 : w4.cell? ⟨wr.heap.size, 4, none⟩ = some (.int .i64 (s.Q k).en) := R4.out.cell 4 (by omega)
       have hB5 : Below w4.heap.size w4 (w4.alloc (.cells #[.slice va (s.Q k).ne vc, .int .i64 (s.Q k).bc, .int .i64 (s.Q k).bt, .int .i64 (s.Q k).bg, .int .i64 (s.Q k).en] 90)) := (Below.refl _ _).alloc (Nat.le_refl _) _
       have w4s : w.heap.size ≤ w4.heap.size := Nat.le_trans hI.b.size B4.out.size
       obtain ⟨v2, w6, hr6, hE6, hg6, hl6⟩ := appRo (w4.alloc (.cells #[.slice va (s.Q k).ne vc, .int .i64 (s.Q k).bc, .int .i64 (s.Q k).bt, .int .i64 (s.Q k).bg, .int .i64 (s.Q k).en] 90)) w.heap.size (.slice ra k rc) k w4.heap.size s.Q VQ (s.Q k) (.slice va (s.Q k).ne vc) rfl (Nat.le_trans w4s hB5.size) (by have := HLT.out; omega) (hO4.q.below hB5) (fun j hj => by rw [Nat.zero_add, World.cell?_alloc_at (w := w4) _ _ _ j rfl]; rcases (show j = 0 ∨ j = 1 ∨ j = 2 ∨ j = 3 ∨ j = 4 by omega) with rfl | rfl | rfl | rfl | rfl <;> rfl)
       obtain ⟨ua, uc, rfl⟩ := hE6.form
       have x6 : Box4 w6 ob 28 (vr) (.int .i64 s.t) (vw) (.slice ra k rc) := (hxo4.below hB5).ofBlock (hg6.block _ (hxo4.below hB5).lt (fun e => hO4.q.notB4 hxo4 (by decide) e.symm))
       have F7 : ∀ g, g < w4.heap.size → (Value.slice ra k rc).ownBlock ≠ some g → g ≠ ob → (w6.setCell ⟨ob, 3, none⟩ (.slice ua (k + 1) uc)).heap[g]? = w4.heap[g]? := fun g hg h1 h2 => (Below.heap_setCell w6 ⟨ob, 3, none⟩ _ g h2).trans ((hg6.block g (Nat.lt_of_lt_of_le hg hB5.size) (fun e => h1 e.symm)).trans (hB5.block g hg))
       have E7 : EO (w6.setCell ⟨ob, 3, none⟩ (.slice ua (k + 1) uc)) w.heap.size 90 5 (.slice ua (k + 1) uc) (k + 1) (roF (updE s.Q k (s.Q k)) (updE VQ k (.slice va (s.Q k).ne vc))) := hE6.keep (fun g e => Below.heap_setCell w6 ⟨ob, 3, none⟩ _ g (fun z => hE6.notB4 x6 (by decide) (by have z' : g = ob := z; rw [z'] at e; exact e)))
       have I7 : IE (w6.setCell ⟨ob, 3, none⟩ (.slice ua (k + 1) uc)) w.heap.size (.slice va (s.Q k).ne vc) (s.Q k).ne (s.Q k).E := EO.keep I4.out (fun g e => F7 g (EO.ge I4.out g e).2 (fun z => EO.apart I4.out hO4.q (by decide) g e z) (fun z => EO.notB4 I4.out hxo4 (by decide) (z ▸ e)))
       have G7 : ∀ g, g < wr.heap.size → (Value.slice ra k rc).ownBlock ≠ some g → g ≠ ob → (w6.setCell ⟨ob, 3, none⟩ (.slice ua (k + 1) uc)).heap[g]? = wr.heap[g]? := fun g hg h1 h2 => (F7 g (Nat.lt_of_lt_of_le hg B4.out.size) h1 h2).trans (B4.out.block g hg)
       have P7 := SvO.pushQ hxo hO hD G7 E7 I7 FR.out
       dsimp only at P7
       rw [updE_self] at P7
       have kb : ∀ {q : Nat} {x y z u : Value}, Box4 wr q 28 x y z u → q ≠ ob → Box4 (w6.setCell ⟨ob, 3, none⟩ (.slice ua (k + 1) uc)) q 28 x y z u := fun hq hne => hq.ofBlock (G7 _ hq.lt (fun e => hO.q.notB4 hq (by decide) e) hne)
       have N7 : Hid (OwI w s ⟨pa, pb, pd, PA, PB, PD, PX, PY, PZ, ca, cb, cd⟩ w.heap.size rb ob s.n s.m (k + 1) (w6.setCell ⟨ob, 3, none⟩ (.slice ua (k + 1) uc))) := ⟨kb hI.x (by have := NE.out; omega), kb hI.r (by have := NE.out; omega), ⟨vr, vw, (.slice ua (k + 1) uc), VR, VW, (updE VQ k (.slice va (s.Q k).ne vc)), x6.set3 _, P7.1, P7.2⟩, ((hI.b.trans (B4.out.mono hI.b.size)).trans ((hB5.mono w4s).trans ((Below.refl _ _).grown hg6 (Nat.le_trans w4s hB5.size) (fun g e => (hO.q.ge g e).1)))).setCell (by have := NE.out; show w.heap.size ≤ ob; omega) _⟩
       have HAP2 : Hid _ := hr6
       have f3 := x6.fr 3
       have y3 := x6.c3
       clear ea c0 c1 c2 c3 c4 x3 g0 hxo hO hD hxo4 hO4 hB5 w4s hr6 hE6 hg6 hl6 x6 F7 E7 I7 G7 P7 kb hI HI R4 I4 B4 FR HAP
       go_wp2_with (at_builtin; refine Lib.wpList_append_run _ rfl (.tmp 80) (.tmp 82) _ _ rfl _ _ rfl rfl _ _ (HAP2.out _) ?_)
       go_roundw
       case rel => exact ⟨⟨k + 1, by have := HLT.out; omega, by go_num, N7.out⟩, EA.out.symm⟩
       case measure => have := HLT.out; simp [intOf]; omega
      ·obtain rfl : k = s.l := by omega
       have hlt' : ¬ (s.l : Int) < (s.l : Int) := by omega
       obtain ⟨vr, vw, vq, VR, VW, VQ, hxo, hO, hD⟩ := hI.o
       obtain ⟨r1, r2, rfl⟩ := hO.r.form
       obtain ⟨t1, t2, rfl⟩ := hO.x.form
       obtain ⟨q1, q2, rfl⟩ := hO.q.form
       dsimp only at hxo hO hD
       have k0 := hxo.c0
       have k1 := hxo.c1
       have k2 := hxo.c2
       have k3 := hxo.c3
       have y0 := hI.r.c0
       have y1 := hI.r.c1
       have y2 := hI.r.c2
       have y3 := hI.r.c3
       have f0 := hI.r.fr 0
       have f1 := hI.r.fr 1
       have f2 := hI.r.fr 2
       have f3 := hI.r.fr 3
       have kp : ∀ g, g ≠ rb → ((((wr.setCell ⟨rb, 0, none⟩ (.slice r1 s.n r2)).setCell ⟨rb, 1, none⟩ (.int .i64 s.t)).setCell ⟨rb, 2, none⟩ (.slice t1 s.m t2)).setCell ⟨rb, 3, none⟩ (.slice q1 s.l q2)).heap[g]? = wr.heap[g]? := fun g hg => (Below.heap_setCell _ ⟨rb, 3, none⟩ _ g hg).trans ((Below.heap_setCell _ ⟨rb, 2, none⟩ _ g hg).trans ((Below.heap_setCell _ ⟨rb, 1, none⟩ _ g hg).trans (Below.heap_setCell _ ⟨rb, 0, none⟩ _ g hg)))
       have X9 : Hid (Box4 ((((wr.setCell ⟨rb, 0, none⟩ (.slice r1 s.n r2)).setCell ⟨rb, 1, none⟩ (.int .i64 s.t)).setCell ⟨rb, 2, none⟩ (.slice t1 s.m t2)).setCell ⟨rb, 3, none⟩ (.slice q1 s.l q2)) rb 28 (.slice r1 s.n r2) (.int .i64 s.t) (.slice t1 s.m t2) (.slice q1 s.l q2)) := (((hI.r.set0 _).set1 _).set2 _).set3 _
       have Q9 : Hid (RetOw w.heap.size s (.returned (.agg #[.slice r1 s.n r2, .int .i64 s.t, .slice t1 s.m t2, .slice q1 s.l q2])) ((((wr.setCell ⟨rb, 0, none⟩ (.slice r1 s.n r2)).setCell ⟨rb, 1, none⟩ (.int .i64 s.t)).setCell ⟨rb, 2, none⟩ (.slice t1 s.m t2)).setCell ⟨rb, 3, none⟩ (.slice q1 s.l q2))) := ⟨_, _, _, VR, VW, VQ, rfl, ⟨hO.r.keep (fun g e => kp g (fun z => hO.r.notB4 hI.r (by decide) (z ▸ e))), hO.x.keep (fun g e => kp g (fun z => hO.x.notB4 hI.r (by decide) (z ▸ e))), hO.q.keep (fun g e => kp g (fun z => hO.q.notB4 hI.r (by decide) (z ▸ e))), fun i hi => EO.keep (hO.e i hi) (fun g e => kp g (fun z => EO.notB4 (hO.e i hi) hI.r (by decide) (z ▸ e))), fun i hi => EO.keep (hO.a i hi) (fun g e => kp g (fun z => EO.notB4 (hO.a i hi) hI.r (by decide) (z ▸ e))), fun i hi => EO.keep (hO.f i hi) (fun g e => kp g (fun z => EO.notB4 (hO.f i hi) hI.r (by decide) (z ▸ e)))⟩, hD⟩
       have rg : w.heap.size ≤ rb := by have := NE.out; omega
       have B9 : Hid (Below w.heap.size w ((((wr.setCell ⟨rb, 0, none⟩ (.slice r1 s.n r2)).setCell ⟨rb, 1, none⟩ (.int .i64 s.t)).setCell ⟨rb, 2, none⟩ (.slice t1 s.m t2)).setCell ⟨rb, 3, none⟩ (.slice q1 s.l q2))) := (((hI.b.setCell (p := ⟨rb, 0, none⟩) rg _).setCell (p := ⟨rb, 1, none⟩) rg _).setCell (p := ⟨rb, 2, none⟩) rg _).setCell (p := ⟨rb, 3, none⟩) rg _
       clear hI HI hxo hO hD kp NE ZP MX HV rg hk hlt
       go_wp2
       exact ret_cell (b := rb) Try.results33 rfl (Box4.loadsv X9.out) ⟨Q9.out, B9.out⟩
end Go.Proofs.Ytedncfcmhaaobaa
