/-
  Texts of the proof, joined: QuCp.
-/
import Derived.Test.YtedncfcmhaaobaaZ22
import Derived.Test.YtedncfcmhaaobaaZ30
import Derived.Deep.DeepCutAuto
import Derived.Test.YtedncfcmhaaobaaTkH
namespace Go.Proofs.Ytedncfcmhaaobaa
open Go.ChangeShapes Go.WideShapes Go.ChangeAt Go.RowKit
set_option linter.unusedVariables false
def SzO (p : Sa) : Prop := (p.a = none → p.ca = 0) ∧ (p.b = none → p.cb = 0) ∧ (p.d = none → p.cd = 0)
structure CoO (w : World) (B : Nat) (s : Sv) (p : Sa) (kr kw kq : Nat) (vr vw vq : Value) (VR VW VQ : Nat → Value) : Prop where
 r : EO w B 43 8 vr s.n (rpF s.R VR)
 x : EO w B 37 5 vw s.m (woF s.W VW)
 q : EO w B 90 5 vq s.l (roF s.Q VQ)
 e : ∀ i, i < kr → IE w B (VR i) (s.R i).ne (s.R i).E
 a : ∀ i, i < kw → IE w B (VW i) (s.W i).ne (s.W i).E
 f : ∀ i, i < kq → IE w B (VQ i) (s.Q i).ne (s.Q i).E
 d : SvD { s with n := kr, m := kw, l := kq } VR VW VQ
 tr : ∀ i, kr ≤ i → VR i = .slice (p.A i) (s.R i).ne (p.X i)
 tw : ∀ i, kw ≤ i → VW i = .slice (p.B i) (s.W i).ne (p.Y i)
 tq : ∀ i, kq ≤ i → VQ i = .slice (p.D i) (s.Q i).ne (p.Z i)
theorem EO.otherB {w : World} {B b : Nat} {t tb : TypeId} {k n : Nat} {v x y z m : Value} {F : Nat → Nat → Value} (h : EO w B t k v n F) (hx : Box4 w b tb x y z m) (ht : tb ≠ t) (i : Nat) (u : Value) : EO (w.setCell ⟨b, i, none⟩ u) B t k v n F := h.keep (fun g e => Below.heap_setCell w ⟨b, i, none⟩ u g (fun q => h.notB4 hx ht (by have q' : g = b := q; rw [← q']; exact e)))
theorem CoO.stepR {w w2 : World} {B : Nat} {s : Sv} {p : Sa} {k kw kq g rc : Nat} {vw vq : Value} {VR VW VQ : Nat → Value} (h : CoO w B s p k kw kq (.slice (some ⟨g, 0, none⟩) s.n rc) vw vq VR VW VQ) (hk : k < s.n) {v : Value} (hb : Below w.heap.size w w2) (hl : IE w2 B v (s.R k).ne (s.R k).E) (hv : ∀ q, v.ownBlock = some q → w.heap.size ≤ q) :
  CoO (w2.setCell ⟨g, k * 8 + 5, none⟩ v) B s p (k + 1) kw kq (.slice (some ⟨g, 0, none⟩) s.n rc) vw vq (updE VR k v) VW VQ := by
 have R1 : RkR w2 B g rc s.n s.R VR k (s.R k) (VR k) := by unfold RkR; rw [updE_self, updE_self]; exact h.r.below hb
 have kp : ∀ q, q ≠ g → (w2.setCell ⟨g, k * 8 + 5, none⟩ v).heap[q]? = w2.heap[q]? := fun q e => Below.heap_setCell w2 ⟨g, k * 8 + 5, none⟩ v q e
 have gl : g < w.heap.size := (h.r.ge g rfl).2
 have lt : ∀ i g, i < k + 1 → (updE VR k v i).ownBlock = some g → (i < k ∧ (VR i).ownBlock = some g) ∨ (i = k ∧ w.heap.size ≤ g) := fun i g hi e => by
  rw [updE_at] at e
  split at e
  ·rename_i q; exact .inr ⟨q, hv g e⟩
  ·exact .inl ⟨by omega, e⟩
 refine ⟨?_, (h.x.below hb).keep (fun q e => kp q (fun z => h.r.apart h.x (by decide) g rfl (by have z2 : q = g := z; rw [← z2]; exact e))), (h.q.below hb).keep (fun q e => kp q (fun z => h.r.apart h.q (by decide) g rfl (by have z2 : q = g := z; rw [← z2]; exact e))), fun i hi => ?_, fun i hi => EO.keep (EO.below (h.a i hi) hb) (fun q e => kp q (fun z => EO.apart (h.a i hi) h.r (by decide) g (by have z2 : q = g := z; rw [← z2]; exact e) rfl)), fun i hi => EO.keep (EO.below (h.f i hi) hb) (fun q e => kp q (fun z => EO.apart (h.f i hi) h.r (by decide) g (by have z2 : q = g := z; rw [← z2]; exact e) rfl)), ⟨fun i j g hi hj e1 e2 => ?_, h.d.2.1, h.d.2.2.1, fun i j g hi hj e1 e2 => ?_, fun i j g hi hj e1 e2 => ?_, h.d.2.2.2.2.2⟩, fun i hi => by rw [updE_ne _ _ (by omega)]; exact h.tr i (by omega), h.tw, h.tq⟩
 ·have R2 := R1.set hk (j := 5) (by omega) v (r' := s.R k) (v' := v) (fun i hi => by rcases (show i = 0 ∨ i = 1 ∨ i = 2 ∨ i = 3 ∨ i = 4 ∨ i = 5 ∨ i = 6 ∨ i = 7 by omega) with rfl | rfl | rfl | rfl | rfl | rfl | rfl | rfl <;> rfl)
  unfold RkR at R2
  rw [updE_self] at R2
  exact R2
 ·rw [updE_at]
  by_cases q : i = k
  ·rw [if_pos q, q]; exact EO.keep hl (fun q e => kp q (by have := hv q e; omega))
  ·rw [if_neg q]
   have hi' : i < k := by omega
   exact EO.keep (EO.below (h.e i hi') hb) (fun q e => kp q (fun z => EO.apart (h.e i hi') h.r (by decide) g (by have z2 : q = g := z; rw [← z2]; exact e) rfl))
 ·rcases lt i g hi e1 with ⟨p, q⟩ | ⟨p, q⟩ <;> rcases lt j g hj e2 with ⟨p2, q2⟩ | ⟨p2, q2⟩
  ·exact h.d.1 i j g p p2 q q2
  ·have := (EO.ge (h.e i p) g q).2; omega
  ·have := (EO.ge (h.e j p2) g q2).2; omega
  ·omega
 ·rcases lt i g hi e1 with ⟨p, q⟩ | ⟨p, q⟩
  ·exact h.d.2.2.2.1 i j g p hj q e2
  ·have := (EO.ge (h.a j hj) g e2).2; omega
 ·rcases lt i g hi e1 with ⟨p, q⟩ | ⟨p, q⟩
  ·exact h.d.2.2.2.2.1 i j g p hj q e2
  ·have := (EO.ge (h.f j hj) g e2).2; omega
theorem CoO.stepW {w w2 : World} {B : Nat} {s : Sv} {p : Sa} {k kr kq g rc : Nat} {vr vq : Value} {VR VW VQ : Nat → Value} (h : CoO w B s p kr k kq vr (.slice (some ⟨g, 0, none⟩) s.m rc) vq VR VW VQ) (hk : k < s.m) {v : Value} (hb : Below w.heap.size w w2) (hl : IE w2 B v (s.W k).ne (s.W k).E) (hv : ∀ q, v.ownBlock = some q → w.heap.size ≤ q) :
  CoO (w2.setCell ⟨g, k * 5 + 2, none⟩ v) B s p kr (k + 1) kq vr (.slice (some ⟨g, 0, none⟩) s.m rc) vq VR (updE VW k v) VQ := by
 have R1 : RkW w2 B g rc s.m s.W VW k (s.W k) (VW k) := by unfold RkW; rw [updE_self, updE_self]; exact h.x.below hb
 have kp : ∀ q, q ≠ g → (w2.setCell ⟨g, k * 5 + 2, none⟩ v).heap[q]? = w2.heap[q]? := fun q e => Below.heap_setCell w2 ⟨g, k * 5 + 2, none⟩ v q e
 have gl : g < w.heap.size := (h.x.ge g rfl).2
 have lt : ∀ i g, i < k + 1 → (updE VW k v i).ownBlock = some g → (i < k ∧ (VW i).ownBlock = some g) ∨ (i = k ∧ w.heap.size ≤ g) := fun i g hi e => by
  rw [updE_at] at e
  split at e
  ·rename_i q; exact .inr ⟨q, hv g e⟩
  ·exact .inl ⟨by omega, e⟩
 refine ⟨(h.r.below hb).keep (fun q e => kp q (fun z => h.x.apart h.r (by decide) g rfl (by have z2 : q = g := z; rw [← z2]; exact e))), ?_, (h.q.below hb).keep (fun q e => kp q (fun z => h.x.apart h.q (by decide) g rfl (by have z2 : q = g := z; rw [← z2]; exact e))), fun i hi => EO.keep (EO.below (h.e i hi) hb) (fun q e => kp q (fun z => EO.apart (h.e i hi) h.x (by decide) g (by have z2 : q = g := z; rw [← z2]; exact e) rfl)), fun i hi => ?_, fun i hi => EO.keep (EO.below (h.f i hi) hb) (fun q e => kp q (fun z => EO.apart (h.f i hi) h.x (by decide) g (by have z2 : q = g := z; rw [← z2]; exact e) rfl)), ⟨h.d.1, fun i j g hi hj e1 e2 => ?_, h.d.2.2.1, fun i j g hi hj e1 e2 => ?_, h.d.2.2.2.2.1, fun i j g hi hj e1 e2 => ?_⟩, h.tr, fun i hi => by rw [updE_ne _ _ (by omega)]; exact h.tw i (by omega), h.tq⟩
 ·have R2 := R1.set hk (j := 2) (by omega) v (r' := s.W k) (v' := v) (fun i hi => by rcases (show i = 0 ∨ i = 1 ∨ i = 2 ∨ i = 3 ∨ i = 4 by omega) with rfl | rfl | rfl | rfl | rfl <;> rfl)
  unfold RkW at R2
  rw [updE_self] at R2
  exact R2
 ·rw [updE_at]
  by_cases q : i = k
  ·rw [if_pos q, q]; exact EO.keep hl (fun q e => kp q (by have := hv q e; omega))
  ·rw [if_neg q]
   have hi' : i < k := by omega
   exact EO.keep (EO.below (h.a i hi') hb) (fun q e => kp q (fun z => EO.apart (h.a i hi') h.x (by decide) g (by have z2 : q = g := z; rw [← z2]; exact e) rfl))
 ·rcases lt i g hi e1 with ⟨p, q⟩ | ⟨p, q⟩ <;> rcases lt j g hj e2 with ⟨p2, q2⟩ | ⟨p2, q2⟩
  ·exact h.d.2.1 i j g p p2 q q2
  ·have := (EO.ge (h.a i p) g q).2; omega
  ·have := (EO.ge (h.a j p2) g q2).2; omega
  ·omega
 ·rcases lt j g hj e2 with ⟨p, q⟩ | ⟨p, q⟩
  ·exact h.d.2.2.2.1 i j g hi p e1 q
  ·have := (EO.ge (h.e i hi) g e1).2; omega
 ·rcases lt i g hi e1 with ⟨p, q⟩ | ⟨p, q⟩
  ·exact h.d.2.2.2.2.2 i j g p hj q e2
  ·have := (EO.ge (h.f j hj) g e2).2; omega
theorem CoO.stepQ {w w2 : World} {B : Nat} {s : Sv} {p : Sa} {k kr kw g rc : Nat} {vr vw : Value} {VR VW VQ : Nat → Value} (h : CoO w B s p kr kw k vr vw (.slice (some ⟨g, 0, none⟩) s.l rc) VR VW VQ) (hk : k < s.l) {v : Value} (hb : Below w.heap.size w w2) (hl : IE w2 B v (s.Q k).ne (s.Q k).E) (hv : ∀ q, v.ownBlock = some q → w.heap.size ≤ q) :
  CoO (w2.setCell ⟨g, k * 5 + 0, none⟩ v) B s p kr kw (k + 1) vr vw (.slice (some ⟨g, 0, none⟩) s.l rc) VR VW (updE VQ k v) := by
 have R1 : RkQ w2 B g rc s.l s.Q VQ k (s.Q k) (VQ k) := by unfold RkQ; rw [updE_self, updE_self]; exact h.q.below hb
 have kp : ∀ q, q ≠ g → (w2.setCell ⟨g, k * 5 + 0, none⟩ v).heap[q]? = w2.heap[q]? := fun q e => Below.heap_setCell w2 ⟨g, k * 5 + 0, none⟩ v q e
 have gl : g < w.heap.size := (h.q.ge g rfl).2
 have lt : ∀ i g, i < k + 1 → (updE VQ k v i).ownBlock = some g → (i < k ∧ (VQ i).ownBlock = some g) ∨ (i = k ∧ w.heap.size ≤ g) := fun i g hi e => by
  rw [updE_at] at e
  split at e
  ·rename_i q; exact .inr ⟨q, hv g e⟩
  ·exact .inl ⟨by omega, e⟩
 refine ⟨(h.r.below hb).keep (fun q e => kp q (fun z => h.q.apart h.r (by decide) g rfl (by have z2 : q = g := z; rw [← z2]; exact e))), (h.x.below hb).keep (fun q e => kp q (fun z => h.q.apart h.x (by decide) g rfl (by have z2 : q = g := z; rw [← z2]; exact e))), ?_, fun i hi => EO.keep (EO.below (h.e i hi) hb) (fun q e => kp q (fun z => EO.apart (h.e i hi) h.q (by decide) g (by have z2 : q = g := z; rw [← z2]; exact e) rfl)), fun i hi => EO.keep (EO.below (h.a i hi) hb) (fun q e => kp q (fun z => EO.apart (h.a i hi) h.q (by decide) g (by have z2 : q = g := z; rw [← z2]; exact e) rfl)), fun i hi => ?_, ⟨h.d.1, h.d.2.1, fun i j g hi hj e1 e2 => ?_, h.d.2.2.2.1, fun i j g hi hj e1 e2 => ?_, fun i j g hi hj e1 e2 => ?_⟩, h.tr, h.tw, fun i hi => by rw [updE_ne _ _ (by omega)]; exact h.tq i (by omega)⟩
 ·have R2 := R1.set hk (j := 0) (by omega) v (r' := s.Q k) (v' := v) (fun i hi => by rcases (show i = 0 ∨ i = 1 ∨ i = 2 ∨ i = 3 ∨ i = 4 by omega) with rfl | rfl | rfl | rfl | rfl <;> rfl)
  unfold RkQ at R2
  rw [updE_self] at R2
  exact R2
 ·rw [updE_at]
  by_cases q : i = k
  ·rw [if_pos q, q]; exact EO.keep hl (fun q e => kp q (by have := hv q e; omega))
  ·rw [if_neg q]
   have hi' : i < k := by omega
   exact EO.keep (EO.below (h.f i hi') hb) (fun q e => kp q (fun z => EO.apart (h.f i hi') h.q (by decide) g (by have z2 : q = g := z; rw [← z2]; exact e) rfl))
 ·rcases lt i g hi e1 with ⟨p, q⟩ | ⟨p, q⟩ <;> rcases lt j g hj e2 with ⟨p2, q2⟩ | ⟨p2, q2⟩
  ·exact h.d.2.2.1 i j g p p2 q q2
  ·have := (EO.ge (h.f i p) g q).2; omega
  ·have := (EO.ge (h.f j p2) g q2).2; omega
  ·omega
 ·rcases lt j g hj e2 with ⟨p, q⟩ | ⟨p, q⟩
  ·exact h.d.2.2.2.2.1 i j g hi p e1 q
  ·have := (EO.ge (h.e i hi) g e1).2; omega
 ·rcases lt j g hj e2 with ⟨p, q⟩ | ⟨p, q⟩
  ·exact h.d.2.2.2.2.2 i j g hi p e1 q
  ·have := (EO.ge (h.a i hi) g e1).2; omega
structure CoI (w : World) (s : Sv) (p : Sa) (sb rb : Nat) (ra wa qa : Option Addr) (rc wc qc : Nat) (kr kw kq : Nat) (wr : World) : Prop where
 x : Box4 wr sb 28 (.slice ra s.n rc) (.int .i64 s.t) (.slice wa s.m wc) (.slice qa s.l qc)
 r : Box4 wr rb 28 (.slice none 0 0) (.int .i64 0) (.slice none 0 0) (.slice none 0 0)
 o : ∃ VR VW VQ, CoO wr w.heap.size s p kr kw kq (.slice ra s.n rc) (.slice wa s.m wc) (.slice qa s.l qc) VR VW VQ
 b : Below w.heap.size w wr
def CoG (w : World) (s : Sv) (p : Sa) (rb : Nat) (u : World) : Prop := Box4 u w.heap.size 28 (.slice p.a s.n p.ca) (.int .i64 s.t) (.slice p.b s.m p.cb) (.slice p.d s.l p.cd) ∧ Box4 u rb 28 (.slice none 0 0) (.int .i64 0) (.slice none 0 0) (.slice none 0 0)
theorem CoG.below {w u u' : World} {s : Sv} {p : Sa} {rb : Nat} (h : CoG w s p rb u) (hb : Below u.heap.size u u') : CoG w s p rb u' := ⟨h.1.below hb, h.2.below hb⟩
def CoER (w : World) (s : Sv) (p : Sa) (ra : Option Addr) (rc : Nat) (u : World) : Prop := EO u w.heap.size 43 8 (.slice ra s.n rc) s.n (rpF s.R (fun i => .slice (p.A i) (s.R i).ne (p.X i)))
theorem CoER.below {w u u' : World} {s : Sv} {p : Sa} {ra : Option Addr} {rc : Nat} (h : CoER w s p ra rc u) (hb : Below u.heap.size u u') : CoER w s p ra rc u' := EO.below h hb
def CoEW (w : World) (s : Sv) (p : Sa) (wa : Option Addr) (wc : Nat) (u : World) : Prop := EO u w.heap.size 37 5 (.slice wa s.m wc) s.m (woF s.W (fun i => .slice (p.B i) (s.W i).ne (p.Y i)))
theorem CoEW.below {w u u' : World} {s : Sv} {p : Sa} {wa : Option Addr} {wc : Nat} (h : CoEW w s p wa wc u) (hb : Below u.heap.size u u') : CoEW w s p wa wc u' := EO.below h hb
def CoEQ (w : World) (s : Sv) (p : Sa) (qa : Option Addr) (qc : Nat) (u : World) : Prop := EO u w.heap.size 90 5 (.slice qa s.l qc) s.l (roF s.Q (fun i => .slice (p.D i) (s.Q i).ne (p.Z i)))
structure CoS (w : World) (s : Sv) (p : Sa) (rb : Nat) (ra wa qa : Option Addr) (rc wc qc : Nat) (x y z : Value) (u : World) : Prop where
 x : Box4 u w.heap.size 28 x (.int .i64 s.t) y z
 r : Box4 u rb 28 (.slice none 0 0) (.int .i64 0) (.slice none 0 0) (.slice none 0 0)
 er : EO u w.heap.size 43 8 (.slice ra s.n rc) s.n (rpF s.R (fun i => .slice (p.A i) (s.R i).ne (p.X i)))
 ew : EO u w.heap.size 37 5 (.slice wa s.m wc) s.m (woF s.W (fun i => .slice (p.B i) (s.W i).ne (p.Y i)))
 eq : EO u w.heap.size 90 5 (.slice qa s.l qc) s.l (roF s.Q (fun i => .slice (p.D i) (s.Q i).ne (p.Z i)))
 b : Below w.heap.size w u
theorem CoS.st0 {w u : World} {s : Sv} {p : Sa} {rb : Nat} {ra wa qa : Option Addr} {rc wc qc : Nat} {x y z : Value} (h : CoS w s p rb ra wa qa rc wc qc x y z u) (hne : rb ≠ w.heap.size) (v : Value) : CoS w s p rb ra wa qa rc wc qc v y z (u.setCell ⟨w.heap.size, 0, none⟩ v) :=
 ⟨h.x.set0 v, h.r.ofBlock (Below.heap_setCell u ⟨w.heap.size, 0, none⟩ _ rb hne), h.er.otherB h.x (by decide) 0 v, h.ew.otherB h.x (by decide) 0 v, h.eq.otherB h.x (by decide) 0 v, h.b.setCell (Nat.le_refl _) _⟩
theorem CoS.st2 {w u : World} {s : Sv} {p : Sa} {rb : Nat} {ra wa qa : Option Addr} {rc wc qc : Nat} {x y z : Value} (h : CoS w s p rb ra wa qa rc wc qc x y z u) (hne : rb ≠ w.heap.size) (v : Value) : CoS w s p rb ra wa qa rc wc qc x v z (u.setCell ⟨w.heap.size, 2, none⟩ v) :=
 ⟨h.x.set2 v, h.r.ofBlock (Below.heap_setCell u ⟨w.heap.size, 2, none⟩ _ rb hne), h.er.otherB h.x (by decide) 2 v, h.ew.otherB h.x (by decide) 2 v, h.eq.otherB h.x (by decide) 2 v, h.b.setCell (Nat.le_refl _) _⟩
theorem CoS.st3 {w u : World} {s : Sv} {p : Sa} {rb : Nat} {ra wa qa : Option Addr} {rc wc qc : Nat} {x y z : Value} (h : CoS w s p rb ra wa qa rc wc qc x y z u) (hne : rb ≠ w.heap.size) (v : Value) : CoS w s p rb ra wa qa rc wc qc x y v (u.setCell ⟨w.heap.size, 3, none⟩ v) :=
 ⟨h.x.set3 v, h.r.ofBlock (Below.heap_setCell u ⟨w.heap.size, 3, none⟩ _ rb hne), h.er.otherB h.x (by decide) 3 v, h.ew.otherB h.x (by decide) 3 v, h.eq.otherB h.x (by decide) 3 v, h.b.setCell (Nat.le_refl _) _⟩
theorem CoS.i {w u : World} {s : Sv} {p : Sa} {rb : Nat} {ra wa qa : Option Addr} {rc wc qc : Nat} (h : CoS w s p rb ra wa qa rc wc qc (.slice ra s.n rc) (.slice wa s.m wc) (.slice qa s.l qc) u) : CoI w s p w.heap.size rb ra wa qa rc wc qc 0 0 0 u :=
 ⟨h.x, h.r, ⟨_, _, _, ⟨h.er, h.ew, h.eq, fun i hi => absurd hi (Nat.not_lt_zero i), fun i hi => absurd hi (Nat.not_lt_zero i), fun i hi => absurd hi (Nat.not_lt_zero i), ⟨fun i j q hi => absurd hi (Nat.not_lt_zero i), fun i j q hi => absurd hi (Nat.not_lt_zero i), fun i j q hi => absurd hi (Nat.not_lt_zero i), fun i j q hi => absurd hi (Nat.not_lt_zero i), fun i j q hi => absurd hi (Nat.not_lt_zero i), fun i j q hi => absurd hi (Nat.not_lt_zero i)⟩, fun i hi => rfl, fun i hi => rfl, fun i hi => rfl⟩⟩, h.b⟩
theorem els_none {w : World} {k n : Nat} {F : Nat → Nat → Value} (h : Els w k none n F) : n = 0 := by
 rcases Nat.eq_zero_or_pos n with q | q
 ·exact q
 ·obtain ⟨b, off, e, _⟩ := h.opened q
  cases e
set_option maxRecDepth 100000 in
set_option maxHeartbeats 8000000 in
theorem copied_any (s : Sv) (p : Sa) (hmx : s.max 1000) (w : World) (h : SvV w s p) (hzp : SzP s p) (hzo : SzO p) :
  Calls Try.prog 30 #[.agg #[.slice p.a s.n p.ca, .int .i64 s.t, .slice p.b s.m p.cb, .slice p.d s.l p.cd]] w fun e w' => RetOw w.heap.size s e w' ∧ Below w.heap.size w w' := by
 obtain ⟨pa, pb, pd, PA, PB, PD, PX, PY, PZ, ca, cb, cd⟩ := p
 have HV : Hid (SvV w s ⟨pa, pb, pd, PA, PB, PD, PX, PY, PZ, ca, cb, cd⟩) := h
 have MX : Hid (s.max 1000) := hmx
 have ZP : Hid (SzP s ⟨pa, pb, pd, PA, PB, PD, PX, PY, PZ, ca, cb, cd⟩) := hzp
 have CLR : Hid (∀ u : World, Below w.heap.size w u → Calls Try.prog 67 #[.slice pa s.n ca] u fun e w' => RetCRp s.n s.R (fun i => .slice (PA i) (s.R i).ne (PX i)) u.heap.size e w' ∧ Below u.heap.size u w') := fun u hu => cloneRp_any pa s.n ca s.R _ (fun _ => rfl) u (by have := hmx.1.1; omega) (h.below hu).1.1 (fun e => ⟨(by subst e; exact els_none (h.below hu).1.1), hzo.1 e⟩)
 have CLW : Hid (∀ u : World, Below w.heap.size w u → Calls Try.prog 68 #[.slice pb s.m cb] u fun e w' => RetCWo s.m s.W (fun i => .slice (PB i) (s.W i).ne (PY i)) u.heap.size e w' ∧ Below u.heap.size u w') := fun u hu => cloneWo_any pb s.m cb s.W _ (fun _ => rfl) u (by have := hmx.2.1.1; omega) (h.below hu).2.1.1 (fun e => ⟨(by subst e; exact els_none (h.below hu).2.1.1), hzo.2.1 e⟩)
 have CLQ : Hid (∀ u : World, Below w.heap.size w u → Calls Try.prog 69 #[.slice pd s.l cd] u fun e w' => RetCRo s.l s.Q (fun i => .slice (PD i) (s.Q i).ne (PZ i)) u.heap.size e w' ∧ Below u.heap.size u w') := fun u hu => cloneRo_any pd s.l cd s.Q _ (fun _ => rfl) u (by have := hmx.2.2.1; omega) (h.below hu).2.2.1 (fun e => ⟨(by subst e; exact els_none (h.below hu).2.2.1), hzo.2.2 e⟩)
 have B0 : Hid (Below w.heap.size w ((w.alloc (.cells #[.slice pa s.n ca, .int .i64 s.t, .slice pb s.m cb, .slice pd s.l cd] 28)).alloc (.cells #[.slice none 0 0, .int .i64 0, .slice none 0 0, .slice none 0 0] 28))) := ((Below.refl w.heap.size w).alloc (Nat.le_refl _) _).alloc (by simp) _
 have X : Hid (Box4 ((w.alloc (.cells #[.slice pa s.n ca, .int .i64 s.t, .slice pb s.m cb, .slice pd s.l cd] 28)).alloc (.cells #[.slice none 0 0, .int .i64 0, .slice none 0 0, .slice none 0 0] 28)) w.heap.size 28 (.slice pa s.n ca) (.int .i64 s.t) (.slice pb s.m cb) (.slice pd s.l cd)) := (Box4.madeAt rfl _ _ _ _ _).alloc _
 have R0 : Hid (Box4 ((w.alloc (.cells #[.slice pa s.n ca, .int .i64 s.t, .slice pb s.m cb, .slice pd s.l cd] 28)).alloc (.cells #[.slice none 0 0, .int .i64 0, .slice none 0 0, .slice none 0 0] 28)) (w.heap.size + 1) 28 (.slice none 0 0) (.int .i64 0) (.slice none 0 0) (.slice none 0 0)) := Box4.madeAt (by simp) _ _ _ _ _
 clear h hmx hzp hzo
 dsimp only
 go_enter Try.func30, Try.ntmps30
 go_wp2_with fail
 generalize ((w.alloc (.cells #[.slice pa s.n ca, .int .i64 s.t, .slice pb s.m cb, .slice pd s.l cd] 28)).alloc (.cells #[.slice none 0 0, .int .i64 0, .slice none 0 0, .slice none 0 0] 28)) = v at *
 obtain ⟨rb, hrb⟩ : ∃ x, x = w.heap.size + 1 := ⟨_, rfl⟩
 have NE : Hid (rb ≠ w.heap.size) := by show _ ≠ _; omega
 rw [← hrb]
 rw [← hrb] at R0
 have NR : Hid (w.heap.size ≤ rb) := by show _ ≤ _; omega
 clear hrb
 go_cut [1] (fun pv wx => pv = .pointer (some ⟨w.heap.size, 0, none⟩) ∧ ∃ (ra wa qa : Option Addr) (rc wc qc : Nat), CoI w s ⟨pa, pb, pd, PA, PB, PD, PX, PY, PZ, ca, cb, cd⟩ w.heap.size rb ra wa qa rc wc qc 0 0 0 wx)
 case first =>
  have G : Hid (CoG w s ⟨pa, pb, pd, PA, PB, PD, PX, PY, PZ, ca, cb, cd⟩ rb v.drew) := CoG.below ⟨X.out, R0.out⟩ ((Below.refl _ _).drew)
  clear X R0
  have H : Below w.heap.size w v.drew := B0.out.drew
  refine wp_region_noPanic ?_
  refine wp_region_held_drew (S := fun w' => Below w.heap.size w w') (by kernel_rfl) H (fun _ => ?_)
  generalize v.drew = y0 at *
  refine tkH (i := 0) (v := .pointer (some ⟨w.heap.size, 0, none⟩)) rfl (by kernel_rfl) (by rfl) ?_ H ?_
  ·intro w' hSw; clear hSw; go_simp
  refine tkH (i := 3) (v := .pointer (some ⟨w.heap.size, 2, none⟩)) rfl (by kernel_rfl) (by rfl) ?_ H ?_
  ·intro w' hSw; clear hSw; go_simp
  refine tkH (i := 6) (v := .pointer (some ⟨w.heap.size, 3, none⟩)) rfl (by kernel_rfl) (by rfl) ?_ H ?_
  ·intro w' hSw; clear hSw; go_simp
  change wpAnyH _ _ _ _ _ _ _ { tmps := #[_,_,_,_,_,_,_,_,_,_,_,_,_,_,_,_,_,_,_,_,_,_,_,_,_,_,_,_,_,_,_,_,_,_,_,_,_,_,_,_,_,_,_,_,_,_,_,_,_,_,_,_,_,_,_,_,_,_,_,_,_,_,_,_,_,_,_,_,_,_,_,_,_], defers := _ } _
  refine wpAnyH_ready (rs := [1, 4, 7]) (by kernel_rfl) (by simp) ?_
  refine (AllReadyH.cons rfl (fun KK hK => ?b1) (AllReadyH.cons rfl (fun KK hK => ?b2) (AllReadyH.cons rfl (fun KK hK => ?b3) AllReadyH.nil)))
  case' b1 =>
   have c0 := G.out.1.c0
   go_simp
   refine hK.out _ _ H (fun _ => ?_)
   clear hK KK
   change wpAnyH _ _ _ _ _ _ _ { tmps := #[_,_,_,_,_,_,_,_,_,_,_,_,_,_,_,_,_,_,_,_,_,_,_,_,_,_,_,_,_,_,_,_,_,_,_,_,_,_,_,_,_,_,_,_,_,_,_,_,_,_,_,_,_,_,_,_,_,_,_,_,_,_,_,_,_,_,_,_,_,_,_,_,_], defers := _ } _
   refine wpAnyH_ready (rs := [2, 4, 7]) (by kernel_rfl) (by simp) ?_
   refine (AllReadyH.cons rfl (fun KK hK => ?b4) (AllReadyH.cons rfl (fun KK hK => ?b5) (AllReadyH.cons rfl (fun KK hK => ?b6) AllReadyH.nil)))
   case' b4 =>
    go_simp
    refine (CLR.out y0 H).mono ?_
    rintro e y1 ⟨⟨ra, rc, rfl, hE⟩, hb⟩
    replace G : Hid (CoG w s ⟨pa, pb, pd, PA, PB, PD, PX, PY, PZ, ca, cb, cd⟩ rb y1) := G.out.below hb
    have BW := H.size
    replace H : Below w.heap.size w y1 := H.trans (hb.mono H.size)
    have ER : Hid (CoER w s ⟨pa, pb, pd, PA, PB, PD, PX, PY, PZ, ca, cb, cd⟩ ra rc y1) := EO.mono hE BW
    clear hb hE BW
    refine hK.out _ _ H (fun _ => ?_)
    clear hK KK
    change wpAnyH _ _ _ _ _ _ _ { tmps := #[_,_,_,_,_,_,_,_,_,_,_,_,_,_,_,_,_,_,_,_,_,_,_,_,_,_,_,_,_,_,_,_,_,_,_,_,_,_,_,_,_,_,_,_,_,_,_,_,_,_,_,_,_,_,_,_,_,_,_,_,_,_,_,_,_,_,_,_,_,_,_,_,_], defers := _ } _
    refine wpAnyH_ready (rs := [4, 7]) (by kernel_rfl) (by simp) ?_
    refine (AllReadyH.cons rfl (fun KK hK => ?b7) (AllReadyH.cons rfl (fun KK hK => ?b8) AllReadyH.nil))
    case' b7 =>
     have c2 := G.out.1.c2
     go_simp
     refine hK.out _ _ H (fun _ => ?_)
     clear hK KK
     change wpAnyH _ _ _ _ _ _ _ { tmps := #[_,_,_,_,_,_,_,_,_,_,_,_,_,_,_,_,_,_,_,_,_,_,_,_,_,_,_,_,_,_,_,_,_,_,_,_,_,_,_,_,_,_,_,_,_,_,_,_,_,_,_,_,_,_,_,_,_,_,_,_,_,_,_,_,_,_,_,_,_,_,_,_,_], defers := _ } _
     refine wpAnyH_ready (rs := [5, 7]) (by kernel_rfl) (by simp) ?_
     refine (AllReadyH.cons rfl (fun KK hK => ?b9) (AllReadyH.cons rfl (fun KK hK => ?b10) AllReadyH.nil))
     case' b9 =>
      go_simp
      refine (CLW.out y1 H).mono ?_
      rintro e y2 ⟨⟨wa, wc, rfl, hE⟩, hb⟩
      replace G : Hid (CoG w s ⟨pa, pb, pd, PA, PB, PD, PX, PY, PZ, ca, cb, cd⟩ rb y2) := G.out.below hb
      replace ER : Hid (CoER w s ⟨pa, pb, pd, PA, PB, PD, PX, PY, PZ, ca, cb, cd⟩ ra rc y2) := ER.out.below hb
      have BW := H.size
      replace H : Below w.heap.size w y2 := H.trans (hb.mono H.size)
      have EW : Hid (CoEW w s ⟨pa, pb, pd, PA, PB, PD, PX, PY, PZ, ca, cb, cd⟩ wa wc y2) := EO.mono hE BW
      clear hb hE BW
      refine hK.out _ _ H (fun _ => ?_)
      clear hK KK
      change wpAnyH _ _ _ _ _ _ _ { tmps := #[_,_,_,_,_,_,_,_,_,_,_,_,_,_,_,_,_,_,_,_,_,_,_,_,_,_,_,_,_,_,_,_,_,_,_,_,_,_,_,_,_,_,_,_,_,_,_,_,_,_,_,_,_,_,_,_,_,_,_,_,_,_,_,_,_,_,_,_,_,_,_,_,_], defers := _ } _
      refine rdH (i := 7) (by kernel_rfl) rfl (fun KK hK => ?_)
      have c3 := G.out.1.c3
      go_simp
      refine hK.out _ _ H (fun _ => ?_)
      clear hK KK
      refine tkH (i := 9) (v := .pointer (some ⟨w.heap.size, 0, none⟩)) rfl (by kernel_rfl) (by rfl) ?_ H ?_
      ·intro w' hSw; clear hSw; go_simp
      change wpAnyH _ _ _ _ _ _ _ { tmps := #[_,_,_,_,_,_,_,_,_,_,_,_,_,_,_,_,_,_,_,_,_,_,_,_,_,_,_,_,_,_,_,_,_,_,_,_,_,_,_,_,_,_,_,_,_,_,_,_,_,_,_,_,_,_,_,_,_,_,_,_,_,_,_,_,_,_,_,_,_,_,_,_,_], defers := _ } _
     case' b10 =>
      have c3 := G.out.1.c3
      go_simp
      refine hK.out _ _ H (fun _ => ?_)
      clear hK KK
      change wpAnyH _ _ _ _ _ _ _ { tmps := #[_,_,_,_,_,_,_,_,_,_,_,_,_,_,_,_,_,_,_,_,_,_,_,_,_,_,_,_,_,_,_,_,_,_,_,_,_,_,_,_,_,_,_,_,_,_,_,_,_,_,_,_,_,_,_,_,_,_,_,_,_,_,_,_,_,_,_,_,_,_,_,_,_], defers := _ } _
      refine tkH (i := 9) (v := .pointer (some ⟨w.heap.size, 0, none⟩)) rfl (by kernel_rfl) (by rfl) ?_ H ?_
      ·intro w' hSw; clear hSw; go_simp
      change wpAnyH _ _ _ _ _ _ _ { tmps := #[_,_,_,_,_,_,_,_,_,_,_,_,_,_,_,_,_,_,_,_,_,_,_,_,_,_,_,_,_,_,_,_,_,_,_,_,_,_,_,_,_,_,_,_,_,_,_,_,_,_,_,_,_,_,_,_,_,_,_,_,_,_,_,_,_,_,_,_,_,_,_,_,_], defers := _ } _
      refine rdH (i := 5) (by kernel_rfl) rfl (fun KK hK => ?_)
      go_simp
      refine (CLW.out y1 H).mono ?_
      rintro e y2 ⟨⟨wa, wc, rfl, hE⟩, hb⟩
      replace G : Hid (CoG w s ⟨pa, pb, pd, PA, PB, PD, PX, PY, PZ, ca, cb, cd⟩ rb y2) := G.out.below hb
      replace ER : Hid (CoER w s ⟨pa, pb, pd, PA, PB, PD, PX, PY, PZ, ca, cb, cd⟩ ra rc y2) := ER.out.below hb
      have BW := H.size
      replace H : Below w.heap.size w y2 := H.trans (hb.mono H.size)
      have EW : Hid (CoEW w s ⟨pa, pb, pd, PA, PB, PD, PX, PY, PZ, ca, cb, cd⟩ wa wc y2) := EO.mono hE BW
      clear hb hE BW
      refine hK.out _ _ H (fun _ => ?_)
      clear hK KK
      change wpAnyH _ _ _ _ _ _ _ { tmps := #[_,_,_,_,_,_,_,_,_,_,_,_,_,_,_,_,_,_,_,_,_,_,_,_,_,_,_,_,_,_,_,_,_,_,_,_,_,_,_,_,_,_,_,_,_,_,_,_,_,_,_,_,_,_,_,_,_,_,_,_,_,_,_,_,_,_,_,_,_,_,_,_,_], defers := _ } _
    case' b8 =>
     have c3 := G.out.1.c3
     go_simp
     refine hK.out _ _ H (fun _ => ?_)
     clear hK KK
     change wpAnyH _ _ _ _ _ _ _ { tmps := #[_,_,_,_,_,_,_,_,_,_,_,_,_,_,_,_,_,_,_,_,_,_,_,_,_,_,_,_,_,_,_,_,_,_,_,_,_,_,_,_,_,_,_,_,_,_,_,_,_,_,_,_,_,_,_,_,_,_,_,_,_,_,_,_,_,_,_,_,_,_,_,_,_], defers := _ } _
     refine rdH (i := 4) (by kernel_rfl) rfl (fun KK hK => ?_)
     have c2 := G.out.1.c2
     go_simp
     refine hK.out _ _ H (fun _ => ?_)
     clear hK KK
     refine tkH (i := 9) (v := .pointer (some ⟨w.heap.size, 0, none⟩)) rfl (by kernel_rfl) (by rfl) ?_ H ?_
     ·intro w' hSw; clear hSw; go_simp
     change wpAnyH _ _ _ _ _ _ _ { tmps := #[_,_,_,_,_,_,_,_,_,_,_,_,_,_,_,_,_,_,_,_,_,_,_,_,_,_,_,_,_,_,_,_,_,_,_,_,_,_,_,_,_,_,_,_,_,_,_,_,_,_,_,_,_,_,_,_,_,_,_,_,_,_,_,_,_,_,_,_,_,_,_,_,_], defers := _ } _
     refine rdH (i := 5) (by kernel_rfl) rfl (fun KK hK => ?_)
     go_simp
     refine (CLW.out y1 H).mono ?_
     rintro e y2 ⟨⟨wa, wc, rfl, hE⟩, hb⟩
     replace G : Hid (CoG w s ⟨pa, pb, pd, PA, PB, PD, PX, PY, PZ, ca, cb, cd⟩ rb y2) := G.out.below hb
     replace ER : Hid (CoER w s ⟨pa, pb, pd, PA, PB, PD, PX, PY, PZ, ca, cb, cd⟩ ra rc y2) := ER.out.below hb
     have BW := H.size
     replace H : Below w.heap.size w y2 := H.trans (hb.mono H.size)
     have EW : Hid (CoEW w s ⟨pa, pb, pd, PA, PB, PD, PX, PY, PZ, ca, cb, cd⟩ wa wc y2) := EO.mono hE BW
     clear hb hE BW
     refine hK.out _ _ H (fun _ => ?_)
     clear hK KK
     change wpAnyH _ _ _ _ _ _ _ { tmps := #[_,_,_,_,_,_,_,_,_,_,_,_,_,_,_,_,_,_,_,_,_,_,_,_,_,_,_,_,_,_,_,_,_,_,_,_,_,_,_,_,_,_,_,_,_,_,_,_,_,_,_,_,_,_,_,_,_,_,_,_,_,_,_,_,_,_,_,_,_,_,_,_,_], defers := _ } _
   case' b5 =>
    have c2 := G.out.1.c2
    go_simp
    refine hK.out _ _ H (fun _ => ?_)
    clear hK KK
    change wpAnyH _ _ _ _ _ _ _ { tmps := #[_,_,_,_,_,_,_,_,_,_,_,_,_,_,_,_,_,_,_,_,_,_,_,_,_,_,_,_,_,_,_,_,_,_,_,_,_,_,_,_,_,_,_,_,_,_,_,_,_,_,_,_,_,_,_,_,_,_,_,_,_,_,_,_,_,_,_,_,_,_,_,_,_], defers := _ } _
    refine wpAnyH_ready (rs := [2, 7]) (by kernel_rfl) (by simp) ?_
    refine (AllReadyH.cons rfl (fun KK hK => ?b15) (AllReadyH.cons rfl (fun KK hK => ?b16) AllReadyH.nil))
    case' b15 =>
     go_simp
     refine (CLR.out y0 H).mono ?_
     rintro e y1 ⟨⟨ra, rc, rfl, hE⟩, hb⟩
     replace G : Hid (CoG w s ⟨pa, pb, pd, PA, PB, PD, PX, PY, PZ, ca, cb, cd⟩ rb y1) := G.out.below hb
     have BW := H.size
     replace H : Below w.heap.size w y1 := H.trans (hb.mono H.size)
     have ER : Hid (CoER w s ⟨pa, pb, pd, PA, PB, PD, PX, PY, PZ, ca, cb, cd⟩ ra rc y1) := EO.mono hE BW
     clear hb hE BW
     refine hK.out _ _ H (fun _ => ?_)
     clear hK KK
     change wpAnyH _ _ _ _ _ _ _ { tmps := #[_,_,_,_,_,_,_,_,_,_,_,_,_,_,_,_,_,_,_,_,_,_,_,_,_,_,_,_,_,_,_,_,_,_,_,_,_,_,_,_,_,_,_,_,_,_,_,_,_,_,_,_,_,_,_,_,_,_,_,_,_,_,_,_,_,_,_,_,_,_,_,_,_], defers := _ } _
     refine wpAnyH_ready (rs := [5, 7]) (by kernel_rfl) (by simp) ?_
     refine (AllReadyH.cons rfl (fun KK hK => ?b17) (AllReadyH.cons rfl (fun KK hK => ?b18) AllReadyH.nil))
     case' b17 =>
      go_simp
      refine (CLW.out y1 H).mono ?_
      rintro e y2 ⟨⟨wa, wc, rfl, hE⟩, hb⟩
      replace G : Hid (CoG w s ⟨pa, pb, pd, PA, PB, PD, PX, PY, PZ, ca, cb, cd⟩ rb y2) := G.out.below hb
      replace ER : Hid (CoER w s ⟨pa, pb, pd, PA, PB, PD, PX, PY, PZ, ca, cb, cd⟩ ra rc y2) := ER.out.below hb
      have BW := H.size
      replace H : Below w.heap.size w y2 := H.trans (hb.mono H.size)
      have EW : Hid (CoEW w s ⟨pa, pb, pd, PA, PB, PD, PX, PY, PZ, ca, cb, cd⟩ wa wc y2) := EO.mono hE BW
      clear hb hE BW
      refine hK.out _ _ H (fun _ => ?_)
      clear hK KK
      change wpAnyH _ _ _ _ _ _ _ { tmps := #[_,_,_,_,_,_,_,_,_,_,_,_,_,_,_,_,_,_,_,_,_,_,_,_,_,_,_,_,_,_,_,_,_,_,_,_,_,_,_,_,_,_,_,_,_,_,_,_,_,_,_,_,_,_,_,_,_,_,_,_,_,_,_,_,_,_,_,_,_,_,_,_,_], defers := _ } _
      refine rdH (i := 7) (by kernel_rfl) rfl (fun KK hK => ?_)
      have c3 := G.out.1.c3
      go_simp
      refine hK.out _ _ H (fun _ => ?_)
      clear hK KK
      refine tkH (i := 9) (v := .pointer (some ⟨w.heap.size, 0, none⟩)) rfl (by kernel_rfl) (by rfl) ?_ H ?_
      ·intro w' hSw; clear hSw; go_simp
      change wpAnyH _ _ _ _ _ _ _ { tmps := #[_,_,_,_,_,_,_,_,_,_,_,_,_,_,_,_,_,_,_,_,_,_,_,_,_,_,_,_,_,_,_,_,_,_,_,_,_,_,_,_,_,_,_,_,_,_,_,_,_,_,_,_,_,_,_,_,_,_,_,_,_,_,_,_,_,_,_,_,_,_,_,_,_], defers := _ } _
     case' b18 =>
      have c3 := G.out.1.c3
      go_simp
      refine hK.out _ _ H (fun _ => ?_)
      clear hK KK
      refine tkH (i := 9) (v := .pointer (some ⟨w.heap.size, 0, none⟩)) rfl (by kernel_rfl) (by rfl) ?_ H ?_
      ·intro w' hSw; clear hSw; go_simp
      change wpAnyH _ _ _ _ _ _ _ { tmps := #[_,_,_,_,_,_,_,_,_,_,_,_,_,_,_,_,_,_,_,_,_,_,_,_,_,_,_,_,_,_,_,_,_,_,_,_,_,_,_,_,_,_,_,_,_,_,_,_,_,_,_,_,_,_,_,_,_,_,_,_,_,_,_,_,_,_,_,_,_,_,_,_,_], defers := _ } _
      refine rdH (i := 5) (by kernel_rfl) rfl (fun KK hK => ?_)
      go_simp
      refine (CLW.out y1 H).mono ?_
      rintro e y2 ⟨⟨wa, wc, rfl, hE⟩, hb⟩
      replace G : Hid (CoG w s ⟨pa, pb, pd, PA, PB, PD, PX, PY, PZ, ca, cb, cd⟩ rb y2) := G.out.below hb
      replace ER : Hid (CoER w s ⟨pa, pb, pd, PA, PB, PD, PX, PY, PZ, ca, cb, cd⟩ ra rc y2) := ER.out.below hb
      have BW := H.size
      replace H : Below w.heap.size w y2 := H.trans (hb.mono H.size)
      have EW : Hid (CoEW w s ⟨pa, pb, pd, PA, PB, PD, PX, PY, PZ, ca, cb, cd⟩ wa wc y2) := EO.mono hE BW
      clear hb hE BW
      refine hK.out _ _ H (fun _ => ?_)
      clear hK KK
      change wpAnyH _ _ _ _ _ _ _ { tmps := #[_,_,_,_,_,_,_,_,_,_,_,_,_,_,_,_,_,_,_,_,_,_,_,_,_,_,_,_,_,_,_,_,_,_,_,_,_,_,_,_,_,_,_,_,_,_,_,_,_,_,_,_,_,_,_,_,_,_,_,_,_,_,_,_,_,_,_,_,_,_,_,_,_], defers := _ } _
    case' b16 =>
     have c3 := G.out.1.c3
     go_simp
     refine hK.out _ _ H (fun _ => ?_)
     clear hK KK
     change wpAnyH _ _ _ _ _ _ _ { tmps := #[_,_,_,_,_,_,_,_,_,_,_,_,_,_,_,_,_,_,_,_,_,_,_,_,_,_,_,_,_,_,_,_,_,_,_,_,_,_,_,_,_,_,_,_,_,_,_,_,_,_,_,_,_,_,_,_,_,_,_,_,_,_,_,_,_,_,_,_,_,_,_,_,_], defers := _ } _
     refine rdH (i := 2) (by kernel_rfl) rfl (fun KK hK => ?_)
     go_simp
     refine (CLR.out y0 H).mono ?_
     rintro e y1 ⟨⟨ra, rc, rfl, hE⟩, hb⟩
     replace G : Hid (CoG w s ⟨pa, pb, pd, PA, PB, PD, PX, PY, PZ, ca, cb, cd⟩ rb y1) := G.out.below hb
     have BW := H.size
     replace H : Below w.heap.size w y1 := H.trans (hb.mono H.size)
     have ER : Hid (CoER w s ⟨pa, pb, pd, PA, PB, PD, PX, PY, PZ, ca, cb, cd⟩ ra rc y1) := EO.mono hE BW
     clear hb hE BW
     refine hK.out _ _ H (fun _ => ?_)
     clear hK KK
     change wpAnyH _ _ _ _ _ _ _ { tmps := #[_,_,_,_,_,_,_,_,_,_,_,_,_,_,_,_,_,_,_,_,_,_,_,_,_,_,_,_,_,_,_,_,_,_,_,_,_,_,_,_,_,_,_,_,_,_,_,_,_,_,_,_,_,_,_,_,_,_,_,_,_,_,_,_,_,_,_,_,_,_,_,_,_], defers := _ } _
     refine tkH (i := 9) (v := .pointer (some ⟨w.heap.size, 0, none⟩)) rfl (by kernel_rfl) (by rfl) ?_ H ?_
     ·intro w' hSw; clear hSw; go_simp
     change wpAnyH _ _ _ _ _ _ _ { tmps := #[_,_,_,_,_,_,_,_,_,_,_,_,_,_,_,_,_,_,_,_,_,_,_,_,_,_,_,_,_,_,_,_,_,_,_,_,_,_,_,_,_,_,_,_,_,_,_,_,_,_,_,_,_,_,_,_,_,_,_,_,_,_,_,_,_,_,_,_,_,_,_,_,_], defers := _ } _
     refine rdH (i := 5) (by kernel_rfl) rfl (fun KK hK => ?_)
     go_simp
     refine (CLW.out y1 H).mono ?_
     rintro e y2 ⟨⟨wa, wc, rfl, hE⟩, hb⟩
     replace G : Hid (CoG w s ⟨pa, pb, pd, PA, PB, PD, PX, PY, PZ, ca, cb, cd⟩ rb y2) := G.out.below hb
     replace ER : Hid (CoER w s ⟨pa, pb, pd, PA, PB, PD, PX, PY, PZ, ca, cb, cd⟩ ra rc y2) := ER.out.below hb
     have BW := H.size
     replace H : Below w.heap.size w y2 := H.trans (hb.mono H.size)
     have EW : Hid (CoEW w s ⟨pa, pb, pd, PA, PB, PD, PX, PY, PZ, ca, cb, cd⟩ wa wc y2) := EO.mono hE BW
     clear hb hE BW
     refine hK.out _ _ H (fun _ => ?_)
     clear hK KK
     change wpAnyH _ _ _ _ _ _ _ { tmps := #[_,_,_,_,_,_,_,_,_,_,_,_,_,_,_,_,_,_,_,_,_,_,_,_,_,_,_,_,_,_,_,_,_,_,_,_,_,_,_,_,_,_,_,_,_,_,_,_,_,_,_,_,_,_,_,_,_,_,_,_,_,_,_,_,_,_,_,_,_,_,_,_,_], defers := _ } _
   case' b6 =>
    have c3 := G.out.1.c3
    go_simp
    refine hK.out _ _ H (fun _ => ?_)
    clear hK KK
    change wpAnyH _ _ _ _ _ _ _ { tmps := #[_,_,_,_,_,_,_,_,_,_,_,_,_,_,_,_,_,_,_,_,_,_,_,_,_,_,_,_,_,_,_,_,_,_,_,_,_,_,_,_,_,_,_,_,_,_,_,_,_,_,_,_,_,_,_,_,_,_,_,_,_,_,_,_,_,_,_,_,_,_,_,_,_], defers := _ } _
    refine wpAnyH_ready (rs := [2, 4]) (by kernel_rfl) (by simp) ?_
    refine (AllReadyH.cons rfl (fun KK hK => ?b23) (AllReadyH.cons rfl (fun KK hK => ?b24) AllReadyH.nil))
    case' b23 =>
     go_simp
     refine (CLR.out y0 H).mono ?_
     rintro e y1 ⟨⟨ra, rc, rfl, hE⟩, hb⟩
     replace G : Hid (CoG w s ⟨pa, pb, pd, PA, PB, PD, PX, PY, PZ, ca, cb, cd⟩ rb y1) := G.out.below hb
     have BW := H.size
     replace H : Below w.heap.size w y1 := H.trans (hb.mono H.size)
     have ER : Hid (CoER w s ⟨pa, pb, pd, PA, PB, PD, PX, PY, PZ, ca, cb, cd⟩ ra rc y1) := EO.mono hE BW
     clear hb hE BW
     refine hK.out _ _ H (fun _ => ?_)
     clear hK KK
     change wpAnyH _ _ _ _ _ _ _ { tmps := #[_,_,_,_,_,_,_,_,_,_,_,_,_,_,_,_,_,_,_,_,_,_,_,_,_,_,_,_,_,_,_,_,_,_,_,_,_,_,_,_,_,_,_,_,_,_,_,_,_,_,_,_,_,_,_,_,_,_,_,_,_,_,_,_,_,_,_,_,_,_,_,_,_], defers := _ } _
     refine rdH (i := 4) (by kernel_rfl) rfl (fun KK hK => ?_)
     have c2 := G.out.1.c2
     go_simp
     refine hK.out _ _ H (fun _ => ?_)
     clear hK KK
     refine tkH (i := 9) (v := .pointer (some ⟨w.heap.size, 0, none⟩)) rfl (by kernel_rfl) (by rfl) ?_ H ?_
     ·intro w' hSw; clear hSw; go_simp
     change wpAnyH _ _ _ _ _ _ _ { tmps := #[_,_,_,_,_,_,_,_,_,_,_,_,_,_,_,_,_,_,_,_,_,_,_,_,_,_,_,_,_,_,_,_,_,_,_,_,_,_,_,_,_,_,_,_,_,_,_,_,_,_,_,_,_,_,_,_,_,_,_,_,_,_,_,_,_,_,_,_,_,_,_,_,_], defers := _ } _
     refine rdH (i := 5) (by kernel_rfl) rfl (fun KK hK => ?_)
     go_simp
     refine (CLW.out y1 H).mono ?_
     rintro e y2 ⟨⟨wa, wc, rfl, hE⟩, hb⟩
     replace G : Hid (CoG w s ⟨pa, pb, pd, PA, PB, PD, PX, PY, PZ, ca, cb, cd⟩ rb y2) := G.out.below hb
     replace ER : Hid (CoER w s ⟨pa, pb, pd, PA, PB, PD, PX, PY, PZ, ca, cb, cd⟩ ra rc y2) := ER.out.below hb
     have BW := H.size
     replace H : Below w.heap.size w y2 := H.trans (hb.mono H.size)
     have EW : Hid (CoEW w s ⟨pa, pb, pd, PA, PB, PD, PX, PY, PZ, ca, cb, cd⟩ wa wc y2) := EO.mono hE BW
     clear hb hE BW
     refine hK.out _ _ H (fun _ => ?_)
     clear hK KK
     change wpAnyH _ _ _ _ _ _ _ { tmps := #[_,_,_,_,_,_,_,_,_,_,_,_,_,_,_,_,_,_,_,_,_,_,_,_,_,_,_,_,_,_,_,_,_,_,_,_,_,_,_,_,_,_,_,_,_,_,_,_,_,_,_,_,_,_,_,_,_,_,_,_,_,_,_,_,_,_,_,_,_,_,_,_,_], defers := _ } _
    case' b24 =>
     have c2 := G.out.1.c2
     go_simp
     refine hK.out _ _ H (fun _ => ?_)
     clear hK KK
     change wpAnyH _ _ _ _ _ _ _ { tmps := #[_,_,_,_,_,_,_,_,_,_,_,_,_,_,_,_,_,_,_,_,_,_,_,_,_,_,_,_,_,_,_,_,_,_,_,_,_,_,_,_,_,_,_,_,_,_,_,_,_,_,_,_,_,_,_,_,_,_,_,_,_,_,_,_,_,_,_,_,_,_,_,_,_], defers := _ } _
     refine rdH (i := 2) (by kernel_rfl) rfl (fun KK hK => ?_)
     go_simp
     refine (CLR.out y0 H).mono ?_
     rintro e y1 ⟨⟨ra, rc, rfl, hE⟩, hb⟩
     replace G : Hid (CoG w s ⟨pa, pb, pd, PA, PB, PD, PX, PY, PZ, ca, cb, cd⟩ rb y1) := G.out.below hb
     have BW := H.size
     replace H : Below w.heap.size w y1 := H.trans (hb.mono H.size)
     have ER : Hid (CoER w s ⟨pa, pb, pd, PA, PB, PD, PX, PY, PZ, ca, cb, cd⟩ ra rc y1) := EO.mono hE BW
     clear hb hE BW
     refine hK.out _ _ H (fun _ => ?_)
     clear hK KK
     refine tkH (i := 9) (v := .pointer (some ⟨w.heap.size, 0, none⟩)) rfl (by kernel_rfl) (by rfl) ?_ H ?_
     ·intro w' hSw; clear hSw; go_simp
     change wpAnyH _ _ _ _ _ _ _ { tmps := #[_,_,_,_,_,_,_,_,_,_,_,_,_,_,_,_,_,_,_,_,_,_,_,_,_,_,_,_,_,_,_,_,_,_,_,_,_,_,_,_,_,_,_,_,_,_,_,_,_,_,_,_,_,_,_,_,_,_,_,_,_,_,_,_,_,_,_,_,_,_,_,_,_], defers := _ } _
     refine rdH (i := 5) (by kernel_rfl) rfl (fun KK hK => ?_)
     go_simp
     refine (CLW.out y1 H).mono ?_
     rintro e y2 ⟨⟨wa, wc, rfl, hE⟩, hb⟩
     replace G : Hid (CoG w s ⟨pa, pb, pd, PA, PB, PD, PX, PY, PZ, ca, cb, cd⟩ rb y2) := G.out.below hb
     replace ER : Hid (CoER w s ⟨pa, pb, pd, PA, PB, PD, PX, PY, PZ, ca, cb, cd⟩ ra rc y2) := ER.out.below hb
     have BW := H.size
     replace H : Below w.heap.size w y2 := H.trans (hb.mono H.size)
     have EW : Hid (CoEW w s ⟨pa, pb, pd, PA, PB, PD, PX, PY, PZ, ca, cb, cd⟩ wa wc y2) := EO.mono hE BW
     clear hb hE BW
     refine hK.out _ _ H (fun _ => ?_)
     clear hK KK
     change wpAnyH _ _ _ _ _ _ _ { tmps := #[_,_,_,_,_,_,_,_,_,_,_,_,_,_,_,_,_,_,_,_,_,_,_,_,_,_,_,_,_,_,_,_,_,_,_,_,_,_,_,_,_,_,_,_,_,_,_,_,_,_,_,_,_,_,_,_,_,_,_,_,_,_,_,_,_,_,_,_,_,_,_,_,_], defers := _ } _
  case' b2 =>
   have c2 := G.out.1.c2
   go_simp
   refine hK.out _ _ H (fun _ => ?_)
   clear hK KK
   change wpAnyH _ _ _ _ _ _ _ { tmps := #[_,_,_,_,_,_,_,_,_,_,_,_,_,_,_,_,_,_,_,_,_,_,_,_,_,_,_,_,_,_,_,_,_,_,_,_,_,_,_,_,_,_,_,_,_,_,_,_,_,_,_,_,_,_,_,_,_,_,_,_,_,_,_,_,_,_,_,_,_,_,_,_,_], defers := _ } _
   refine wpAnyH_ready (rs := [1, 7]) (by kernel_rfl) (by simp) ?_
   refine (AllReadyH.cons rfl (fun KK hK => ?b29) (AllReadyH.cons rfl (fun KK hK => ?b30) AllReadyH.nil))
   case' b29 =>
    have c0 := G.out.1.c0
    go_simp
    refine hK.out _ _ H (fun _ => ?_)
    clear hK KK
    change wpAnyH _ _ _ _ _ _ _ { tmps := #[_,_,_,_,_,_,_,_,_,_,_,_,_,_,_,_,_,_,_,_,_,_,_,_,_,_,_,_,_,_,_,_,_,_,_,_,_,_,_,_,_,_,_,_,_,_,_,_,_,_,_,_,_,_,_,_,_,_,_,_,_,_,_,_,_,_,_,_,_,_,_,_,_], defers := _ } _
    refine wpAnyH_ready (rs := [2, 7]) (by kernel_rfl) (by simp) ?_
    refine (AllReadyH.cons rfl (fun KK hK => ?b31) (AllReadyH.cons rfl (fun KK hK => ?b32) AllReadyH.nil))
    case' b31 =>
     go_simp
     refine (CLR.out y0 H).mono ?_
     rintro e y1 ⟨⟨ra, rc, rfl, hE⟩, hb⟩
     replace G : Hid (CoG w s ⟨pa, pb, pd, PA, PB, PD, PX, PY, PZ, ca, cb, cd⟩ rb y1) := G.out.below hb
     have BW := H.size
     replace H : Below w.heap.size w y1 := H.trans (hb.mono H.size)
     have ER : Hid (CoER w s ⟨pa, pb, pd, PA, PB, PD, PX, PY, PZ, ca, cb, cd⟩ ra rc y1) := EO.mono hE BW
     clear hb hE BW
     refine hK.out _ _ H (fun _ => ?_)
     clear hK KK
     change wpAnyH _ _ _ _ _ _ _ { tmps := #[_,_,_,_,_,_,_,_,_,_,_,_,_,_,_,_,_,_,_,_,_,_,_,_,_,_,_,_,_,_,_,_,_,_,_,_,_,_,_,_,_,_,_,_,_,_,_,_,_,_,_,_,_,_,_,_,_,_,_,_,_,_,_,_,_,_,_,_,_,_,_,_,_], defers := _ } _
     refine wpAnyH_ready (rs := [5, 7]) (by kernel_rfl) (by simp) ?_
     refine (AllReadyH.cons rfl (fun KK hK => ?b33) (AllReadyH.cons rfl (fun KK hK => ?b34) AllReadyH.nil))
     case' b33 =>
      go_simp
      refine (CLW.out y1 H).mono ?_
      rintro e y2 ⟨⟨wa, wc, rfl, hE⟩, hb⟩
      replace G : Hid (CoG w s ⟨pa, pb, pd, PA, PB, PD, PX, PY, PZ, ca, cb, cd⟩ rb y2) := G.out.below hb
      replace ER : Hid (CoER w s ⟨pa, pb, pd, PA, PB, PD, PX, PY, PZ, ca, cb, cd⟩ ra rc y2) := ER.out.below hb
      have BW := H.size
      replace H : Below w.heap.size w y2 := H.trans (hb.mono H.size)
      have EW : Hid (CoEW w s ⟨pa, pb, pd, PA, PB, PD, PX, PY, PZ, ca, cb, cd⟩ wa wc y2) := EO.mono hE BW
      clear hb hE BW
      refine hK.out _ _ H (fun _ => ?_)
      clear hK KK
      change wpAnyH _ _ _ _ _ _ _ { tmps := #[_,_,_,_,_,_,_,_,_,_,_,_,_,_,_,_,_,_,_,_,_,_,_,_,_,_,_,_,_,_,_,_,_,_,_,_,_,_,_,_,_,_,_,_,_,_,_,_,_,_,_,_,_,_,_,_,_,_,_,_,_,_,_,_,_,_,_,_,_,_,_,_,_], defers := _ } _
      refine rdH (i := 7) (by kernel_rfl) rfl (fun KK hK => ?_)
      have c3 := G.out.1.c3
      go_simp
      refine hK.out _ _ H (fun _ => ?_)
      clear hK KK
      refine tkH (i := 9) (v := .pointer (some ⟨w.heap.size, 0, none⟩)) rfl (by kernel_rfl) (by rfl) ?_ H ?_
      ·intro w' hSw; clear hSw; go_simp
      change wpAnyH _ _ _ _ _ _ _ { tmps := #[_,_,_,_,_,_,_,_,_,_,_,_,_,_,_,_,_,_,_,_,_,_,_,_,_,_,_,_,_,_,_,_,_,_,_,_,_,_,_,_,_,_,_,_,_,_,_,_,_,_,_,_,_,_,_,_,_,_,_,_,_,_,_,_,_,_,_,_,_,_,_,_,_], defers := _ } _
     case' b34 =>
      have c3 := G.out.1.c3
      go_simp
      refine hK.out _ _ H (fun _ => ?_)
      clear hK KK
      change wpAnyH _ _ _ _ _ _ _ { tmps := #[_,_,_,_,_,_,_,_,_,_,_,_,_,_,_,_,_,_,_,_,_,_,_,_,_,_,_,_,_,_,_,_,_,_,_,_,_,_,_,_,_,_,_,_,_,_,_,_,_,_,_,_,_,_,_,_,_,_,_,_,_,_,_,_,_,_,_,_,_,_,_,_,_], defers := _ } _
      refine tkH (i := 9) (v := .pointer (some ⟨w.heap.size, 0, none⟩)) rfl (by kernel_rfl) (by rfl) ?_ H ?_
      ·intro w' hSw; clear hSw; go_simp
      change wpAnyH _ _ _ _ _ _ _ { tmps := #[_,_,_,_,_,_,_,_,_,_,_,_,_,_,_,_,_,_,_,_,_,_,_,_,_,_,_,_,_,_,_,_,_,_,_,_,_,_,_,_,_,_,_,_,_,_,_,_,_,_,_,_,_,_,_,_,_,_,_,_,_,_,_,_,_,_,_,_,_,_,_,_,_], defers := _ } _
      refine rdH (i := 5) (by kernel_rfl) rfl (fun KK hK => ?_)
      go_simp
      refine (CLW.out y1 H).mono ?_
      rintro e y2 ⟨⟨wa, wc, rfl, hE⟩, hb⟩
      replace G : Hid (CoG w s ⟨pa, pb, pd, PA, PB, PD, PX, PY, PZ, ca, cb, cd⟩ rb y2) := G.out.below hb
      replace ER : Hid (CoER w s ⟨pa, pb, pd, PA, PB, PD, PX, PY, PZ, ca, cb, cd⟩ ra rc y2) := ER.out.below hb
      have BW := H.size
      replace H : Below w.heap.size w y2 := H.trans (hb.mono H.size)
      have EW : Hid (CoEW w s ⟨pa, pb, pd, PA, PB, PD, PX, PY, PZ, ca, cb, cd⟩ wa wc y2) := EO.mono hE BW
      clear hb hE BW
      refine hK.out _ _ H (fun _ => ?_)
      clear hK KK
      change wpAnyH _ _ _ _ _ _ _ { tmps := #[_,_,_,_,_,_,_,_,_,_,_,_,_,_,_,_,_,_,_,_,_,_,_,_,_,_,_,_,_,_,_,_,_,_,_,_,_,_,_,_,_,_,_,_,_,_,_,_,_,_,_,_,_,_,_,_,_,_,_,_,_,_,_,_,_,_,_,_,_,_,_,_,_], defers := _ } _
    case' b32 =>
     have c3 := G.out.1.c3
     go_simp
     refine hK.out _ _ H (fun _ => ?_)
     clear hK KK
     change wpAnyH _ _ _ _ _ _ _ { tmps := #[_,_,_,_,_,_,_,_,_,_,_,_,_,_,_,_,_,_,_,_,_,_,_,_,_,_,_,_,_,_,_,_,_,_,_,_,_,_,_,_,_,_,_,_,_,_,_,_,_,_,_,_,_,_,_,_,_,_,_,_,_,_,_,_,_,_,_,_,_,_,_,_,_], defers := _ } _
     refine rdH (i := 2) (by kernel_rfl) rfl (fun KK hK => ?_)
     go_simp
     refine (CLR.out y0 H).mono ?_
     rintro e y1 ⟨⟨ra, rc, rfl, hE⟩, hb⟩
     replace G : Hid (CoG w s ⟨pa, pb, pd, PA, PB, PD, PX, PY, PZ, ca, cb, cd⟩ rb y1) := G.out.below hb
     have BW := H.size
     replace H : Below w.heap.size w y1 := H.trans (hb.mono H.size)
     have ER : Hid (CoER w s ⟨pa, pb, pd, PA, PB, PD, PX, PY, PZ, ca, cb, cd⟩ ra rc y1) := EO.mono hE BW
     clear hb hE BW
     refine hK.out _ _ H (fun _ => ?_)
     clear hK KK
     refine tkH (i := 9) (v := .pointer (some ⟨w.heap.size, 0, none⟩)) rfl (by kernel_rfl) (by rfl) ?_ H ?_
     ·intro w' hSw; clear hSw; go_simp
     change wpAnyH _ _ _ _ _ _ _ { tmps := #[_,_,_,_,_,_,_,_,_,_,_,_,_,_,_,_,_,_,_,_,_,_,_,_,_,_,_,_,_,_,_,_,_,_,_,_,_,_,_,_,_,_,_,_,_,_,_,_,_,_,_,_,_,_,_,_,_,_,_,_,_,_,_,_,_,_,_,_,_,_,_,_,_], defers := _ } _
     refine rdH (i := 5) (by kernel_rfl) rfl (fun KK hK => ?_)
     go_simp
     refine (CLW.out y1 H).mono ?_
     rintro e y2 ⟨⟨wa, wc, rfl, hE⟩, hb⟩
     replace G : Hid (CoG w s ⟨pa, pb, pd, PA, PB, PD, PX, PY, PZ, ca, cb, cd⟩ rb y2) := G.out.below hb
     replace ER : Hid (CoER w s ⟨pa, pb, pd, PA, PB, PD, PX, PY, PZ, ca, cb, cd⟩ ra rc y2) := ER.out.below hb
     have BW := H.size
     replace H : Below w.heap.size w y2 := H.trans (hb.mono H.size)
     have EW : Hid (CoEW w s ⟨pa, pb, pd, PA, PB, PD, PX, PY, PZ, ca, cb, cd⟩ wa wc y2) := EO.mono hE BW
     clear hb hE BW
     refine hK.out _ _ H (fun _ => ?_)
     clear hK KK
     change wpAnyH _ _ _ _ _ _ _ { tmps := #[_,_,_,_,_,_,_,_,_,_,_,_,_,_,_,_,_,_,_,_,_,_,_,_,_,_,_,_,_,_,_,_,_,_,_,_,_,_,_,_,_,_,_,_,_,_,_,_,_,_,_,_,_,_,_,_,_,_,_,_,_,_,_,_,_,_,_,_,_,_,_,_,_], defers := _ } _
   case' b30 =>
    have c3 := G.out.1.c3
    go_simp
    refine hK.out _ _ H (fun _ => ?_)
    clear hK KK
    change wpAnyH _ _ _ _ _ _ _ { tmps := #[_,_,_,_,_,_,_,_,_,_,_,_,_,_,_,_,_,_,_,_,_,_,_,_,_,_,_,_,_,_,_,_,_,_,_,_,_,_,_,_,_,_,_,_,_,_,_,_,_,_,_,_,_,_,_,_,_,_,_,_,_,_,_,_,_,_,_,_,_,_,_,_,_], defers := _ } _
    refine rdH (i := 1) (by kernel_rfl) rfl (fun KK hK => ?_)
    have c0 := G.out.1.c0
    go_simp
    refine hK.out _ _ H (fun _ => ?_)
    clear hK KK
    change wpAnyH _ _ _ _ _ _ _ { tmps := #[_,_,_,_,_,_,_,_,_,_,_,_,_,_,_,_,_,_,_,_,_,_,_,_,_,_,_,_,_,_,_,_,_,_,_,_,_,_,_,_,_,_,_,_,_,_,_,_,_,_,_,_,_,_,_,_,_,_,_,_,_,_,_,_,_,_,_,_,_,_,_,_,_], defers := _ } _
    refine rdH (i := 2) (by kernel_rfl) rfl (fun KK hK => ?_)
    go_simp
    refine (CLR.out y0 H).mono ?_
    rintro e y1 ⟨⟨ra, rc, rfl, hE⟩, hb⟩
    replace G : Hid (CoG w s ⟨pa, pb, pd, PA, PB, PD, PX, PY, PZ, ca, cb, cd⟩ rb y1) := G.out.below hb
    have BW := H.size
    replace H : Below w.heap.size w y1 := H.trans (hb.mono H.size)
    have ER : Hid (CoER w s ⟨pa, pb, pd, PA, PB, PD, PX, PY, PZ, ca, cb, cd⟩ ra rc y1) := EO.mono hE BW
    clear hb hE BW
    refine hK.out _ _ H (fun _ => ?_)
    clear hK KK
    refine tkH (i := 9) (v := .pointer (some ⟨w.heap.size, 0, none⟩)) rfl (by kernel_rfl) (by rfl) ?_ H ?_
    ·intro w' hSw; clear hSw; go_simp
    change wpAnyH _ _ _ _ _ _ _ { tmps := #[_,_,_,_,_,_,_,_,_,_,_,_,_,_,_,_,_,_,_,_,_,_,_,_,_,_,_,_,_,_,_,_,_,_,_,_,_,_,_,_,_,_,_,_,_,_,_,_,_,_,_,_,_,_,_,_,_,_,_,_,_,_,_,_,_,_,_,_,_,_,_,_,_], defers := _ } _
    refine rdH (i := 5) (by kernel_rfl) rfl (fun KK hK => ?_)
    go_simp
    refine (CLW.out y1 H).mono ?_
    rintro e y2 ⟨⟨wa, wc, rfl, hE⟩, hb⟩
    replace G : Hid (CoG w s ⟨pa, pb, pd, PA, PB, PD, PX, PY, PZ, ca, cb, cd⟩ rb y2) := G.out.below hb
    replace ER : Hid (CoER w s ⟨pa, pb, pd, PA, PB, PD, PX, PY, PZ, ca, cb, cd⟩ ra rc y2) := ER.out.below hb
    have BW := H.size
    replace H : Below w.heap.size w y2 := H.trans (hb.mono H.size)
    have EW : Hid (CoEW w s ⟨pa, pb, pd, PA, PB, PD, PX, PY, PZ, ca, cb, cd⟩ wa wc y2) := EO.mono hE BW
    clear hb hE BW
    refine hK.out _ _ H (fun _ => ?_)
    clear hK KK
    change wpAnyH _ _ _ _ _ _ _ { tmps := #[_,_,_,_,_,_,_,_,_,_,_,_,_,_,_,_,_,_,_,_,_,_,_,_,_,_,_,_,_,_,_,_,_,_,_,_,_,_,_,_,_,_,_,_,_,_,_,_,_,_,_,_,_,_,_,_,_,_,_,_,_,_,_,_,_,_,_,_,_,_,_,_,_], defers := _ } _
  case' b3 =>
   have c3 := G.out.1.c3
   go_simp
   refine hK.out _ _ H (fun _ => ?_)
   clear hK KK
   change wpAnyH _ _ _ _ _ _ _ { tmps := #[_,_,_,_,_,_,_,_,_,_,_,_,_,_,_,_,_,_,_,_,_,_,_,_,_,_,_,_,_,_,_,_,_,_,_,_,_,_,_,_,_,_,_,_,_,_,_,_,_,_,_,_,_,_,_,_,_,_,_,_,_,_,_,_,_,_,_,_,_,_,_,_,_], defers := _ } _
   refine wpAnyH_ready (rs := [1, 4]) (by kernel_rfl) (by simp) ?_
   refine (AllReadyH.cons rfl (fun KK hK => ?b42) (AllReadyH.cons rfl (fun KK hK => ?b43) AllReadyH.nil))
   case' b42 =>
    have c0 := G.out.1.c0
    go_simp
    refine hK.out _ _ H (fun _ => ?_)
    clear hK KK
    change wpAnyH _ _ _ _ _ _ _ { tmps := #[_,_,_,_,_,_,_,_,_,_,_,_,_,_,_,_,_,_,_,_,_,_,_,_,_,_,_,_,_,_,_,_,_,_,_,_,_,_,_,_,_,_,_,_,_,_,_,_,_,_,_,_,_,_,_,_,_,_,_,_,_,_,_,_,_,_,_,_,_,_,_,_,_], defers := _ } _
    refine wpAnyH_ready (rs := [2, 4]) (by kernel_rfl) (by simp) ?_
    refine (AllReadyH.cons rfl (fun KK hK => ?b44) (AllReadyH.cons rfl (fun KK hK => ?b45) AllReadyH.nil))
    case' b44 =>
     go_simp
     refine (CLR.out y0 H).mono ?_
     rintro e y1 ⟨⟨ra, rc, rfl, hE⟩, hb⟩
     replace G : Hid (CoG w s ⟨pa, pb, pd, PA, PB, PD, PX, PY, PZ, ca, cb, cd⟩ rb y1) := G.out.below hb
     have BW := H.size
     replace H : Below w.heap.size w y1 := H.trans (hb.mono H.size)
     have ER : Hid (CoER w s ⟨pa, pb, pd, PA, PB, PD, PX, PY, PZ, ca, cb, cd⟩ ra rc y1) := EO.mono hE BW
     clear hb hE BW
     refine hK.out _ _ H (fun _ => ?_)
     clear hK KK
     change wpAnyH _ _ _ _ _ _ _ { tmps := #[_,_,_,_,_,_,_,_,_,_,_,_,_,_,_,_,_,_,_,_,_,_,_,_,_,_,_,_,_,_,_,_,_,_,_,_,_,_,_,_,_,_,_,_,_,_,_,_,_,_,_,_,_,_,_,_,_,_,_,_,_,_,_,_,_,_,_,_,_,_,_,_,_], defers := _ } _
     refine rdH (i := 4) (by kernel_rfl) rfl (fun KK hK => ?_)
     have c2 := G.out.1.c2
     go_simp
     refine hK.out _ _ H (fun _ => ?_)
     clear hK KK
     refine tkH (i := 9) (v := .pointer (some ⟨w.heap.size, 0, none⟩)) rfl (by kernel_rfl) (by rfl) ?_ H ?_
     ·intro w' hSw; clear hSw; go_simp
     change wpAnyH _ _ _ _ _ _ _ { tmps := #[_,_,_,_,_,_,_,_,_,_,_,_,_,_,_,_,_,_,_,_,_,_,_,_,_,_,_,_,_,_,_,_,_,_,_,_,_,_,_,_,_,_,_,_,_,_,_,_,_,_,_,_,_,_,_,_,_,_,_,_,_,_,_,_,_,_,_,_,_,_,_,_,_], defers := _ } _
     refine rdH (i := 5) (by kernel_rfl) rfl (fun KK hK => ?_)
     go_simp
     refine (CLW.out y1 H).mono ?_
     rintro e y2 ⟨⟨wa, wc, rfl, hE⟩, hb⟩
     replace G : Hid (CoG w s ⟨pa, pb, pd, PA, PB, PD, PX, PY, PZ, ca, cb, cd⟩ rb y2) := G.out.below hb
     replace ER : Hid (CoER w s ⟨pa, pb, pd, PA, PB, PD, PX, PY, PZ, ca, cb, cd⟩ ra rc y2) := ER.out.below hb
     have BW := H.size
     replace H : Below w.heap.size w y2 := H.trans (hb.mono H.size)
     have EW : Hid (CoEW w s ⟨pa, pb, pd, PA, PB, PD, PX, PY, PZ, ca, cb, cd⟩ wa wc y2) := EO.mono hE BW
     clear hb hE BW
     refine hK.out _ _ H (fun _ => ?_)
     clear hK KK
     change wpAnyH _ _ _ _ _ _ _ { tmps := #[_,_,_,_,_,_,_,_,_,_,_,_,_,_,_,_,_,_,_,_,_,_,_,_,_,_,_,_,_,_,_,_,_,_,_,_,_,_,_,_,_,_,_,_,_,_,_,_,_,_,_,_,_,_,_,_,_,_,_,_,_,_,_,_,_,_,_,_,_,_,_,_,_], defers := _ } _
    case' b45 =>
     have c2 := G.out.1.c2
     go_simp
     refine hK.out _ _ H (fun _ => ?_)
     clear hK KK
     change wpAnyH _ _ _ _ _ _ _ { tmps := #[_,_,_,_,_,_,_,_,_,_,_,_,_,_,_,_,_,_,_,_,_,_,_,_,_,_,_,_,_,_,_,_,_,_,_,_,_,_,_,_,_,_,_,_,_,_,_,_,_,_,_,_,_,_,_,_,_,_,_,_,_,_,_,_,_,_,_,_,_,_,_,_,_], defers := _ } _
     refine rdH (i := 2) (by kernel_rfl) rfl (fun KK hK => ?_)
     go_simp
     refine (CLR.out y0 H).mono ?_
     rintro e y1 ⟨⟨ra, rc, rfl, hE⟩, hb⟩
     replace G : Hid (CoG w s ⟨pa, pb, pd, PA, PB, PD, PX, PY, PZ, ca, cb, cd⟩ rb y1) := G.out.below hb
     have BW := H.size
     replace H : Below w.heap.size w y1 := H.trans (hb.mono H.size)
     have ER : Hid (CoER w s ⟨pa, pb, pd, PA, PB, PD, PX, PY, PZ, ca, cb, cd⟩ ra rc y1) := EO.mono hE BW
     clear hb hE BW
     refine hK.out _ _ H (fun _ => ?_)
     clear hK KK
     change wpAnyH _ _ _ _ _ _ _ { tmps := #[_,_,_,_,_,_,_,_,_,_,_,_,_,_,_,_,_,_,_,_,_,_,_,_,_,_,_,_,_,_,_,_,_,_,_,_,_,_,_,_,_,_,_,_,_,_,_,_,_,_,_,_,_,_,_,_,_,_,_,_,_,_,_,_,_,_,_,_,_,_,_,_,_], defers := _ } _
     refine tkH (i := 9) (v := .pointer (some ⟨w.heap.size, 0, none⟩)) rfl (by kernel_rfl) (by rfl) ?_ H ?_
     ·intro w' hSw; clear hSw; go_simp
     change wpAnyH _ _ _ _ _ _ _ { tmps := #[_,_,_,_,_,_,_,_,_,_,_,_,_,_,_,_,_,_,_,_,_,_,_,_,_,_,_,_,_,_,_,_,_,_,_,_,_,_,_,_,_,_,_,_,_,_,_,_,_,_,_,_,_,_,_,_,_,_,_,_,_,_,_,_,_,_,_,_,_,_,_,_,_], defers := _ } _
     refine rdH (i := 5) (by kernel_rfl) rfl (fun KK hK => ?_)
     go_simp
     refine (CLW.out y1 H).mono ?_
     rintro e y2 ⟨⟨wa, wc, rfl, hE⟩, hb⟩
     replace G : Hid (CoG w s ⟨pa, pb, pd, PA, PB, PD, PX, PY, PZ, ca, cb, cd⟩ rb y2) := G.out.below hb
     replace ER : Hid (CoER w s ⟨pa, pb, pd, PA, PB, PD, PX, PY, PZ, ca, cb, cd⟩ ra rc y2) := ER.out.below hb
     have BW := H.size
     replace H : Below w.heap.size w y2 := H.trans (hb.mono H.size)
     have EW : Hid (CoEW w s ⟨pa, pb, pd, PA, PB, PD, PX, PY, PZ, ca, cb, cd⟩ wa wc y2) := EO.mono hE BW
     clear hb hE BW
     refine hK.out _ _ H (fun _ => ?_)
     clear hK KK
     change wpAnyH _ _ _ _ _ _ _ { tmps := #[_,_,_,_,_,_,_,_,_,_,_,_,_,_,_,_,_,_,_,_,_,_,_,_,_,_,_,_,_,_,_,_,_,_,_,_,_,_,_,_,_,_,_,_,_,_,_,_,_,_,_,_,_,_,_,_,_,_,_,_,_,_,_,_,_,_,_,_,_,_,_,_,_], defers := _ } _
   case' b43 =>
    have c2 := G.out.1.c2
    go_simp
    refine hK.out _ _ H (fun _ => ?_)
    clear hK KK
    change wpAnyH _ _ _ _ _ _ _ { tmps := #[_,_,_,_,_,_,_,_,_,_,_,_,_,_,_,_,_,_,_,_,_,_,_,_,_,_,_,_,_,_,_,_,_,_,_,_,_,_,_,_,_,_,_,_,_,_,_,_,_,_,_,_,_,_,_,_,_,_,_,_,_,_,_,_,_,_,_,_,_,_,_,_,_], defers := _ } _
    refine rdH (i := 1) (by kernel_rfl) rfl (fun KK hK => ?_)
    have c0 := G.out.1.c0
    go_simp
    refine hK.out _ _ H (fun _ => ?_)
    clear hK KK
    change wpAnyH _ _ _ _ _ _ _ { tmps := #[_,_,_,_,_,_,_,_,_,_,_,_,_,_,_,_,_,_,_,_,_,_,_,_,_,_,_,_,_,_,_,_,_,_,_,_,_,_,_,_,_,_,_,_,_,_,_,_,_,_,_,_,_,_,_,_,_,_,_,_,_,_,_,_,_,_,_,_,_,_,_,_,_], defers := _ } _
    refine rdH (i := 2) (by kernel_rfl) rfl (fun KK hK => ?_)
    go_simp
    refine (CLR.out y0 H).mono ?_
    rintro e y1 ⟨⟨ra, rc, rfl, hE⟩, hb⟩
    replace G : Hid (CoG w s ⟨pa, pb, pd, PA, PB, PD, PX, PY, PZ, ca, cb, cd⟩ rb y1) := G.out.below hb
    have BW := H.size
    replace H : Below w.heap.size w y1 := H.trans (hb.mono H.size)
    have ER : Hid (CoER w s ⟨pa, pb, pd, PA, PB, PD, PX, PY, PZ, ca, cb, cd⟩ ra rc y1) := EO.mono hE BW
    clear hb hE BW
    refine hK.out _ _ H (fun _ => ?_)
    clear hK KK
    refine tkH (i := 9) (v := .pointer (some ⟨w.heap.size, 0, none⟩)) rfl (by kernel_rfl) (by rfl) ?_ H ?_
    ·intro w' hSw; clear hSw; go_simp
    change wpAnyH _ _ _ _ _ _ _ { tmps := #[_,_,_,_,_,_,_,_,_,_,_,_,_,_,_,_,_,_,_,_,_,_,_,_,_,_,_,_,_,_,_,_,_,_,_,_,_,_,_,_,_,_,_,_,_,_,_,_,_,_,_,_,_,_,_,_,_,_,_,_,_,_,_,_,_,_,_,_,_,_,_,_,_], defers := _ } _
    refine rdH (i := 5) (by kernel_rfl) rfl (fun KK hK => ?_)
    go_simp
    refine (CLW.out y1 H).mono ?_
    rintro e y2 ⟨⟨wa, wc, rfl, hE⟩, hb⟩
    replace G : Hid (CoG w s ⟨pa, pb, pd, PA, PB, PD, PX, PY, PZ, ca, cb, cd⟩ rb y2) := G.out.below hb
    replace ER : Hid (CoER w s ⟨pa, pb, pd, PA, PB, PD, PX, PY, PZ, ca, cb, cd⟩ ra rc y2) := ER.out.below hb
    have BW := H.size
    replace H : Below w.heap.size w y2 := H.trans (hb.mono H.size)
    have EW : Hid (CoEW w s ⟨pa, pb, pd, PA, PB, PD, PX, PY, PZ, ca, cb, cd⟩ wa wc y2) := EO.mono hE BW
    clear hb hE BW
    refine hK.out _ _ H (fun _ => ?_)
    clear hK KK
    change wpAnyH _ _ _ _ _ _ _ { tmps := #[_,_,_,_,_,_,_,_,_,_,_,_,_,_,_,_,_,_,_,_,_,_,_,_,_,_,_,_,_,_,_,_,_,_,_,_,_,_,_,_,_,_,_,_,_,_,_,_,_,_,_,_,_,_,_,_,_,_,_,_,_,_,_,_,_,_,_,_,_,_,_,_,_], defers := _ } _
  all_goals
   refine rdH (i := 8) (by kernel_rfl) rfl (fun KK hK => ?_)
   go_simp
   refine (CLQ.out y2 H).mono ?_
   rintro e y3 ⟨⟨qa, qc, rfl, hE⟩, hb⟩
   replace G : Hid (CoG w s ⟨pa, pb, pd, PA, PB, PD, PX, PY, PZ, ca, cb, cd⟩ rb y3) := G.out.below hb
   replace ER : Hid (CoER w s ⟨pa, pb, pd, PA, PB, PD, PX, PY, PZ, ca, cb, cd⟩ ra rc y3) := ER.out.below hb
   replace EW : Hid (CoEW w s ⟨pa, pb, pd, PA, PB, PD, PX, PY, PZ, ca, cb, cd⟩ wa wc y3) := EW.out.below hb
   have BW := H.size
   replace H : Below w.heap.size w y3 := H.trans (hb.mono H.size)
   have EQ : Hid (CoEQ w s ⟨pa, pb, pd, PA, PB, PD, PX, PY, PZ, ca, cb, cd⟩ qa qc y3) := EO.mono hE BW
   clear hb hE BW
   refine hK.out _ _ H (fun _ => ?_)
   clear hK KK
   change wpAnyH _ _ _ _ _ _ _ { tmps := #[_,_,_,_,_,_,_,_,_,_,_,_,_,_,_,_,_,_,_,_,_,_,_,_,_,_,_,_,_,_,_,_,_,_,_,_,_,_,_,_,_,_,_,_,_,_,_,_,_,_,_,_,_,_,_,_,_,_,_,_,_,_,_,_,_,_,_,_,_,_,_,_,_], defers := _ } _
   refine rdH (i := 10) (by kernel_rfl) rfl (fun KK hK => ?_)
   have CS : Hid (CoS w s ⟨pa, pb, pd, PA, PB, PD, PX, PY, PZ, ca, cb, cd⟩ rb ra wa qa rc wc qc (.slice pa s.n ca) (.slice pb s.m cb) (.slice pd s.l cd) y3) := ⟨G.out.1, G.out.2, ER.out, EW.out, EQ.out, H⟩
   clear G ER EW EQ
   have c0 := CS.out.x.c0
   have f0 := CS.out.x.fr 0
   go_simp
   replace CS : Hid (CoS w s ⟨pa, pb, pd, PA, PB, PD, PX, PY, PZ, ca, cb, cd⟩ rb ra wa qa rc wc qc (.slice ra s.n rc) (.slice pb s.m cb) (.slice pd s.l cd) (y3.setCell ⟨w.heap.size, 0, none⟩ (.slice ra s.n rc))) := CS.out.st0 NE.out _
   replace H := CS.out.b
   clear c0 f0
   generalize (y3.setCell ⟨w.heap.size, 0, none⟩ (.slice ra s.n rc)) = y4 at *
   refine hK.out _ _ H (fun _ => ?_)
   clear hK KK
   refine tkH (i := 11) (v := .pointer (some ⟨w.heap.size, 2, none⟩)) rfl (by kernel_rfl) (by rfl) ?_ H ?_
   ·intro w' hSw; clear hSw; go_simp
   change wpAnyH _ _ _ _ _ _ _ { tmps := #[_,_,_,_,_,_,_,_,_,_,_,_,_,_,_,_,_,_,_,_,_,_,_,_,_,_,_,_,_,_,_,_,_,_,_,_,_,_,_,_,_,_,_,_,_,_,_,_,_,_,_,_,_,_,_,_,_,_,_,_,_,_,_,_,_,_,_,_,_,_,_,_,_], defers := _ } _
   refine rdH (i := 12) (by kernel_rfl) rfl (fun KK hK => ?_)
   have c2 := CS.out.x.c2
   have f2 := CS.out.x.fr 2
   go_simp
   replace CS : Hid (CoS w s ⟨pa, pb, pd, PA, PB, PD, PX, PY, PZ, ca, cb, cd⟩ rb ra wa qa rc wc qc (.slice ra s.n rc) (.slice wa s.m wc) (.slice pd s.l cd) (y4.setCell ⟨w.heap.size, 2, none⟩ (.slice wa s.m wc))) := CS.out.st2 NE.out _
   replace H := CS.out.b
   clear c2 f2
   generalize (y4.setCell ⟨w.heap.size, 2, none⟩ (.slice wa s.m wc)) = y5 at *
   refine hK.out _ _ H (fun _ => ?_)
   clear hK KK
   refine tkH (i := 13) (v := .pointer (some ⟨w.heap.size, 3, none⟩)) rfl (by kernel_rfl) (by rfl) ?_ H ?_
   ·intro w' hSw; clear hSw; go_simp
   change wpAnyH _ _ _ _ _ _ _ { tmps := #[_,_,_,_,_,_,_,_,_,_,_,_,_,_,_,_,_,_,_,_,_,_,_,_,_,_,_,_,_,_,_,_,_,_,_,_,_,_,_,_,_,_,_,_,_,_,_,_,_,_,_,_,_,_,_,_,_,_,_,_,_,_,_,_,_,_,_,_,_,_,_,_,_], defers := _ } _
   refine rdH (i := 14) (by kernel_rfl) rfl (fun KK hK => ?_)
   have c3 := CS.out.x.c3
   have f3 := CS.out.x.fr 3
   go_simp
   replace CS : Hid (CoS w s ⟨pa, pb, pd, PA, PB, PD, PX, PY, PZ, ca, cb, cd⟩ rb ra wa qa rc wc qc (.slice ra s.n rc) (.slice wa s.m wc) (.slice qa s.l qc) (y5.setCell ⟨w.heap.size, 3, none⟩ (.slice qa s.l qc))) := CS.out.st3 NE.out _
   replace H := CS.out.b
   clear c3 f3
   generalize (y5.setCell ⟨w.heap.size, 3, none⟩ (.slice qa s.l qc)) = y6 at *
   refine hK.out _ _ H (fun _ => ?_)
   clear hK KK
   change wpAnyH _ _ _ _ _ _ _ { tmps := #[_,_,_,_,_,_,_,_,_,_,_,_,_,_,_,_,_,_,_,_,_,_,_,_,_,_,_,_,_,_,_,_,_,_,_,_,_,_,_,_,_,_,_,_,_,_,_,_,_,_,_,_,_,_,_,_,_,_,_,_,_,_,_,_,_,_,_,_,_,_,_,_,_], defers := _ } _
   refine wpAnyH_done (by kernel_rfl) ?_ _
   refine NoPanic.normal ?_
   change Exit.then _ _ Exit.normal { tmps := #[_, _, _, _, _, _, _, _, _, _, _, _, _, _, _, _, _, _, _, _, _, _, _, _, _, _, _, _, _, _, _, _, _, _, _, _, _, _, _, _, _, _, _, _, _, _, _, _, _, _, _, _, _, _, _, _, _, _, _, _, _, _, _, _, _, _, _, _, _, _, _, _, _], defers := _ } _
   go_wp2_with fail
   go_meet
   exact ⟨rfl, ra, wa, qa, rc, wc, qc, CS.out.i⟩
 case rest =>
  obtain ⟨rfl, ra, wa, qa, rc, wc1, qc, hI0⟩ := hcut
  have I0 : Hid (CoI w s ⟨pa, pb, pd, PA, PB, PD, PX, PY, PZ, ca, cb, cd⟩ w.heap.size rb ra wa qa rc wc1 qc 0 0 0 wc) := hI0
  clear hI0 X R0 B0 CLR CLW CLQ
  have x0 := I0.out.x.c0
  generalize wc = u0 at *
  go_wp2
  go_loopw [24] (fun i wr => ∃ k : Nat, k ≤ s.n ∧ i = .int .i64 (k : Int) ∧ CoI w s ⟨pa, pb, pd, PA, PB, PD, PX, PY, PZ, ca, cb, cd⟩ w.heap.size rb ra wa qa rc wc1 qc k 0 0 wr) (fun i _ => s.n - (intOf i).toNat)
  case atStart => exact ⟨0, by omega, rfl, I0.out⟩
  case round =>
   clear I0 x0
   obtain ⟨k, hk, rfl, hI⟩ := hrel
   by_cases hlt : k < s.n
   ·have hlt' : (k : Int) < (s.n : Int) := by omega
    have HLT : Hid (k < s.n) := hlt
    have K1 : (k : Int) ≤ 1000 := by have := MX.out.1.1; omega
    obtain ⟨VR, VW, VQ, hO⟩ := hI.o
    obtain ⟨g, rfl, hgB, hgl, hRk⟩ := RkR.start hO.r hlt
    have hTk : VR k = .slice (PA k) (s.R k).ne (PX k) := hO.tr k (Nat.le_refl _)
    rw [hTk] at hRk
    have d0 : wr.cell? ⟨g, k * 8, none⟩ = some (.bool (s.R k).mute) := hRk.c hlt 0 (by omega)
    have d1 : wr.cell? ⟨g, k * 8 + 1, none⟩ = some (.int .i64 (s.R k).nc) := hRk.c hlt 1 (by omega)
    have d2 : wr.cell? ⟨g, k * 8 + 2, none⟩ = some (.int .i64 (s.R k).nt) := hRk.c hlt 2 (by omega)
    have d3 : wr.cell? ⟨g, k * 8 + 3, none⟩ = some (.int .i64 (s.R k).sc) := hRk.c hlt 3 (by omega)
    have d4 : wr.cell? ⟨g, k * 8 + 4, none⟩ = some (.int .i64 (s.R k).st) := hRk.c hlt 4 (by omega)
    have d5 : wr.cell? ⟨g, k * 8 + 5, none⟩ = some (.slice (PA k) (s.R k).ne (PX k)) := hRk.c hlt 5 (by omega)
    have d6 : wr.cell? ⟨g, k * 8 + 6, none⟩ = some (.int .i64 (s.R k).bc) := hRk.c hlt 6 (by omega)
    have d7 : wr.cell? ⟨g, k * 8 + 7, none⟩ = some (.int .i64 (s.R k).bt) := hRk.c hlt 7 (by omega)
    have hA1 : Below wr.heap.size wr (wr.alloc (.cells #[.bool (s.R k).mute, .int .i64 (s.R k).nc, .int .i64 (s.R k).nt, .int .i64 (s.R k).sc, .int .i64 (s.R k).st, .slice (PA k) (s.R k).ne (PX k), .int .i64 (s.R k).bc, .int .i64 (s.R k).bt] 43)) := (Below.refl _ _).alloc (Nat.le_refl _) _
    have XV : Hid (Box4 (wr.alloc (.cells #[.bool (s.R k).mute, .int .i64 (s.R k).nc, .int .i64 (s.R k).nt, .int .i64 (s.R k).sc, .int .i64 (s.R k).st, .slice (PA k) (s.R k).ne (PX k), .int .i64 (s.R k).bc, .int .i64 (s.R k).bt] 43)) w.heap.size 28 (.slice (some ⟨g, 0, none⟩) s.n rc) (.int .i64 s.t) (.slice wa s.m wc1) (.slice qa s.l qc)) := hI.x.below hA1
    have BX : Hid (BxF (wr.alloc (.cells #[.bool (s.R k).mute, .int .i64 (s.R k).nc, .int .i64 (s.R k).nt, .int .i64 (s.R k).sc, .int .i64 (s.R k).st, .slice (PA k) (s.R k).ne (PX k), .int .i64 (s.R k).bc, .int .i64 (s.R k).bt] 43)) wr.heap.size 43 8 (rpV (s.R k) (.slice (PA k) (s.R k).ne (PX k)))) := BxF.rp wr (s.R k) _
    have RK : Hid (RkR (wr.alloc (.cells #[.bool (s.R k).mute, .int .i64 (s.R k).nc, .int .i64 (s.R k).nt, .int .i64 (s.R k).sc, .int .i64 (s.R k).st, .slice (PA k) (s.R k).ne (PX k), .int .i64 (s.R k).bc, .int .i64 (s.R k).bt] 43)) w.heap.size g rc s.n s.R VR k (s.R k) (.slice (PA k) (s.R k).ne (PX k))) := hRk.below hA1
    have BA : Hid (Below wr.heap.size wr (wr.alloc (.cells #[.bool (s.R k).mute, .int .i64 (s.R k).nc, .int .i64 (s.R k).nt, .int .i64 (s.R k).sc, .int .i64 (s.R k).st, .slice (PA k) (s.R k).ne (PX k), .int .i64 (s.R k).bc, .int .i64 (s.R k).bt] 43))) := hA1
    have SZA : Hid (wr.heap.size < (wr.alloc (.cells #[.bool (s.R k).mute, .int .i64 (s.R k).nc, .int .i64 (s.R k).nt, .int .i64 (s.R k).sc, .int .i64 (s.R k).st, .slice (PA k) (s.R k).ne (PX k), .int .i64 (s.R k).bc, .int .i64 (s.R k).bt] 43)).heap.size ∧ w.heap.size ≤ wr.heap.size ∧ g < wr.heap.size ∧ w.heap.size ≤ g ∧ g ≠ w.heap.size) := ⟨by simp, hI.b.size, hgl, hgB, fun e => hO.r.notB4 hI.x (by decide) (by rw [← e]; rfl)⟩
    have BI : Hid (Below w.heap.size w wr) := hI.b
    have RI : Hid (Box4 wr rb 28 (.slice none 0 0) (.int .i64 0) (.slice none 0 0) (.slice none 0 0) ∧ rb ≠ g) := ⟨hI.r, fun e => hO.r.notB4 hI.r (by decide) (by rw [e]; rfl)⟩
    have CO : Hid (CoO wr w.heap.size s ⟨pa, pb, pd, PA, PB, PD, PX, PY, PZ, ca, cb, cd⟩ k 0 0 (.slice (some ⟨g, 0, none⟩) s.n rc) (.slice wa s.m wc1) (.slice qa s.l qc) VR VW VQ) := hO
    have CN : Hid (∀ u : World, ChB (fun q => q = g) (wr.alloc (.cells #[.bool (s.R k).mute, .int .i64 (s.R k).nc, .int .i64 (s.R k).nt, .int .i64 (s.R k).sc, .int .i64 (s.R k).st, .slice (PA k) (s.R k).ne (PX k), .int .i64 (s.R k).bc, .int .i64 (s.R k).bt] 43)) u → Calls Try.prog 70 #[.slice (PA k) (s.R k).ne (PX k)] u fun e w' => RetCi (s.R k).ne (s.R k).E u.heap.size e w' ∧ Below u.heap.size u w') := fun u hu => by
     have b1 : Below w.heap.size w u := (hI.b.trans (hA1.mono hI.b.size)).trans (hu.toBelow (fun q e => by have e' : q = g := e; omega) (Nat.le_trans hI.b.size hA1.size))
     exact cloneIn_any _ _ _ _ u (by have := MX.out.1.2 k hlt; omega) ((HV.out.below b1).1.2 k hlt) (fun e => ⟨(by have q := (HV.out.below b1).1.2 k hlt; dsimp only at q; rw [e] at q; exact els_none q), ZP.out.1 k hlt e⟩)
    clear hI hO hRk hTk hA1 hgB hgl hlt hk
    go_wp2_with fail
    generalize (wr.alloc (.cells #[.bool (s.R k).mute, .int .i64 (s.R k).nc, .int .i64 (s.R k).nt, .int .i64 (s.R k).sc, .int .i64 (s.R k).st, .slice (PA k) (s.R k).ne (PX k), .int .i64 (s.R k).bc, .int .i64 (s.R k).bt] 43)) = V at *
    obtain ⟨vb, hvb⟩ : ∃ x, x = wr.heap.size := ⟨_, rfl⟩
    have VB : Hid (vb = wr.heap.size) := hvb
    rw [← hvb] at BX ⊢
    clear hvb
    have XV0 : Hid (Box4 V w.heap.size 28 (.slice (some ⟨g, 0, none⟩) s.n rc) (.int .i64 s.t) (.slice wa s.m wc1) (.slice qa s.l qc)) := XV.out
    replace XV : Hid (Box4 V.drew w.heap.size 28 (.slice (some ⟨g, 0, none⟩) s.n rc) (.int .i64 s.t) (.slice wa s.m wc1) (.slice qa s.l qc)) := XV.out.below ((Below.refl _ _).drew)
    replace RK : Hid (RkR V.drew w.heap.size g rc s.n s.R VR k (s.R k) (.slice (PA k) (s.R k).ne (PX k))) := RK.out.below ((Below.refl _ _).drew)
    replace BA : Hid (Below wr.heap.size wr V.drew) := BA.out.drew
    have H : ChB (fun q => q = g) V V.drew := (ChB.refl _ _).drew
    refine wp_region_noPanic ?_
    refine wp_region_held_drew (S := fun w' => ChB (fun q => q = g) V w') (by kernel_rfl) H (fun _ => ?_)
    generalize V.drew = y0 at *
    refine tkH (i := 0) (v := .pointer (some ⟨w.heap.size, 0, none⟩)) rfl (by kernel_rfl) (by rfl) ?_ H ?_
    ·intro w' hSw; clear hSw; go_simp
    change wpAnyH _ _ _ _ _ _ _ { tmps := #[_,_,_,_,_,_,_,_,_,_,_,_,_,_,_,_,_,_,_,_,_,_,_,_,_,_,_,_,_,_,_,_,_,_,_,_,_,_,_,_,_,_,_,_,_,_,_,_,_,_,_,_,_,_,_,_,_,_,_,_,_,_,_,_,_,_,_,_,_,_,_,_,_], defers := _ } _
    refine tkH (i := 1) (v := .slice (some ⟨g, 0, none⟩) s.n rc) rfl (by kernel_rfl) (by rfl) ?_ H ?_
    ·intro w' hSw; have c0 := (XV0.out.ch hSw (fun e => SZA.out.2.2.2.2 (Eq.symm e))).c0; clear hSw; go_simp
    refine tkH (i := 2) (v := .int .i64 (k : Int)) rfl (by kernel_rfl) (by rfl) ?_ H ?_
    ·intro w' hSw; clear hSw; go_simp
    refine tkH (i := 3) (v := .pointer (some ⟨vb, 5, none⟩)) rfl (by kernel_rfl) (by rfl) ?_ H ?_
    ·intro w' hSw; clear hSw; go_simp
    refine tkH (i := 4) (v := .slice (PA k) (s.R k).ne (PX k)) rfl (by kernel_rfl) (by rfl) ?_ H ?_
    ·intro w' hSw; have c5 : _ = some (Value.slice (PA k) (s.R k).ne (PX k)) := (BX.out.keepB (hSw.block vb (by have := SZA.out; have := VB.out; omega) (by have := SZA.out; have := VB.out; omega))).cell 5 (by omega); clear hSw; go_simp
    change wpAnyH _ _ _ _ _ _ _ { tmps := #[_,_,_,_,_,_,_,_,_,_,_,_,_,_,_,_,_,_,_,_,_,_,_,_,_,_,_,_,_,_,_,_,_,_,_,_,_,_,_,_,_,_,_,_,_,_,_,_,_,_,_,_,_,_,_,_,_,_,_,_,_,_,_,_,_,_,_,_,_,_,_,_,_], defers := _ } _
    refine rdH (i := 5) (by kernel_rfl) rfl (fun KK hK => ?_)
    go_simp
    refine (CN.out y0 H).mono ?_
    rintro e y1 ⟨⟨va, vc, rfl, hv⟩, hb⟩
    replace XV : Hid (Box4 y1 w.heap.size 28 (.slice (some ⟨g, 0, none⟩) s.n rc) (.int .i64 s.t) (.slice wa s.m wc1) (.slice qa s.l qc)) := XV.out.below hb
    replace RK : Hid (RkR y1 w.heap.size g rc s.n s.R VR k (s.R k) (.slice (PA k) (s.R k).ne (PX k))) := RK.out.below hb
    have VI : Hid (IE y1 w.heap.size (.slice va (s.R k).ne vc) (s.R k).ne (s.R k).E ∧ ∀ q, Value.ownBlock (.slice va (s.R k).ne vc) = some q → V.heap.size ≤ q) := ⟨EO.mono hv (by have := H.size; have := SZA.out; omega), fun q e => Nat.le_trans H.size (EO.ge hv q e).1⟩
    replace BA : Hid (Below wr.heap.size wr y1) := BA.out.trans (hb.mono BA.out.size)
    replace H : ChB (fun q => q = g) V y1 := H.step hb
    clear hb hv
    refine hK.out _ _ H (fun _ => ?_)
    clear hK KK
    change wpAnyH _ _ _ _ _ _ _ { tmps := #[_,_,_,_,_,_,_,_,_,_,_,_,_,_,_,_,_,_,_,_,_,_,_,_,_,_,_,_,_,_,_,_,_,_,_,_,_,_,_,_,_,_,_,_,_,_,_,_,_,_,_,_,_,_,_,_,_,_,_,_,_,_,_,_,_,_,_,_,_,_,_,_,_], defers := _ } _
    refine tkH (i := 6) (v := .pointer (some ⟨g, k * 8, none⟩)) rfl (by kernel_rfl) (by rfl) ?_ H ?_
    ·intro w' hSw; clear hSw; go_simp
    refine tkH (i := 7) (v := .pointer (some ⟨g, k * 8 + 5, none⟩)) rfl (by kernel_rfl) (by rfl) ?_ H ?_
    ·intro w' hSw; clear hSw; go_simp
    change wpAnyH _ _ _ _ _ _ _ { tmps := #[_,_,_,_,_,_,_,_,_,_,_,_,_,_,_,_,_,_,_,_,_,_,_,_,_,_,_,_,_,_,_,_,_,_,_,_,_,_,_,_,_,_,_,_,_,_,_,_,_,_,_,_,_,_,_,_,_,_,_,_,_,_,_,_,_,_,_,_,_,_,_,_,_], defers := _ } _
    refine rdH (i := 8) (by kernel_rfl) rfl (fun KK hK => ?_)
    have c9 : y1.cell? ⟨g, k * 8 + 5, none⟩ = some (.slice (PA k) (s.R k).ne (PX k)) := RK.out.c HLT.out 5 (by omega)
    have f9 : y1.frozen? ⟨g, k * 8 + 5, none⟩ = false := RK.out.fr HLT.out 5 (by omega)
    go_simp
    have CO9 : Hid (CoO (y1.setCell ⟨g, k * 8 + 5, none⟩ (.slice va (s.R k).ne vc)) w.heap.size s ⟨pa, pb, pd, PA, PB, PD, PX, PY, PZ, ca, cb, cd⟩ (k + 1) 0 0 (.slice (some ⟨g, 0, none⟩) s.n rc) (.slice wa s.m wc1) (.slice qa s.l qc) (updE VR k (.slice va (s.R k).ne vc)) VW VQ) := CO.out.stepR HLT.out BA.out VI.out.1 (fun q e => by have := VI.out.2 q e; have := SZA.out; omega)
    have R9 : Hid (Box4 (y1.setCell ⟨g, k * 8 + 5, none⟩ (.slice va (s.R k).ne vc)) rb 28 (.slice none 0 0) (.int .i64 0) (.slice none 0 0) (.slice none 0 0)) := (RI.out.1.below BA.out).ofBlock (Below.heap_setCell y1 ⟨g, k * 8 + 5, none⟩ _ rb RI.out.2)
    have B9 : Hid (Below w.heap.size w (y1.setCell ⟨g, k * 8 + 5, none⟩ (.slice va (s.R k).ne vc))) := (BI.out.trans (BA.out.mono SZA.out.2.1)).setCell SZA.out.2.2.2.1 _
    replace XV : Hid (Box4 (y1.setCell ⟨g, k * 8 + 5, none⟩ (.slice va (s.R k).ne vc)) w.heap.size 28 (.slice (some ⟨g, 0, none⟩) s.n rc) (.int .i64 s.t) (.slice wa s.m wc1) (.slice qa s.l qc)) := XV.out.ofBlock (Below.heap_setCell y1 ⟨g, k * 8 + 5, none⟩ _ w.heap.size (fun e => SZA.out.2.2.2.2 e.symm))
    replace H : ChB (fun q => q = g) V (y1.setCell ⟨g, k * 8 + 5, none⟩ (.slice va (s.R k).ne vc)) := H.at g (.inl rfl) _ _
    clear c9 f9 RK
    generalize (y1.setCell ⟨g, k * 8 + 5, none⟩ (.slice va (s.R k).ne vc)) = y2 at *
    refine hK.out _ _ H (fun _ => ?_)
    clear hK KK
    change wpAnyH _ _ _ _ _ _ _ { tmps := #[_,_,_,_,_,_,_,_,_,_,_,_,_,_,_,_,_,_,_,_,_,_,_,_,_,_,_,_,_,_,_,_,_,_,_,_,_,_,_,_,_,_,_,_,_,_,_,_,_,_,_,_,_,_,_,_,_,_,_,_,_,_,_,_,_,_,_,_,_,_,_,_,_], defers := _ } _
    refine wpAnyH_done (by kernel_rfl) ?_ _
    refine NoPanic.normal ?_
    clear H
    go_wp2
    go_roundw
    case rel => exact ⟨k + 1, by have := HLT.out; omega, by go_num, XV.out, R9.out, ⟨_, _, _, CO9.out⟩, B9.out⟩
    case measure => have := HLT.out; simp [intOf]; omega
   ·obtain rfl : k = s.n := by omega
    have hlt' : ¬ (s.n : Int) < (s.n : Int) := by omega
    have I1 : Hid (CoI w s ⟨pa, pb, pd, PA, PB, PD, PX, PY, PZ, ca, cb, cd⟩ w.heap.size rb ra wa qa rc wc1 qc s.n 0 0 wr) := hI
    have x2 := hI.x.c2
    clear hI hk hlt
    go_wp2
    go_loopw [41] (fun i wr => ∃ k : Nat, k ≤ s.m ∧ i = .int .i64 (k : Int) ∧ CoI w s ⟨pa, pb, pd, PA, PB, PD, PX, PY, PZ, ca, cb, cd⟩ w.heap.size rb ra wa qa rc wc1 qc s.n k 0 wr) (fun i _ => s.m - (intOf i).toNat)
    case atStart => exact ⟨0, by omega, rfl, I1.out⟩
    case round =>
     clear I1 x2
     obtain ⟨k, hk, rfl, hI⟩ := hrel
     by_cases hlt : k < s.m
     ·have hlt' : (k : Int) < (s.m : Int) := by omega
      have HLT : Hid (k < s.m) := hlt
      have K1 : (k : Int) ≤ 1000 := by have := MX.out.2.1.1; omega
      obtain ⟨VR, VW, VQ, hO⟩ := hI.o
      obtain ⟨g, rfl, hgB, hgl, hRk⟩ := RkW.start hO.x hlt
      have hTk : VW k = .slice (PB k) (s.W k).ne (PY k) := hO.tw k (Nat.le_refl _)
      rw [hTk] at hRk
      have d0 : wr.cell? ⟨g, k * 5, none⟩ = some (.int .i64 (s.W k).mc) := hRk.c hlt 0 (by omega)
      have d1 : wr.cell? ⟨g, k * 5 + 1, none⟩ = some (.int .i64 (s.W k).mt) := hRk.c hlt 1 (by omega)
      have d2 : wr.cell? ⟨g, k * 5 + 2, none⟩ = some (.slice (PB k) (s.W k).ne (PY k)) := hRk.c hlt 2 (by omega)
      have d3 : wr.cell? ⟨g, k * 5 + 3, none⟩ = some (.int .i64 (s.W k).bg) := hRk.c hlt 3 (by omega)
      have d4 : wr.cell? ⟨g, k * 5 + 4, none⟩ = some (.int .i64 (s.W k).en) := hRk.c hlt 4 (by omega)
      have hA1 : Below wr.heap.size wr (wr.alloc (.cells #[.int .i64 (s.W k).mc, .int .i64 (s.W k).mt, .slice (PB k) (s.W k).ne (PY k), .int .i64 (s.W k).bg, .int .i64 (s.W k).en] 37)) := (Below.refl _ _).alloc (Nat.le_refl _) _
      have XV : Hid (Box4 (wr.alloc (.cells #[.int .i64 (s.W k).mc, .int .i64 (s.W k).mt, .slice (PB k) (s.W k).ne (PY k), .int .i64 (s.W k).bg, .int .i64 (s.W k).en] 37)) w.heap.size 28 (.slice ra s.n rc) (.int .i64 s.t) (.slice (some ⟨g, 0, none⟩) s.m wc1) (.slice qa s.l qc)) := hI.x.below hA1
      have BX : Hid (BxF (wr.alloc (.cells #[.int .i64 (s.W k).mc, .int .i64 (s.W k).mt, .slice (PB k) (s.W k).ne (PY k), .int .i64 (s.W k).bg, .int .i64 (s.W k).en] 37)) wr.heap.size 37 5 (woV (s.W k) (.slice (PB k) (s.W k).ne (PY k)))) := BxF.wo wr (s.W k) _
      have RK : Hid (RkW (wr.alloc (.cells #[.int .i64 (s.W k).mc, .int .i64 (s.W k).mt, .slice (PB k) (s.W k).ne (PY k), .int .i64 (s.W k).bg, .int .i64 (s.W k).en] 37)) w.heap.size g wc1 s.m s.W VW k (s.W k) (.slice (PB k) (s.W k).ne (PY k))) := hRk.below hA1
      have BA : Hid (Below wr.heap.size wr (wr.alloc (.cells #[.int .i64 (s.W k).mc, .int .i64 (s.W k).mt, .slice (PB k) (s.W k).ne (PY k), .int .i64 (s.W k).bg, .int .i64 (s.W k).en] 37))) := hA1
      have SZA : Hid (wr.heap.size < (wr.alloc (.cells #[.int .i64 (s.W k).mc, .int .i64 (s.W k).mt, .slice (PB k) (s.W k).ne (PY k), .int .i64 (s.W k).bg, .int .i64 (s.W k).en] 37)).heap.size ∧ w.heap.size ≤ wr.heap.size ∧ g < wr.heap.size ∧ w.heap.size ≤ g ∧ g ≠ w.heap.size) := ⟨by simp, hI.b.size, hgl, hgB, fun e => hO.x.notB4 hI.x (by decide) (by rw [← e]; rfl)⟩
      have BI : Hid (Below w.heap.size w wr) := hI.b
      have RI : Hid (Box4 wr rb 28 (.slice none 0 0) (.int .i64 0) (.slice none 0 0) (.slice none 0 0) ∧ rb ≠ g) := ⟨hI.r, fun e => hO.x.notB4 hI.r (by decide) (by rw [e]; rfl)⟩
      have CO : Hid (CoO wr w.heap.size s ⟨pa, pb, pd, PA, PB, PD, PX, PY, PZ, ca, cb, cd⟩ s.n k 0 (.slice ra s.n rc) (.slice (some ⟨g, 0, none⟩) s.m wc1) (.slice qa s.l qc) VR VW VQ) := hO
      have CN : Hid (∀ u : World, ChB (fun q => q = g) (wr.alloc (.cells #[.int .i64 (s.W k).mc, .int .i64 (s.W k).mt, .slice (PB k) (s.W k).ne (PY k), .int .i64 (s.W k).bg, .int .i64 (s.W k).en] 37)) u → Calls Try.prog 70 #[.slice (PB k) (s.W k).ne (PY k)] u fun e w' => RetCi (s.W k).ne (s.W k).E u.heap.size e w' ∧ Below u.heap.size u w') := fun u hu => by
       have b1 : Below w.heap.size w u := (hI.b.trans (hA1.mono hI.b.size)).trans (hu.toBelow (fun q e => by have e' : q = g := e; omega) (Nat.le_trans hI.b.size hA1.size))
       exact cloneIn_any _ _ _ _ u (by have := MX.out.2.1.2 k hlt; omega) ((HV.out.below b1).2.1.2 k hlt) (fun e => ⟨(by have q := (HV.out.below b1).2.1.2 k hlt; dsimp only at q; rw [e] at q; exact els_none q), ZP.out.2.1 k hlt e⟩)
      clear hI hO hRk hTk hA1 hgB hgl hlt hk
      go_wp2_with fail
      generalize (wr.alloc (.cells #[.int .i64 (s.W k).mc, .int .i64 (s.W k).mt, .slice (PB k) (s.W k).ne (PY k), .int .i64 (s.W k).bg, .int .i64 (s.W k).en] 37)) = V at *
      obtain ⟨vb, hvb⟩ : ∃ x, x = wr.heap.size := ⟨_, rfl⟩
      have VB : Hid (vb = wr.heap.size) := hvb
      rw [← hvb] at BX ⊢
      clear hvb
      have XV0 : Hid (Box4 V w.heap.size 28 (.slice ra s.n rc) (.int .i64 s.t) (.slice (some ⟨g, 0, none⟩) s.m wc1) (.slice qa s.l qc)) := XV.out
      replace XV : Hid (Box4 V.drew w.heap.size 28 (.slice ra s.n rc) (.int .i64 s.t) (.slice (some ⟨g, 0, none⟩) s.m wc1) (.slice qa s.l qc)) := XV.out.below ((Below.refl _ _).drew)
      replace RK : Hid (RkW V.drew w.heap.size g wc1 s.m s.W VW k (s.W k) (.slice (PB k) (s.W k).ne (PY k))) := RK.out.below ((Below.refl _ _).drew)
      replace BA : Hid (Below wr.heap.size wr V.drew) := BA.out.drew
      have H : ChB (fun q => q = g) V V.drew := (ChB.refl _ _).drew
      refine wp_region_noPanic ?_
      refine wp_region_held_drew (S := fun w' => ChB (fun q => q = g) V w') (by kernel_rfl) H (fun _ => ?_)
      generalize V.drew = y0 at *
      refine tkH (i := 0) (v := .pointer (some ⟨w.heap.size, 2, none⟩)) rfl (by kernel_rfl) (by rfl) ?_ H ?_
      ·intro w' hSw; clear hSw; go_simp
      refine tkH (i := 1) (v := .slice (some ⟨g, 0, none⟩) s.m wc1) rfl (by kernel_rfl) (by rfl) ?_ H ?_
      ·intro w' hSw; have c0 := (XV0.out.ch hSw (fun e => SZA.out.2.2.2.2 (Eq.symm e))).c2; clear hSw; go_simp
      refine tkH (i := 2) (v := .int .i64 (k : Int)) rfl (by kernel_rfl) (by rfl) ?_ H ?_
      ·intro w' hSw; clear hSw; go_simp
      change wpAnyH _ _ _ _ _ _ _ { tmps := #[_,_,_,_,_,_,_,_,_,_,_,_,_,_,_,_,_,_,_,_,_,_,_,_,_,_,_,_,_,_,_,_,_,_,_,_,_,_,_,_,_,_,_,_,_,_,_,_,_,_,_,_,_,_,_,_,_,_,_,_,_,_,_,_,_,_,_,_,_,_,_,_,_], defers := _ } _
      refine tkH (i := 3) (v := .pointer (some ⟨vb, 2, none⟩)) rfl (by kernel_rfl) (by rfl) ?_ H ?_
      ·intro w' hSw; clear hSw; go_simp
      refine tkH (i := 4) (v := .slice (PB k) (s.W k).ne (PY k)) rfl (by kernel_rfl) (by rfl) ?_ H ?_
      ·intro w' hSw; have c5 : _ = some (Value.slice (PB k) (s.W k).ne (PY k)) := (BX.out.keepB (hSw.block vb (by have := SZA.out; have := VB.out; omega) (by have := SZA.out; have := VB.out; omega))).cell 2 (by omega); clear hSw; go_simp
      change wpAnyH _ _ _ _ _ _ _ { tmps := #[_,_,_,_,_,_,_,_,_,_,_,_,_,_,_,_,_,_,_,_,_,_,_,_,_,_,_,_,_,_,_,_,_,_,_,_,_,_,_,_,_,_,_,_,_,_,_,_,_,_,_,_,_,_,_,_,_,_,_,_,_,_,_,_,_,_,_,_,_,_,_,_,_], defers := _ } _
      refine rdH (i := 5) (by kernel_rfl) rfl (fun KK hK => ?_)
      go_simp
      refine (CN.out y0 H).mono ?_
      rintro e y1 ⟨⟨va, vc, rfl, hv⟩, hb⟩
      replace XV : Hid (Box4 y1 w.heap.size 28 (.slice ra s.n rc) (.int .i64 s.t) (.slice (some ⟨g, 0, none⟩) s.m wc1) (.slice qa s.l qc)) := XV.out.below hb
      replace RK : Hid (RkW y1 w.heap.size g wc1 s.m s.W VW k (s.W k) (.slice (PB k) (s.W k).ne (PY k))) := RK.out.below hb
      have VI : Hid (IE y1 w.heap.size (.slice va (s.W k).ne vc) (s.W k).ne (s.W k).E ∧ ∀ q, Value.ownBlock (.slice va (s.W k).ne vc) = some q → V.heap.size ≤ q) := ⟨EO.mono hv (by have := H.size; have := SZA.out; omega), fun q e => Nat.le_trans H.size (EO.ge hv q e).1⟩
      replace BA : Hid (Below wr.heap.size wr y1) := BA.out.trans (hb.mono BA.out.size)
      replace H : ChB (fun q => q = g) V y1 := H.step hb
      clear hb hv
      refine hK.out _ _ H (fun _ => ?_)
      clear hK KK
      refine tkH (i := 6) (v := .pointer (some ⟨g, k * 5, none⟩)) rfl (by kernel_rfl) (by rfl) ?_ H ?_
      ·intro w' hSw; clear hSw; go_simp
      refine tkH (i := 7) (v := .pointer (some ⟨g, k * 5 + 2, none⟩)) rfl (by kernel_rfl) (by rfl) ?_ H ?_
      ·intro w' hSw; clear hSw; go_simp
      change wpAnyH _ _ _ _ _ _ _ { tmps := #[_,_,_,_,_,_,_,_,_,_,_,_,_,_,_,_,_,_,_,_,_,_,_,_,_,_,_,_,_,_,_,_,_,_,_,_,_,_,_,_,_,_,_,_,_,_,_,_,_,_,_,_,_,_,_,_,_,_,_,_,_,_,_,_,_,_,_,_,_,_,_,_,_], defers := _ } _
      refine rdH (i := 8) (by kernel_rfl) rfl (fun KK hK => ?_)
      have c9 : y1.cell? ⟨g, k * 5 + 2, none⟩ = some (.slice (PB k) (s.W k).ne (PY k)) := RK.out.c HLT.out 2 (by omega)
      have f9 : y1.frozen? ⟨g, k * 5 + 2, none⟩ = false := RK.out.fr HLT.out 2 (by omega)
      go_simp
      have CO9 : Hid (CoO (y1.setCell ⟨g, k * 5 + 2, none⟩ (.slice va (s.W k).ne vc)) w.heap.size s ⟨pa, pb, pd, PA, PB, PD, PX, PY, PZ, ca, cb, cd⟩ s.n (k + 1) 0 (.slice ra s.n rc) (.slice (some ⟨g, 0, none⟩) s.m wc1) (.slice qa s.l qc) VR (updE VW k (.slice va (s.W k).ne vc)) VQ) := CO.out.stepW HLT.out BA.out VI.out.1 (fun q e => by have := VI.out.2 q e; have := SZA.out; omega)
      have R9 : Hid (Box4 (y1.setCell ⟨g, k * 5 + 2, none⟩ (.slice va (s.W k).ne vc)) rb 28 (.slice none 0 0) (.int .i64 0) (.slice none 0 0) (.slice none 0 0)) := (RI.out.1.below BA.out).ofBlock (Below.heap_setCell y1 ⟨g, k * 5 + 2, none⟩ _ rb RI.out.2)
      have B9 : Hid (Below w.heap.size w (y1.setCell ⟨g, k * 5 + 2, none⟩ (.slice va (s.W k).ne vc))) := (BI.out.trans (BA.out.mono SZA.out.2.1)).setCell SZA.out.2.2.2.1 _
      replace XV : Hid (Box4 (y1.setCell ⟨g, k * 5 + 2, none⟩ (.slice va (s.W k).ne vc)) w.heap.size 28 (.slice ra s.n rc) (.int .i64 s.t) (.slice (some ⟨g, 0, none⟩) s.m wc1) (.slice qa s.l qc)) := XV.out.ofBlock (Below.heap_setCell y1 ⟨g, k * 5 + 2, none⟩ _ w.heap.size (fun e => SZA.out.2.2.2.2 e.symm))
      replace H : ChB (fun q => q = g) V (y1.setCell ⟨g, k * 5 + 2, none⟩ (.slice va (s.W k).ne vc)) := H.at g (.inl rfl) _ _
      clear c9 f9 RK
      generalize (y1.setCell ⟨g, k * 5 + 2, none⟩ (.slice va (s.W k).ne vc)) = y2 at *
      refine hK.out _ _ H (fun _ => ?_)
      clear hK KK
      change wpAnyH _ _ _ _ _ _ _ { tmps := #[_,_,_,_,_,_,_,_,_,_,_,_,_,_,_,_,_,_,_,_,_,_,_,_,_,_,_,_,_,_,_,_,_,_,_,_,_,_,_,_,_,_,_,_,_,_,_,_,_,_,_,_,_,_,_,_,_,_,_,_,_,_,_,_,_,_,_,_,_,_,_,_,_], defers := _ } _
      refine wpAnyH_done (by kernel_rfl) ?_ _
      refine NoPanic.normal ?_
      clear H
      go_wp2
      go_roundw
      case rel => exact ⟨k + 1, by have := HLT.out; omega, by go_num, XV.out, R9.out, ⟨_, _, _, CO9.out⟩, B9.out⟩
      case measure => have := HLT.out; simp [intOf]; omega
     ·obtain rfl : k = s.m := by omega
      have hlt' : ¬ (s.m : Int) < (s.m : Int) := by omega
      have I2 : Hid (CoI w s ⟨pa, pb, pd, PA, PB, PD, PX, PY, PZ, ca, cb, cd⟩ w.heap.size rb ra wa qa rc wc1 qc s.n s.m 0 wr) := hI
      have x3 := hI.x.c3
      clear hI hk hlt
      go_wp2
      go_loopw [58] (fun i wr => ∃ k : Nat, k ≤ s.l ∧ i = .int .i64 (k : Int) ∧ CoI w s ⟨pa, pb, pd, PA, PB, PD, PX, PY, PZ, ca, cb, cd⟩ w.heap.size rb ra wa qa rc wc1 qc s.n s.m k wr) (fun i _ => s.l - (intOf i).toNat)
      case atStart => exact ⟨0, by omega, rfl, I2.out⟩
      case round =>
       clear I2 x3
       obtain ⟨k, hk, rfl, hI⟩ := hrel
       by_cases hlt : k < s.l
       ·have hlt' : (k : Int) < (s.l : Int) := by omega
        have HLT : Hid (k < s.l) := hlt
        have K1 : (k : Int) ≤ 1000 := by have := MX.out.2.2.1; omega
        obtain ⟨VR, VW, VQ, hO⟩ := hI.o
        obtain ⟨g, rfl, hgB, hgl, hRk⟩ := RkQ.start hO.q hlt
        have hTk : VQ k = .slice (PD k) (s.Q k).ne (PZ k) := hO.tq k (Nat.le_refl _)
        rw [hTk] at hRk
        have d0 : wr.cell? ⟨g, k * 5, none⟩ = some (.slice (PD k) (s.Q k).ne (PZ k)) := hRk.c hlt 0 (by omega)
        have d1 : wr.cell? ⟨g, k * 5 + 1, none⟩ = some (.int .i64 (s.Q k).bc) := hRk.c hlt 1 (by omega)
        have d2 : wr.cell? ⟨g, k * 5 + 2, none⟩ = some (.int .i64 (s.Q k).bt) := hRk.c hlt 2 (by omega)
        have d3 : wr.cell? ⟨g, k * 5 + 3, none⟩ = some (.int .i64 (s.Q k).bg) := hRk.c hlt 3 (by omega)
        have d4 : wr.cell? ⟨g, k * 5 + 4, none⟩ = some (.int .i64 (s.Q k).en) := hRk.c hlt 4 (by omega)
        have hA1 : Below wr.heap.size wr (wr.alloc (.cells #[.slice (PD k) (s.Q k).ne (PZ k), .int .i64 (s.Q k).bc, .int .i64 (s.Q k).bt, .int .i64 (s.Q k).bg, .int .i64 (s.Q k).en] 90)) := (Below.refl _ _).alloc (Nat.le_refl _) _
        have XV : Hid (Box4 (wr.alloc (.cells #[.slice (PD k) (s.Q k).ne (PZ k), .int .i64 (s.Q k).bc, .int .i64 (s.Q k).bt, .int .i64 (s.Q k).bg, .int .i64 (s.Q k).en] 90)) w.heap.size 28 (.slice ra s.n rc) (.int .i64 s.t) (.slice wa s.m wc1) (.slice (some ⟨g, 0, none⟩) s.l qc)) := hI.x.below hA1
        have BX : Hid (BxF (wr.alloc (.cells #[.slice (PD k) (s.Q k).ne (PZ k), .int .i64 (s.Q k).bc, .int .i64 (s.Q k).bt, .int .i64 (s.Q k).bg, .int .i64 (s.Q k).en] 90)) wr.heap.size 90 5 (roV (s.Q k) (.slice (PD k) (s.Q k).ne (PZ k)))) := BxF.ro wr (s.Q k) _
        have RK : Hid (RkQ (wr.alloc (.cells #[.slice (PD k) (s.Q k).ne (PZ k), .int .i64 (s.Q k).bc, .int .i64 (s.Q k).bt, .int .i64 (s.Q k).bg, .int .i64 (s.Q k).en] 90)) w.heap.size g qc s.l s.Q VQ k (s.Q k) (.slice (PD k) (s.Q k).ne (PZ k))) := hRk.below hA1
        have BA : Hid (Below wr.heap.size wr (wr.alloc (.cells #[.slice (PD k) (s.Q k).ne (PZ k), .int .i64 (s.Q k).bc, .int .i64 (s.Q k).bt, .int .i64 (s.Q k).bg, .int .i64 (s.Q k).en] 90))) := hA1
        have SZA : Hid (wr.heap.size < (wr.alloc (.cells #[.slice (PD k) (s.Q k).ne (PZ k), .int .i64 (s.Q k).bc, .int .i64 (s.Q k).bt, .int .i64 (s.Q k).bg, .int .i64 (s.Q k).en] 90)).heap.size ∧ w.heap.size ≤ wr.heap.size ∧ g < wr.heap.size ∧ w.heap.size ≤ g ∧ g ≠ w.heap.size) := ⟨by simp, hI.b.size, hgl, hgB, fun e => hO.q.notB4 hI.x (by decide) (by rw [← e]; rfl)⟩
        have BI : Hid (Below w.heap.size w wr) := hI.b
        have RI : Hid (Box4 wr rb 28 (.slice none 0 0) (.int .i64 0) (.slice none 0 0) (.slice none 0 0) ∧ rb ≠ g) := ⟨hI.r, fun e => hO.q.notB4 hI.r (by decide) (by rw [e]; rfl)⟩
        have CO : Hid (CoO wr w.heap.size s ⟨pa, pb, pd, PA, PB, PD, PX, PY, PZ, ca, cb, cd⟩ s.n s.m k (.slice ra s.n rc) (.slice wa s.m wc1) (.slice (some ⟨g, 0, none⟩) s.l qc) VR VW VQ) := hO
        have CN : Hid (∀ u : World, ChB (fun q => q = g) (wr.alloc (.cells #[.slice (PD k) (s.Q k).ne (PZ k), .int .i64 (s.Q k).bc, .int .i64 (s.Q k).bt, .int .i64 (s.Q k).bg, .int .i64 (s.Q k).en] 90)) u → Calls Try.prog 70 #[.slice (PD k) (s.Q k).ne (PZ k)] u fun e w' => RetCi (s.Q k).ne (s.Q k).E u.heap.size e w' ∧ Below u.heap.size u w') := fun u hu => by
         have b1 : Below w.heap.size w u := (hI.b.trans (hA1.mono hI.b.size)).trans (hu.toBelow (fun q e => by have e' : q = g := e; omega) (Nat.le_trans hI.b.size hA1.size))
         exact cloneIn_any _ _ _ _ u (by have := MX.out.2.2.2 k hlt; omega) ((HV.out.below b1).2.2.2 k hlt) (fun e => ⟨(by have q := (HV.out.below b1).2.2.2 k hlt; dsimp only at q; rw [e] at q; exact els_none q), ZP.out.2.2 k hlt e⟩)
        clear hI hO hRk hTk hA1 hgB hgl hlt hk
        go_wp2_with fail
        generalize (wr.alloc (.cells #[.slice (PD k) (s.Q k).ne (PZ k), .int .i64 (s.Q k).bc, .int .i64 (s.Q k).bt, .int .i64 (s.Q k).bg, .int .i64 (s.Q k).en] 90)) = V at *
        obtain ⟨vb, hvb⟩ : ∃ x, x = wr.heap.size := ⟨_, rfl⟩
        have VB : Hid (vb = wr.heap.size) := hvb
        rw [← hvb] at BX ⊢
        clear hvb
        have XV0 : Hid (Box4 V w.heap.size 28 (.slice ra s.n rc) (.int .i64 s.t) (.slice wa s.m wc1) (.slice (some ⟨g, 0, none⟩) s.l qc)) := XV.out
        replace XV : Hid (Box4 V.drew w.heap.size 28 (.slice ra s.n rc) (.int .i64 s.t) (.slice wa s.m wc1) (.slice (some ⟨g, 0, none⟩) s.l qc)) := XV.out.below ((Below.refl _ _).drew)
        replace RK : Hid (RkQ V.drew w.heap.size g qc s.l s.Q VQ k (s.Q k) (.slice (PD k) (s.Q k).ne (PZ k))) := RK.out.below ((Below.refl _ _).drew)
        replace BA : Hid (Below wr.heap.size wr V.drew) := BA.out.drew
        have H : ChB (fun q => q = g) V V.drew := (ChB.refl _ _).drew
        refine wp_region_noPanic ?_
        refine wp_region_held_drew (S := fun w' => ChB (fun q => q = g) V w') (by kernel_rfl) H (fun _ => ?_)
        generalize V.drew = y0 at *
        refine tkH (i := 0) (v := .pointer (some ⟨w.heap.size, 3, none⟩)) rfl (by kernel_rfl) (by rfl) ?_ H ?_
        ·intro w' hSw; clear hSw; go_simp
        change wpAnyH _ _ _ _ _ _ _ { tmps := #[_,_,_,_,_,_,_,_,_,_,_,_,_,_,_,_,_,_,_,_,_,_,_,_,_,_,_,_,_,_,_,_,_,_,_,_,_,_,_,_,_,_,_,_,_,_,_,_,_,_,_,_,_,_,_,_,_,_,_,_,_,_,_,_,_,_,_,_,_,_,_,_,_], defers := _ } _
        refine tkH (i := 1) (v := .slice (some ⟨g, 0, none⟩) s.l qc) rfl (by kernel_rfl) (by rfl) ?_ H ?_
        ·intro w' hSw; have c0 := (XV0.out.ch hSw (fun e => SZA.out.2.2.2.2 (Eq.symm e))).c3; clear hSw; go_simp
        refine tkH (i := 2) (v := .int .i64 (k : Int)) rfl (by kernel_rfl) (by rfl) ?_ H ?_
        ·intro w' hSw; clear hSw; go_simp
        refine tkH (i := 3) (v := .pointer (some ⟨vb, 0, none⟩)) rfl (by kernel_rfl) (by rfl) ?_ H ?_
        ·intro w' hSw; clear hSw; go_simp
        refine tkH (i := 4) (v := .slice (PD k) (s.Q k).ne (PZ k)) rfl (by kernel_rfl) (by rfl) ?_ H ?_
        ·intro w' hSw; have c5 : _ = some (Value.slice (PD k) (s.Q k).ne (PZ k)) := (BX.out.keepB (hSw.block vb (by have := SZA.out; have := VB.out; omega) (by have := SZA.out; have := VB.out; omega))).cell 0 (by omega); clear hSw; go_simp
        change wpAnyH _ _ _ _ _ _ _ { tmps := #[_,_,_,_,_,_,_,_,_,_,_,_,_,_,_,_,_,_,_,_,_,_,_,_,_,_,_,_,_,_,_,_,_,_,_,_,_,_,_,_,_,_,_,_,_,_,_,_,_,_,_,_,_,_,_,_,_,_,_,_,_,_,_,_,_,_,_,_,_,_,_,_,_], defers := _ } _
        refine rdH (i := 5) (by kernel_rfl) rfl (fun KK hK => ?_)
        go_simp
        refine (CN.out y0 H).mono ?_
        rintro e y1 ⟨⟨va, vc, rfl, hv⟩, hb⟩
        replace XV : Hid (Box4 y1 w.heap.size 28 (.slice ra s.n rc) (.int .i64 s.t) (.slice wa s.m wc1) (.slice (some ⟨g, 0, none⟩) s.l qc)) := XV.out.below hb
        replace RK : Hid (RkQ y1 w.heap.size g qc s.l s.Q VQ k (s.Q k) (.slice (PD k) (s.Q k).ne (PZ k))) := RK.out.below hb
        have VI : Hid (IE y1 w.heap.size (.slice va (s.Q k).ne vc) (s.Q k).ne (s.Q k).E ∧ ∀ q, Value.ownBlock (.slice va (s.Q k).ne vc) = some q → V.heap.size ≤ q) := ⟨EO.mono hv (by have := H.size; have := SZA.out; omega), fun q e => Nat.le_trans H.size (EO.ge hv q e).1⟩
        replace BA : Hid (Below wr.heap.size wr y1) := BA.out.trans (hb.mono BA.out.size)
        replace H : ChB (fun q => q = g) V y1 := H.step hb
        clear hb hv
        refine hK.out _ _ H (fun _ => ?_)
        clear hK KK
        change wpAnyH _ _ _ _ _ _ _ { tmps := #[_,_,_,_,_,_,_,_,_,_,_,_,_,_,_,_,_,_,_,_,_,_,_,_,_,_,_,_,_,_,_,_,_,_,_,_,_,_,_,_,_,_,_,_,_,_,_,_,_,_,_,_,_,_,_,_,_,_,_,_,_,_,_,_,_,_,_,_,_,_,_,_,_], defers := _ } _
        refine tkH (i := 6) (v := .pointer (some ⟨g, k * 5, none⟩)) rfl (by kernel_rfl) (by rfl) ?_ H ?_
        ·intro w' hSw; clear hSw; go_simp
        refine tkH (i := 7) (v := .pointer (some ⟨g, k * 5, none⟩)) rfl (by kernel_rfl) (by rfl) ?_ H ?_
        ·intro w' hSw; clear hSw; go_simp
        change wpAnyH _ _ _ _ _ _ _ { tmps := #[_,_,_,_,_,_,_,_,_,_,_,_,_,_,_,_,_,_,_,_,_,_,_,_,_,_,_,_,_,_,_,_,_,_,_,_,_,_,_,_,_,_,_,_,_,_,_,_,_,_,_,_,_,_,_,_,_,_,_,_,_,_,_,_,_,_,_,_,_,_,_,_,_], defers := _ } _
        refine rdH (i := 8) (by kernel_rfl) rfl (fun KK hK => ?_)
        have c9 : y1.cell? ⟨g, k * 5, none⟩ = some (.slice (PD k) (s.Q k).ne (PZ k)) := RK.out.c HLT.out 0 (by omega)
        have f9 : y1.frozen? ⟨g, k * 5, none⟩ = false := RK.out.fr HLT.out 0 (by omega)
        go_simp
        have CO9 : Hid (CoO (y1.setCell ⟨g, k * 5 + 0, none⟩ (.slice va (s.Q k).ne vc)) w.heap.size s ⟨pa, pb, pd, PA, PB, PD, PX, PY, PZ, ca, cb, cd⟩ s.n s.m (k + 1) (.slice ra s.n rc) (.slice wa s.m wc1) (.slice (some ⟨g, 0, none⟩) s.l qc) VR VW (updE VQ k (.slice va (s.Q k).ne vc))) := CO.out.stepQ HLT.out BA.out VI.out.1 (fun q e => by have := VI.out.2 q e; have := SZA.out; omega)
        have R9 : Hid (Box4 (y1.setCell ⟨g, k * 5 + 0, none⟩ (.slice va (s.Q k).ne vc)) rb 28 (.slice none 0 0) (.int .i64 0) (.slice none 0 0) (.slice none 0 0)) := (RI.out.1.below BA.out).ofBlock (Below.heap_setCell y1 ⟨g, k * 5 + 0, none⟩ _ rb RI.out.2)
        have B9 : Hid (Below w.heap.size w (y1.setCell ⟨g, k * 5 + 0, none⟩ (.slice va (s.Q k).ne vc))) := (BI.out.trans (BA.out.mono SZA.out.2.1)).setCell SZA.out.2.2.2.1 _
        replace XV : Hid (Box4 (y1.setCell ⟨g, k * 5 + 0, none⟩ (.slice va (s.Q k).ne vc)) w.heap.size 28 (.slice ra s.n rc) (.int .i64 s.t) (.slice wa s.m wc1) (.slice (some ⟨g, 0, none⟩) s.l qc)) := XV.out.ofBlock (Below.heap_setCell y1 ⟨g, k * 5 + 0, none⟩ _ w.heap.size (fun e => SZA.out.2.2.2.2 e.symm))
        replace H : ChB (fun q => q = g) V (y1.setCell ⟨g, k * 5 + 0, none⟩ (.slice va (s.Q k).ne vc)) := H.at g (.inl rfl) _ _
        clear c9 f9 RK
        generalize (y1.setCell ⟨g, k * 5, none⟩ (.slice va (s.Q k).ne vc)) = y2 at *
        refine hK.out _ _ H (fun _ => ?_)
        clear hK KK
        change wpAnyH _ _ _ _ _ _ _ { tmps := #[_,_,_,_,_,_,_,_,_,_,_,_,_,_,_,_,_,_,_,_,_,_,_,_,_,_,_,_,_,_,_,_,_,_,_,_,_,_,_,_,_,_,_,_,_,_,_,_,_,_,_,_,_,_,_,_,_,_,_,_,_,_,_,_,_,_,_,_,_,_,_,_,_], defers := _ } _
        refine wpAnyH_done (by kernel_rfl) ?_ _
        refine NoPanic.normal ?_
        clear H
        go_wp2
        go_roundw
        case rel => exact ⟨k + 1, by have := HLT.out; omega, by go_num, XV.out, R9.out, ⟨_, _, _, CO9.out⟩, B9.out⟩
        case measure => have := HLT.out; simp [intOf]; omega
       ·obtain rfl : k = s.l := by omega
        have hlt' : ¬ (s.l : Int) < (s.l : Int) := by omega
        obtain ⟨VR, VW, VQ, hO⟩ := hI.o
        have k0 := hI.x.c0
        have k1 := hI.x.c1
        have k2 := hI.x.c2
        have k3 := hI.x.c3
        have y0 := hI.r.c0
        have y1 := hI.r.c1
        have y2 := hI.r.c2
        have y3 := hI.r.c3
        have f0 := hI.r.fr 0
        have f1 := hI.r.fr 1
        have f2 := hI.r.fr 2
        have f3 := hI.r.fr 3
        have kp : ∀ g, g ≠ rb → ((((wr.setCell ⟨rb, 0, none⟩ (.slice ra s.n rc)).setCell ⟨rb, 1, none⟩ (.int .i64 s.t)).setCell ⟨rb, 2, none⟩ (.slice wa s.m wc1)).setCell ⟨rb, 3, none⟩ (.slice qa s.l qc)).heap[g]? = wr.heap[g]? := fun g hg => (Below.heap_setCell _ ⟨rb, 3, none⟩ _ g hg).trans ((Below.heap_setCell _ ⟨rb, 2, none⟩ _ g hg).trans ((Below.heap_setCell _ ⟨rb, 1, none⟩ _ g hg).trans (Below.heap_setCell _ ⟨rb, 0, none⟩ _ g hg)))
        have X9 : Hid (Box4 ((((wr.setCell ⟨rb, 0, none⟩ (.slice ra s.n rc)).setCell ⟨rb, 1, none⟩ (.int .i64 s.t)).setCell ⟨rb, 2, none⟩ (.slice wa s.m wc1)).setCell ⟨rb, 3, none⟩ (.slice qa s.l qc)) rb 28 (.slice ra s.n rc) (.int .i64 s.t) (.slice wa s.m wc1) (.slice qa s.l qc)) := (((hI.r.set0 _).set1 _).set2 _).set3 _
        have Q9 : Hid (RetOw w.heap.size s (.returned (.agg #[.slice ra s.n rc, .int .i64 s.t, .slice wa s.m wc1, .slice qa s.l qc])) ((((wr.setCell ⟨rb, 0, none⟩ (.slice ra s.n rc)).setCell ⟨rb, 1, none⟩ (.int .i64 s.t)).setCell ⟨rb, 2, none⟩ (.slice wa s.m wc1)).setCell ⟨rb, 3, none⟩ (.slice qa s.l qc))) := ⟨_, _, _, VR, VW, VQ, rfl, ⟨hO.r.keep (fun g e => kp g (fun z => hO.r.notB4 hI.r (by decide) (z ▸ e))), hO.x.keep (fun g e => kp g (fun z => hO.x.notB4 hI.r (by decide) (z ▸ e))), hO.q.keep (fun g e => kp g (fun z => hO.q.notB4 hI.r (by decide) (z ▸ e))), fun i hi => EO.keep (hO.e i hi) (fun g e => kp g (fun z => EO.notB4 (hO.e i hi) hI.r (by decide) (z ▸ e))), fun i hi => EO.keep (hO.a i hi) (fun g e => kp g (fun z => EO.notB4 (hO.a i hi) hI.r (by decide) (z ▸ e))), fun i hi => EO.keep (hO.f i hi) (fun g e => kp g (fun z => EO.notB4 (hO.f i hi) hI.r (by decide) (z ▸ e)))⟩, hO.d⟩
        have B9 : Hid (Below w.heap.size w ((((wr.setCell ⟨rb, 0, none⟩ (.slice ra s.n rc)).setCell ⟨rb, 1, none⟩ (.int .i64 s.t)).setCell ⟨rb, 2, none⟩ (.slice wa s.m wc1)).setCell ⟨rb, 3, none⟩ (.slice qa s.l qc))) := (((hI.b.setCell (p := ⟨rb, 0, none⟩) NR.out _).setCell (p := ⟨rb, 1, none⟩) NR.out _).setCell (p := ⟨rb, 2, none⟩) NR.out _).setCell (p := ⟨rb, 3, none⟩) NR.out _
        clear hI hO kp ZP MX HV hk hlt
        go_wp2
        exact ret_cell (b := rb) Try.results30 rfl (Box4.loadsv X9.out) ⟨Q9.out, B9.out⟩
end Go.Proofs.Ytedncfcmhaaobaa
