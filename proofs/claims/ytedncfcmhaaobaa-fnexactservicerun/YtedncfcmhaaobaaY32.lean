/-
  Texts of the proof, joined: QuF.
-/
import Derived.Test.YtedncfcmhaaobaaY26
import Derived.Test.YtedncfcmhaaobaaY31
import Derived.Test.YtedncfcmhaaobaaY10
namespace Go.Proofs.Ytedncfcmhaaobaa
open Go.ChangeShapes Go.WideShapes Go.ChangeAt Go.RowKit
set_option linter.unusedVariables false
structure ChB (P : Nat → Prop) (w w' : World) : Prop where
 os : w'.os = w.os
 tape : w'.tape = w.tape
 output : w'.output = w.output
 size : w.heap.size ≤ w'.heap.size
 block : ∀ g, g < w.heap.size → ¬ P g → w'.heap[g]? = w.heap[g]?
theorem ChB.refl (P : Nat → Prop) (w : World) : ChB P w w := ⟨rfl, rfl, rfl, Nat.le_refl _, fun _ _ _ => rfl⟩
theorem ChB.step {P : Nat → Prop} {w w1 w2 : World} (h : ChB P w w1) (hb : Below w1.heap.size w1 w2) : ChB P w w2 :=
 ⟨hb.os.trans h.os, hb.tape.trans h.tape, hb.output.trans h.output, Nat.le_trans h.size hb.size, fun g hg hp => (hb.block g (Nat.lt_of_lt_of_le hg h.size)).trans (h.block g hg hp)⟩
theorem ChB.drew {P : Nat → Prop} {w w1 : World} (h : ChB P w w1) : ChB P w w1.drew := h.step (Below.refl _ _).drew
theorem ChB.alloc {P : Nat → Prop} {w w1 : World} (h : ChB P w w1) (o : Obj) : ChB P w (w1.alloc o) := h.step ((Below.refl _ _).alloc (Nat.le_refl _) o)
theorem ChB.set {P : Nat → Prop} {w w1 : World} (h : ChB P w w1) {p : Addr} (hp : P p.block ∨ w.heap.size ≤ p.block) (u : Value) : ChB P w (w1.setCell p u) := by
 have hb : Below 0 w1 (w1.setCell p u) := (Below.refl _ _).setCell (Nat.zero_le _) u
 refine ⟨hb.os.trans h.os, hb.tape.trans h.tape, hb.output.trans h.output, Nat.le_trans h.size hb.size, fun g hg hq => ?_⟩
 rw [Below.heap_setCell w1 p u g (fun e => by
  rcases hp with z | z
  ·exact hq (e ▸ z)
  ·omega)]
 exact h.block g hg hq
theorem ChB.at {P : Nat → Prop} {w w1 : World} (h : ChB P w w1) (g : Nat) (hp : P g ∨ w.heap.size ≤ g) (i : Nat) (u : Value) : ChB P w (w1.setCell ⟨g, i, none⟩ u) := h.set (p := ⟨g, i, none⟩) hp u
theorem ChB.grown {P : Nat → Prop} {w w1 w2 : World} {row : Option Nat} (h : ChB P w w1) (hg : w1.grownBy w2 row) (hr : ∀ g, row = some g → P g ∨ w.heap.size ≤ g) : ChB P w w2 :=
 ⟨hg.os.trans h.os, hg.tape.trans h.tape, hg.output.trans h.output, Nat.le_trans h.size hg.size, fun g hl hp => (hg.block g (Nat.lt_of_lt_of_le hl h.size) (fun e => by
  rcases hr g e.symm with z | z
  ·exact hp z
  ·omega)).trans (h.block g hl hp)⟩
theorem ChB.toBelow {P : Nat → Prop} {w w1 : World} {B : Nat} (h : ChB P w w1) (hP : ∀ g, P g → B ≤ g) (hB : B ≤ w.heap.size) : Below B w w1 :=
 ⟨h.os, h.tape, h.output, h.size, fun g hg => h.block g (by omega) (fun z => by have := hP g z; omega)⟩
theorem EO.ch {P : Nat → Prop} {w w' : World} {B : Nat} {t : TypeId} {s : Nat} {v : Value} {n : Nat} {F : Nat → Nat → Value} (h : EO w B t s v n F) (H : ChB P w w') (hp : ∀ g, v.ownBlock = some g → ¬ P g) : EO w' B t s v n F := h.keep (fun g e => H.block g (h.ge g e).2 (hp g e))
theorem Box4.ch {P : Nat → Prop} {w w' : World} {b : Nat} {t : TypeId} {x y z m : Value} (h : Box4 w b t x y z m) (H : ChB P w w') (hp : ¬ P b) : Box4 w' b t x y z m := h.ofBlock (H.block b h.lt hp)
theorem EO.notB4 {w : World} {B : Nat} {t : TypeId} {k : Nat} {v : Value} {n : Nat} {F : Nat → Nat → Value} (h : EO w B t k v n F) {b : Nat} {tb : TypeId} {x y z m : Value} (hb : Box4 w b tb x y z m) (ht : tb ≠ t) : v.ownBlock ≠ some b := EO.notIs h hb ht
def PR (vr : Value) (VR : Nat → Value) (k g : Nat) : Prop := vr.ownBlock = some g ∨ (VR k).ownBlock = some g
section
variable {w w' : World} {B b : Nat} {s : Sv} {vr vw vq : Value} {VR VW VQ : Nat → Value}
theorem chR_box (hx : Box4 w b 28 vr (.int .i64 s.t) vw vq) (ho : SvO w B s vr vw vq VR VW VQ) {k : Nat} (hk : k < s.n) : ¬ PR vr VR k b := fun z => by
 rcases z with z | z
 ·exact ho.r.notB4 hx (by decide) z
 ·exact EO.notB4 (ho.e k hk) hx (by decide) z
theorem chR_x (ho : SvO w B s vr vw vq VR VW VQ) {k : Nat} (hk : k < s.n) (g : Nat) (e : vw.ownBlock = some g) : ¬ PR vr VR k g := fun z => by
 rcases z with z | z
 ·exact ho.r.apart ho.x (by decide) g z e
 ·exact EO.apart (ho.e k hk) ho.x (by decide) g z e
theorem chR_q (ho : SvO w B s vr vw vq VR VW VQ) {k : Nat} (hk : k < s.n) (g : Nat) (e : vq.ownBlock = some g) : ¬ PR vr VR k g := fun z => by
 rcases z with z | z
 ·exact ho.r.apart ho.q (by decide) g z e
 ·exact EO.apart (ho.e k hk) ho.q (by decide) g z e
theorem chR_e (ho : SvO w B s vr vw vq VR VW VQ) (hd : SvD s VR VW VQ) {k : Nat} (hk : k < s.n) {i : Nat} (hi : i < s.n) (hne : i ≠ k) (g : Nat) (e : (VR i).ownBlock = some g) : ¬ PR vr VR k g := fun z => by
 rcases z with z | z
 ·exact EO.apart (ho.e i hi) ho.r (by decide) g e z
 ·exact hne (hd.1 i k g hi hk e z)
theorem chR_a (ho : SvO w B s vr vw vq VR VW VQ) (hd : SvD s VR VW VQ) {k : Nat} (hk : k < s.n) {i : Nat} (hi : i < s.m) (g : Nat) (e : (VW i).ownBlock = some g) : ¬ PR vr VR k g := fun z => by
 rcases z with z | z
 ·exact EO.apart (ho.a i hi) ho.r (by decide) g e z
 ·exact hd.2.2.2.1 k i g hk hi z e
theorem chR_f (ho : SvO w B s vr vw vq VR VW VQ) (hd : SvD s VR VW VQ) {k : Nat} (hk : k < s.n) {i : Nat} (hi : i < s.l) (g : Nat) (e : (VQ i).ownBlock = some g) : ¬ PR vr VR k g := fun z => by
 rcases z with z | z
 ·exact EO.apart (ho.f i hi) ho.r (by decide) g e z
 ·exact hd.2.2.2.2.1 k i g hk hi z e
theorem partsR {r : Rp} {v : Value} {k : Nat} (ho : SvO w B s vr vw vq VR VW VQ) (hd : SvD s VR VW VQ) (hk : k < s.n) (H : ChB (PR vr VR k) w w') (hr : EO w' B 43 8 vr s.n (rpF (updE s.R k r) (updE VR k v))) (hl : IE w' B v r.ne r.E) (hv : ∀ g, v.ownBlock = some g → (VR k).ownBlock = some g ∨ w.heap.size ≤ g) :
  SvO w' B { s with R := updE s.R k r } vr vw vq (updE VR k v) VW VQ ∧ SvD { s with R := updE s.R k r } (updE VR k v) VW VQ := by
 refine ⟨⟨hr, ho.x.ch H (chR_x ho hk), ho.q.ch H (chR_q ho hk), fun i hi => ?_, fun i hi => EO.ch (ho.a i hi) H (chR_a ho hd hk hi), fun i hi => EO.ch (ho.f i hi) H (chR_f ho hd hk hi)⟩, fun i j g hi hj e1 e2 => ?_, hd.2.1, hd.2.2.1, fun i j g hi hj e1 e2 => ?_, fun i j g hi hj e1 e2 => ?_, hd.2.2.2.2.2⟩
 ·dsimp only at hi ⊢
  rw [updE_at, updE_at]
  by_cases e : i = k
  ·rw [if_pos e, if_pos e]; exact hl
  ·rw [if_neg e, if_neg e]; exact EO.ch (ho.e i hi) H (chR_e ho hd hk hi e)
 ·dsimp only at hi hj
  rw [updE_at] at e1 e2
  by_cases p : i = k <;> by_cases q : j = k
  ·omega
  ·rw [if_pos p] at e1
   rw [if_neg q] at e2
   rcases hv g e1 with z | z
   ·exact absurd (hd.1 j k g hj hk e2 z) q
   ·have := (EO.ge (ho.e j hj) g e2).2; omega
  ·rw [if_neg p] at e1
   rw [if_pos q] at e2
   rcases hv g e2 with z | z
   ·exact absurd (hd.1 i k g hi hk e1 z) p
   ·have := (EO.ge (ho.e i hi) g e1).2; omega
  ·rw [if_neg p] at e1
   rw [if_neg q] at e2
   exact hd.1 i j g hi hj e1 e2
 ·dsimp only at hi hj
  rw [updE_at] at e1
  by_cases p : i = k
  ·rw [if_pos p] at e1
   rcases hv g e1 with z | z
   ·exact hd.2.2.2.1 k j g hk hj z e2
   ·have := (EO.ge (ho.a j hj) g e2).2; omega
  ·rw [if_neg p] at e1
   exact hd.2.2.2.1 i j g hi hj e1 e2
 ·dsimp only at hi hj
  rw [updE_at] at e1
  by_cases p : i = k
  ·rw [if_pos p] at e1
   rcases hv g e1 with z | z
   ·exact hd.2.2.2.2.1 k j g hk hj z e2
   ·have := (EO.ge (ho.f j hj) g e2).2; omega
  ·rw [if_neg p] at e1
   exact hd.2.2.2.2.1 i j g hi hj e1 e2
theorem chW_box (hx : Box4 w b 28 vr (.int .i64 s.t) vw vq) (ho : SvO w B s vr vw vq VR VW VQ) {k : Nat} (hk : k < s.m) : ¬ PR vw VW k b := fun z => by
 rcases z with z | z
 ·exact ho.x.notB4 hx (by decide) z
 ·exact EO.notB4 (ho.a k hk) hx (by decide) z
theorem chW_r (ho : SvO w B s vr vw vq VR VW VQ) {k : Nat} (hk : k < s.m) (g : Nat) (e : vr.ownBlock = some g) : ¬ PR vw VW k g := fun z => by
 rcases z with z | z
 ·exact ho.x.apart ho.r (by decide) g z e
 ·exact EO.apart (ho.a k hk) ho.r (by decide) g z e
theorem chW_q (ho : SvO w B s vr vw vq VR VW VQ) {k : Nat} (hk : k < s.m) (g : Nat) (e : vq.ownBlock = some g) : ¬ PR vw VW k g := fun z => by
 rcases z with z | z
 ·exact ho.x.apart ho.q (by decide) g z e
 ·exact EO.apart (ho.a k hk) ho.q (by decide) g z e
theorem chW_a (ho : SvO w B s vr vw vq VR VW VQ) (hd : SvD s VR VW VQ) {k : Nat} (hk : k < s.m) {i : Nat} (hi : i < s.m) (hne : i ≠ k) (g : Nat) (e : (VW i).ownBlock = some g) : ¬ PR vw VW k g := fun z => by
 rcases z with z | z
 ·exact EO.apart (ho.a i hi) ho.x (by decide) g e z
 ·exact hne (hd.2.1 i k g hi hk e z)
theorem chW_e (ho : SvO w B s vr vw vq VR VW VQ) (hd : SvD s VR VW VQ) {k : Nat} (hk : k < s.m) {i : Nat} (hi : i < s.n) (g : Nat) (e : (VR i).ownBlock = some g) : ¬ PR vw VW k g := fun z => by
 rcases z with z | z
 ·exact EO.apart (ho.e i hi) ho.x (by decide) g e z
 ·exact hd.2.2.2.1 i k g hi hk e z
theorem chW_f (ho : SvO w B s vr vw vq VR VW VQ) (hd : SvD s VR VW VQ) {k : Nat} (hk : k < s.m) {i : Nat} (hi : i < s.l) (g : Nat) (e : (VQ i).ownBlock = some g) : ¬ PR vw VW k g := fun z => by
 rcases z with z | z
 ·exact EO.apart (ho.f i hi) ho.x (by decide) g e z
 ·exact hd.2.2.2.2.2 k i g hk hi z e
theorem partsW {x : Wo} {v : Value} {k : Nat} (ho : SvO w B s vr vw vq VR VW VQ) (hd : SvD s VR VW VQ) (hk : k < s.m) (H : ChB (PR vw VW k) w w') (hr : EO w' B 37 5 vw s.m (woF (updE s.W k x) (updE VW k v))) (hl : IE w' B v x.ne x.E) (hv : ∀ g, v.ownBlock = some g → (VW k).ownBlock = some g ∨ w.heap.size ≤ g) :
  SvO w' B { s with W := updE s.W k x } vr vw vq VR (updE VW k v) VQ ∧ SvD { s with W := updE s.W k x } VR (updE VW k v) VQ := by
 refine ⟨⟨ho.r.ch H (chW_r ho hk), hr, ho.q.ch H (chW_q ho hk), fun i hi => EO.ch (ho.e i hi) H (chW_e ho hd hk hi), fun i hi => ?_, fun i hi => EO.ch (ho.f i hi) H (chW_f ho hd hk hi)⟩, hd.1, fun i j g hi hj e1 e2 => ?_, hd.2.2.1, fun i j g hi hj e1 e2 => ?_, hd.2.2.2.2.1, fun i j g hi hj e1 e2 => ?_⟩
 ·dsimp only at hi ⊢
  rw [updE_at, updE_at]
  by_cases e : i = k
  ·rw [if_pos e, if_pos e]; exact hl
  ·rw [if_neg e, if_neg e]; exact EO.ch (ho.a i hi) H (chW_a ho hd hk hi e)
 ·dsimp only at hi hj
  rw [updE_at] at e1 e2
  by_cases p : i = k <;> by_cases q : j = k
  ·omega
  ·rw [if_pos p] at e1
   rw [if_neg q] at e2
   rcases hv g e1 with z | z
   ·exact absurd (hd.2.1 j k g hj hk e2 z) q
   ·have := (EO.ge (ho.a j hj) g e2).2; omega
  ·rw [if_neg p] at e1
   rw [if_pos q] at e2
   rcases hv g e2 with z | z
   ·exact absurd (hd.2.1 i k g hi hk e1 z) p
   ·have := (EO.ge (ho.a i hi) g e1).2; omega
  ·rw [if_neg p] at e1
   rw [if_neg q] at e2
   exact hd.2.1 i j g hi hj e1 e2
 ·dsimp only at hi hj
  rw [updE_at] at e2
  by_cases p : j = k
  ·rw [if_pos p] at e2
   rcases hv g e2 with z | z
   ·exact hd.2.2.2.1 i k g hi hk e1 z
   ·have := (EO.ge (ho.e i hi) g e1).2; omega
  ·rw [if_neg p] at e2
   exact hd.2.2.2.1 i j g hi hj e1 e2
 ·dsimp only at hi hj
  rw [updE_at] at e1
  by_cases p : i = k
  ·rw [if_pos p] at e1
   rcases hv g e1 with z | z
   ·exact hd.2.2.2.2.2 k j g hk hj z e2
   ·have := (EO.ge (ho.f j hj) g e2).2; omega
  ·rw [if_neg p] at e1
   exact hd.2.2.2.2.2 i j g hi hj e1 e2
theorem chQ_box (hx : Box4 w b 28 vr (.int .i64 s.t) vw vq) (ho : SvO w B s vr vw vq VR VW VQ) {k : Nat} (hk : k < s.l) : ¬ PR vq VQ k b := fun z => by
 rcases z with z | z
 ·exact ho.q.notB4 hx (by decide) z
 ·exact EO.notB4 (ho.f k hk) hx (by decide) z
theorem chQ_r (ho : SvO w B s vr vw vq VR VW VQ) {k : Nat} (hk : k < s.l) (g : Nat) (e : vr.ownBlock = some g) : ¬ PR vq VQ k g := fun z => by
 rcases z with z | z
 ·exact ho.q.apart ho.r (by decide) g z e
 ·exact EO.apart (ho.f k hk) ho.r (by decide) g z e
theorem chQ_x (ho : SvO w B s vr vw vq VR VW VQ) {k : Nat} (hk : k < s.l) (g : Nat) (e : vw.ownBlock = some g) : ¬ PR vq VQ k g := fun z => by
 rcases z with z | z
 ·exact ho.q.apart ho.x (by decide) g z e
 ·exact EO.apart (ho.f k hk) ho.x (by decide) g z e
theorem chQ_f (ho : SvO w B s vr vw vq VR VW VQ) (hd : SvD s VR VW VQ) {k : Nat} (hk : k < s.l) {i : Nat} (hi : i < s.l) (hne : i ≠ k) (g : Nat) (e : (VQ i).ownBlock = some g) : ¬ PR vq VQ k g := fun z => by
 rcases z with z | z
 ·exact EO.apart (ho.f i hi) ho.q (by decide) g e z
 ·exact hne (hd.2.2.1 i k g hi hk e z)
theorem chQ_e (ho : SvO w B s vr vw vq VR VW VQ) (hd : SvD s VR VW VQ) {k : Nat} (hk : k < s.l) {i : Nat} (hi : i < s.n) (g : Nat) (e : (VR i).ownBlock = some g) : ¬ PR vq VQ k g := fun z => by
 rcases z with z | z
 ·exact EO.apart (ho.e i hi) ho.q (by decide) g e z
 ·exact hd.2.2.2.2.1 i k g hi hk e z
theorem chQ_a (ho : SvO w B s vr vw vq VR VW VQ) (hd : SvD s VR VW VQ) {k : Nat} (hk : k < s.l) {i : Nat} (hi : i < s.m) (g : Nat) (e : (VW i).ownBlock = some g) : ¬ PR vq VQ k g := fun z => by
 rcases z with z | z
 ·exact EO.apart (ho.a i hi) ho.q (by decide) g e z
 ·exact hd.2.2.2.2.2 i k g hi hk e z
theorem partsQ {x : Ro} {v : Value} {k : Nat} (ho : SvO w B s vr vw vq VR VW VQ) (hd : SvD s VR VW VQ) (hk : k < s.l) (H : ChB (PR vq VQ k) w w') (hr : EO w' B 90 5 vq s.l (roF (updE s.Q k x) (updE VQ k v))) (hl : IE w' B v x.ne x.E) (hv : ∀ g, v.ownBlock = some g → (VQ k).ownBlock = some g ∨ w.heap.size ≤ g) :
  SvO w' B { s with Q := updE s.Q k x } vr vw vq VR VW (updE VQ k v) ∧ SvD { s with Q := updE s.Q k x } VR VW (updE VQ k v) := by
 refine ⟨⟨ho.r.ch H (chQ_r ho hk), ho.x.ch H (chQ_x ho hk), hr, fun i hi => EO.ch (ho.e i hi) H (chQ_e ho hd hk hi), fun i hi => EO.ch (ho.a i hi) H (chQ_a ho hd hk hi), fun i hi => ?_⟩, hd.1, hd.2.1, fun i j g hi hj e1 e2 => ?_, hd.2.2.2.1, fun i j g hi hj e1 e2 => ?_, fun i j g hi hj e1 e2 => ?_⟩
 ·dsimp only at hi ⊢
  rw [updE_at, updE_at]
  by_cases e : i = k
  ·rw [if_pos e, if_pos e]; exact hl
  ·rw [if_neg e, if_neg e]; exact EO.ch (ho.f i hi) H (chQ_f ho hd hk hi e)
 ·dsimp only at hi hj
  rw [updE_at] at e1 e2
  by_cases p : i = k <;> by_cases q : j = k
  ·omega
  ·rw [if_pos p] at e1
   rw [if_neg q] at e2
   rcases hv g e1 with z | z
   ·exact absurd (hd.2.2.1 j k g hj hk e2 z) q
   ·have := (EO.ge (ho.f j hj) g e2).2; omega
  ·rw [if_neg p] at e1
   rw [if_pos q] at e2
   rcases hv g e2 with z | z
   ·exact absurd (hd.2.2.1 i k g hi hk e1 z) p
   ·have := (EO.ge (ho.f i hi) g e1).2; omega
  ·rw [if_neg p] at e1
   rw [if_neg q] at e2
   exact hd.2.2.1 i j g hi hj e1 e2
 ·dsimp only at hi hj
  rw [updE_at] at e2
  by_cases p : j = k
  ·rw [if_pos p] at e2
   rcases hv g e2 with z | z
   ·exact hd.2.2.2.2.1 i k g hi hk e1 z
   ·have := (EO.ge (ho.e i hi) g e1).2; omega
  ·rw [if_neg p] at e2
   exact hd.2.2.2.2.1 i j g hi hj e1 e2
 ·dsimp only at hi hj
  rw [updE_at] at e2
  by_cases p : j = k
  ·rw [if_pos p] at e2
   rcases hv g e2 with z | z
   ·exact hd.2.2.2.2.2 i k g hi hk e1 z
   ·have := (EO.ge (ho.a i hi) g e1).2; omega
  ·rw [if_neg p] at e2
   exact hd.2.2.2.2.2 i j g hi hj e1 e2
end
theorem ids_le {n m : Nat} {E : Nat → Int} (h : idsOk n m E) : m ≤ n := by
 have g : ∀ i, i < m → (i : Int) ≤ E i := by
  intro i
  induction i with
  | zero => intro hi; exact (h 0 hi).1.1
  | succ i ih =>
   intro hi
   have a := ih (by omega)
   have b := (h (i + 1) hi).2 (by omega)
   rw [Nat.add_sub_cancel] at b
   omega
 rcases Nat.eq_zero_or_pos m with q | q
 ·omega
 ·have a := g (m - 1) (by omega)
  have b := (h (m - 1) (by omega)).1
  omega
theorem updE_self {T : Type} (f : Nat → T) (k : Nat) : updE f k (f k) = f := funext fun i => by
 rw [updE_at]
 split
 ·rename_i e; rw [e]
 ·rfl
def RkR (w : World) (B g c n : Nat) (R : Nat → Rp) (V : Nat → Value) (k : Nat) (r : Rp) (v : Value) : Prop := EO w B 43 8 (.slice (some ⟨g, 0, none⟩) n c) n (rpF (updE R k r) (updE V k v))
theorem RkR.start {w : World} {B n : Nat} {R : Nat → Rp} {V : Nat → Value} {a : Option Addr} {c : Nat} (h : EO w B 43 8 (.slice a n c) n (rpF R V)) {k : Nat} (hk : k < n) : ∃ g, a = some ⟨g, 0, none⟩ ∧ B ≤ g ∧ g < w.heap.size ∧ RkR w B g c n R V k (R k) (V k) := by
 obtain ⟨g, hr, hb⟩ := h.rowE
 have ga := hr.a (by omega)
 subst ga
 refine ⟨g, rfl, hb (by omega), (h.ge g rfl).2, ?_⟩
 unfold RkR
 rw [updE_self, updE_self]
 exact h
theorem RkR.keep {w : World} {B g c n : Nat} {R : Nat → Rp} {V : Nat → Value} {k : Nat} {r : Rp} {v : Value} (h : RkR w B g c n R V k r v) {w' : World} (e : w'.heap[g]? = w.heap[g]?) : RkR w' B g c n R V k r v := EO.keep h (fun q hq => by cases hq; exact e)
theorem RkR.below {w : World} {B g c n : Nat} {R : Nat → Rp} {V : Nat → Value} {k : Nat} {r : Rp} {v : Value} (h : RkR w B g c n R V k r v) {w' : World} (hb : Below w.heap.size w w') : RkR w' B g c n R V k r v := EO.below h hb
theorem RkR.c {w : World} {B g c n : Nat} {R : Nat → Rp} {V : Nat → Value} {k : Nat} {r : Rp} {v : Value} (h : RkR w B g c n R V k r v) (hk : k < n) (j : Nat) (hj : j < 8) : w.cell? ⟨g, k * 8 + j, none⟩ = some (rpV r v j) := by
 obtain ⟨g', hr, _⟩ := EO.rowE h
 have ga := hr.a (by omega)
 cases ga
 rw [hr.c k hk j hj]
 unfold rpF
 rw [updE_at, updE_at, if_pos rfl, if_pos rfl]
theorem RkR.fr {w : World} {B g c n : Nat} {R : Nat → Rp} {V : Nat → Value} {k : Nat} {r : Rp} {v : Value} (h : RkR w B g c n R V k r v) (hk : k < n) (j : Nat) (hj : j < 8) : w.frozen? ⟨g, k * 8 + j, none⟩ = false := by
 obtain ⟨g', hr, _⟩ := EO.rowE h
 have ga := hr.a (by omega)
 cases ga
 exact hr.z _ (ltE hk hj)
theorem RkR.lt {w : World} {B g c n : Nat} {R : Nat → Rp} {V : Nat → Value} {k : Nat} {r : Rp} {v : Value} (h : RkR w B g c n R V k r v) : B ≤ g ∧ g < w.heap.size := EO.ge h g rfl
theorem RkR.set {w : World} {B g c n : Nat} {R : Nat → Rp} {V : Nat → Value} {k : Nat} {r : Rp} {v : Value} (h : RkR w B g c n R V k r v) (hk : k < n) {j : Nat} (hj : j < 8) (x : Value) {r' : Rp} {v' : Value} (e : ∀ i, i < 8 → rpV r' v' i = if i = j then x else rpV r v i) : RkR (w.setCell ⟨g, k * 8 + j, none⟩ x) B g c n R V k r' v' :=
 EO.congr (EO.set h hk hj x) (fun i hi q hq => by
  unfold setF rpF
  rw [updE_at, updE_at, updE_at, updE_at]
  by_cases p : i = k
  ·subst p
   rw [if_pos rfl, if_pos rfl, if_pos rfl, if_pos rfl, e q hq]
   by_cases t : q = j
   ·rw [if_pos ⟨rfl, t⟩, if_pos t]
   ·rw [if_neg (fun z => t z.2), if_neg t]
  ·rw [if_neg (fun z => p z.1), if_neg p, if_neg p, if_neg p, if_neg p])
def RkW (w : World) (B g c n : Nat) (R : Nat → Wo) (V : Nat → Value) (k : Nat) (r : Wo) (v : Value) : Prop := EO w B 37 5 (.slice (some ⟨g, 0, none⟩) n c) n (woF (updE R k r) (updE V k v))
theorem RkW.start {w : World} {B n : Nat} {R : Nat → Wo} {V : Nat → Value} {a : Option Addr} {c : Nat} (h : EO w B 37 5 (.slice a n c) n (woF R V)) {k : Nat} (hk : k < n) : ∃ g, a = some ⟨g, 0, none⟩ ∧ B ≤ g ∧ g < w.heap.size ∧ RkW w B g c n R V k (R k) (V k) := by
 obtain ⟨g, hr, hb⟩ := h.rowE
 have ga := hr.a (by omega)
 subst ga
 refine ⟨g, rfl, hb (by omega), (h.ge g rfl).2, ?_⟩
 unfold RkW
 rw [updE_self, updE_self]
 exact h
theorem RkW.keep {w : World} {B g c n : Nat} {R : Nat → Wo} {V : Nat → Value} {k : Nat} {r : Wo} {v : Value} (h : RkW w B g c n R V k r v) {w' : World} (e : w'.heap[g]? = w.heap[g]?) : RkW w' B g c n R V k r v := EO.keep h (fun q hq => by cases hq; exact e)
theorem RkW.below {w : World} {B g c n : Nat} {R : Nat → Wo} {V : Nat → Value} {k : Nat} {r : Wo} {v : Value} (h : RkW w B g c n R V k r v) {w' : World} (hb : Below w.heap.size w w') : RkW w' B g c n R V k r v := EO.below h hb
theorem RkW.c {w : World} {B g c n : Nat} {R : Nat → Wo} {V : Nat → Value} {k : Nat} {r : Wo} {v : Value} (h : RkW w B g c n R V k r v) (hk : k < n) (j : Nat) (hj : j < 5) : w.cell? ⟨g, k * 5 + j, none⟩ = some (woV r v j) := by
 obtain ⟨g', hr, _⟩ := EO.rowE h
 have ga := hr.a (by omega)
 cases ga
 rw [hr.c k hk j hj]
 unfold woF
 rw [updE_at, updE_at, if_pos rfl, if_pos rfl]
theorem RkW.fr {w : World} {B g c n : Nat} {R : Nat → Wo} {V : Nat → Value} {k : Nat} {r : Wo} {v : Value} (h : RkW w B g c n R V k r v) (hk : k < n) (j : Nat) (hj : j < 5) : w.frozen? ⟨g, k * 5 + j, none⟩ = false := by
 obtain ⟨g', hr, _⟩ := EO.rowE h
 have ga := hr.a (by omega)
 cases ga
 exact hr.z _ (ltE hk hj)
theorem RkW.lt {w : World} {B g c n : Nat} {R : Nat → Wo} {V : Nat → Value} {k : Nat} {r : Wo} {v : Value} (h : RkW w B g c n R V k r v) : B ≤ g ∧ g < w.heap.size := EO.ge h g rfl
theorem RkW.set {w : World} {B g c n : Nat} {R : Nat → Wo} {V : Nat → Value} {k : Nat} {r : Wo} {v : Value} (h : RkW w B g c n R V k r v) (hk : k < n) {j : Nat} (hj : j < 5) (x : Value) {r' : Wo} {v' : Value} (e : ∀ i, i < 5 → woV r' v' i = if i = j then x else woV r v i) : RkW (w.setCell ⟨g, k * 5 + j, none⟩ x) B g c n R V k r' v' :=
 EO.congr (EO.set h hk hj x) (fun i hi q hq => by
  unfold setF woF
  rw [updE_at, updE_at, updE_at, updE_at]
  by_cases p : i = k
  ·subst p
   rw [if_pos rfl, if_pos rfl, if_pos rfl, if_pos rfl, e q hq]
   by_cases t : q = j
   ·rw [if_pos ⟨rfl, t⟩, if_pos t]
   ·rw [if_neg (fun z => t z.2), if_neg t]
  ·rw [if_neg (fun z => p z.1), if_neg p, if_neg p, if_neg p, if_neg p])
def RkQ (w : World) (B g c n : Nat) (R : Nat → Ro) (V : Nat → Value) (k : Nat) (r : Ro) (v : Value) : Prop := EO w B 90 5 (.slice (some ⟨g, 0, none⟩) n c) n (roF (updE R k r) (updE V k v))
theorem RkQ.start {w : World} {B n : Nat} {R : Nat → Ro} {V : Nat → Value} {a : Option Addr} {c : Nat} (h : EO w B 90 5 (.slice a n c) n (roF R V)) {k : Nat} (hk : k < n) : ∃ g, a = some ⟨g, 0, none⟩ ∧ B ≤ g ∧ g < w.heap.size ∧ RkQ w B g c n R V k (R k) (V k) := by
 obtain ⟨g, hr, hb⟩ := h.rowE
 have ga := hr.a (by omega)
 subst ga
 refine ⟨g, rfl, hb (by omega), (h.ge g rfl).2, ?_⟩
 unfold RkQ
 rw [updE_self, updE_self]
 exact h
theorem RkQ.keep {w : World} {B g c n : Nat} {R : Nat → Ro} {V : Nat → Value} {k : Nat} {r : Ro} {v : Value} (h : RkQ w B g c n R V k r v) {w' : World} (e : w'.heap[g]? = w.heap[g]?) : RkQ w' B g c n R V k r v := EO.keep h (fun q hq => by cases hq; exact e)
theorem RkQ.below {w : World} {B g c n : Nat} {R : Nat → Ro} {V : Nat → Value} {k : Nat} {r : Ro} {v : Value} (h : RkQ w B g c n R V k r v) {w' : World} (hb : Below w.heap.size w w') : RkQ w' B g c n R V k r v := EO.below h hb
theorem RkQ.c {w : World} {B g c n : Nat} {R : Nat → Ro} {V : Nat → Value} {k : Nat} {r : Ro} {v : Value} (h : RkQ w B g c n R V k r v) (hk : k < n) (j : Nat) (hj : j < 5) : w.cell? ⟨g, k * 5 + j, none⟩ = some (roV r v j) := by
 obtain ⟨g', hr, _⟩ := EO.rowE h
 have ga := hr.a (by omega)
 cases ga
 rw [hr.c k hk j hj]
 unfold roF
 rw [updE_at, updE_at, if_pos rfl, if_pos rfl]
theorem RkQ.fr {w : World} {B g c n : Nat} {R : Nat → Ro} {V : Nat → Value} {k : Nat} {r : Ro} {v : Value} (h : RkQ w B g c n R V k r v) (hk : k < n) (j : Nat) (hj : j < 5) : w.frozen? ⟨g, k * 5 + j, none⟩ = false := by
 obtain ⟨g', hr, _⟩ := EO.rowE h
 have ga := hr.a (by omega)
 cases ga
 exact hr.z _ (ltE hk hj)
theorem RkQ.lt {w : World} {B g c n : Nat} {R : Nat → Ro} {V : Nat → Value} {k : Nat} {r : Ro} {v : Value} (h : RkQ w B g c n R V k r v) : B ≤ g ∧ g < w.heap.size := EO.ge h g rfl
theorem RkQ.set {w : World} {B g c n : Nat} {R : Nat → Ro} {V : Nat → Value} {k : Nat} {r : Ro} {v : Value} (h : RkQ w B g c n R V k r v) (hk : k < n) {j : Nat} (hj : j < 5) (x : Value) {r' : Ro} {v' : Value} (e : ∀ i, i < 5 → roV r' v' i = if i = j then x else roV r v i) : RkQ (w.setCell ⟨g, k * 5 + j, none⟩ x) B g c n R V k r' v' :=
 EO.congr (EO.set h hk hj x) (fun i hi q hq => by
  unfold setF roF
  rw [updE_at, updE_at, updE_at, updE_at]
  by_cases p : i = k
  ·subst p
   rw [if_pos rfl, if_pos rfl, if_pos rfl, if_pos rfl, e q hq]
   by_cases t : q = j
   ·rw [if_pos ⟨rfl, t⟩, if_pos t]
   ·rw [if_neg (fun z => t z.2), if_neg t]
  ·rw [if_neg (fun z => p z.1), if_neg p, if_neg p, if_neg p, if_neg p])
theorem RkR.now {w : World} {B g c n : Nat} {R : Nat → Rp} {V : Nat → Value} {k : Nat} {r : Rp} {v : Value} (h : RkR w B g c n R V k r v) (hk : k < n) (a t : Int) : RkR ((w.setCell ⟨g, k * 8 + 1, none⟩ (.int .i64 a)).setCell ⟨g, k * 8 + 2, none⟩ (.int .i64 t)) B g c n R V k { r with nc := a, nt := t } v :=
 (h.set hk (j := 1) (by omega) (.int .i64 a) (r' := { r with nc := a }) (v' := v) (fun i hi => by rcases (show i = 0 ∨ i = 1 ∨ i = 2 ∨ i = 3 ∨ i = 4 ∨ i = 5 ∨ i = 6 ∨ i = 7 by omega) with rfl | rfl | rfl | rfl | rfl | rfl | rfl | rfl <;> rfl)).set hk (j := 2) (by omega) (.int .i64 t) (fun i hi => by rcases (show i = 0 ∨ i = 1 ∨ i = 2 ∨ i = 3 ∨ i = 4 ∨ i = 5 ∨ i = 6 ∨ i = 7 by omega) with rfl | rfl | rfl | rfl | rfl | rfl | rfl | rfl <;> rfl)
theorem RkR.saved {w : World} {B g c n : Nat} {R : Nat → Rp} {V : Nat → Value} {k : Nat} {r : Rp} {v : Value} (h : RkR w B g c n R V k r v) (hk : k < n) (a t : Int) : RkR ((w.setCell ⟨g, k * 8 + 3, none⟩ (.int .i64 a)).setCell ⟨g, k * 8 + 4, none⟩ (.int .i64 t)) B g c n R V k { r with sc := a, st := t } v :=
 (h.set hk (j := 3) (by omega) (.int .i64 a) (r' := { r with sc := a }) (v' := v) (fun i hi => by rcases (show i = 0 ∨ i = 1 ∨ i = 2 ∨ i = 3 ∨ i = 4 ∨ i = 5 ∨ i = 6 ∨ i = 7 by omega) with rfl | rfl | rfl | rfl | rfl | rfl | rfl | rfl <;> rfl)).set hk (j := 4) (by omega) (.int .i64 t) (fun i hi => by rcases (show i = 0 ∨ i = 1 ∨ i = 2 ∨ i = 3 ∨ i = 4 ∨ i = 5 ∨ i = 6 ∨ i = 7 by omega) with rfl | rfl | rfl | rfl | rfl | rfl | rfl | rfl <;> rfl)
theorem RkR.best {w : World} {B g c n : Nat} {R : Nat → Rp} {V : Nat → Value} {k : Nat} {r : Rp} {v : Value} (h : RkR w B g c n R V k r v) (hk : k < n) (a t : Int) : RkR ((w.setCell ⟨g, k * 8 + 6, none⟩ (.int .i64 a)).setCell ⟨g, k * 8 + 7, none⟩ (.int .i64 t)) B g c n R V k { r with bc := a, bt := t } v :=
 (h.set hk (j := 6) (by omega) (.int .i64 a) (r' := { r with bc := a }) (v' := v) (fun i hi => by rcases (show i = 0 ∨ i = 1 ∨ i = 2 ∨ i = 3 ∨ i = 4 ∨ i = 5 ∨ i = 6 ∨ i = 7 by omega) with rfl | rfl | rfl | rfl | rfl | rfl | rfl | rfl <;> rfl)).set hk (j := 7) (by omega) (.int .i64 t) (fun i hi => by rcases (show i = 0 ∨ i = 1 ∨ i = 2 ∨ i = 3 ∨ i = 4 ∨ i = 5 ∨ i = 6 ∨ i = 7 by omega) with rfl | rfl | rfl | rfl | rfl | rfl | rfl | rfl <;> rfl)
theorem RkR.setM {w : World} {B g c n : Nat} {R : Nat → Rp} {V : Nat → Value} {k : Nat} {r : Rp} {v : Value} (h : RkR w B g c n R V k r v) (hk : k < n) (b : Bool) : RkR (w.setCell ⟨g, k * 8, none⟩ (.bool b)) B g c n R V k { r with mute := b } v :=
 h.set hk (j := 0) (by omega) (.bool b) (fun i hi => by rcases (show i = 0 ∨ i = 1 ∨ i = 2 ∨ i = 3 ∨ i = 4 ∨ i = 5 ∨ i = 6 ∨ i = 7 by omega) with rfl | rfl | rfl | rfl | rfl | rfl | rfl | rfl <;> rfl)
theorem RkR.setE {w : World} {B g c n : Nat} {R : Nat → Rp} {V : Nat → Value} {k : Nat} {r : Rp} {v : Value} (h : RkR w B g c n R V k r v) (hk : k < n) (x : Value) (m : Nat) (E : Nat → Int) : RkR (w.setCell ⟨g, k * 8 + 5, none⟩ x) B g c n R V k { r with ne := m, E := E } x :=
 h.set hk (j := 5) (by omega) x (fun i hi => by rcases (show i = 0 ∨ i = 1 ∨ i = 2 ∨ i = 3 ∨ i = 4 ∨ i = 5 ∨ i = 6 ∨ i = 7 by omega) with rfl | rfl | rfl | rfl | rfl | rfl | rfl | rfl <;> rfl)
theorem RkW.setE {w : World} {B g c n : Nat} {R : Nat → Wo} {V : Nat → Value} {k : Nat} {r : Wo} {v : Value} (h : RkW w B g c n R V k r v) (hk : k < n) (x : Value) (m : Nat) (E : Nat → Int) : RkW (w.setCell ⟨g, k * 5 + 2, none⟩ x) B g c n R V k { r with ne := m, E := E } x :=
 h.set hk (j := 2) (by omega) x (fun i hi => by rcases (show i = 0 ∨ i = 1 ∨ i = 2 ∨ i = 3 ∨ i = 4 by omega) with rfl | rfl | rfl | rfl | rfl <;> rfl)
theorem RkW.setN {w : World} {B g c n : Nat} {R : Nat → Wo} {V : Nat → Value} {k : Nat} {r : Wo} {v : Value} (h : RkW w B g c n R V k r v) (hk : k < n) (t : Int) : RkW (w.setCell ⟨g, k * 5 + 4, none⟩ (.int .i64 t)) B g c n R V k { r with en := t } v :=
 h.set hk (j := 4) (by omega) (.int .i64 t) (fun i hi => by rcases (show i = 0 ∨ i = 1 ∨ i = 2 ∨ i = 3 ∨ i = 4 by omega) with rfl | rfl | rfl | rfl | rfl <;> rfl)
theorem RkQ.setE {w : World} {B g c n : Nat} {R : Nat → Ro} {V : Nat → Value} {k : Nat} {r : Ro} {v : Value} (h : RkQ w B g c n R V k r v) (hk : k < n) (x : Value) (m : Nat) (E : Nat → Int) : RkQ (w.setCell ⟨g, k * 5, none⟩ x) B g c n R V k { r with ne := m, E := E } x :=
 h.set hk (j := 0) (by omega) x (fun i hi => by rcases (show i = 0 ∨ i = 1 ∨ i = 2 ∨ i = 3 ∨ i = 4 by omega) with rfl | rfl | rfl | rfl | rfl <;> rfl)
theorem RkQ.setN {w : World} {B g c n : Nat} {R : Nat → Ro} {V : Nat → Value} {k : Nat} {r : Ro} {v : Value} (h : RkQ w B g c n R V k r v) (hk : k < n) (t : Int) : RkQ (w.setCell ⟨g, k * 5 + 4, none⟩ (.int .i64 t)) B g c n R V k { r with en := t } v :=
 h.set hk (j := 4) (by omega) (.int .i64 t) (fun i hi => by rcases (show i = 0 ∨ i = 1 ∨ i = 2 ∨ i = 3 ∨ i = 4 by omega) with rfl | rfl | rfl | rfl | rfl <;> rfl)
theorem RkQ.best {w : World} {B g c n : Nat} {R : Nat → Ro} {V : Nat → Value} {k : Nat} {r : Ro} {v : Value} (h : RkQ w B g c n R V k r v) (hk : k < n) (a t : Int) : RkQ ((w.setCell ⟨g, k * 5 + 1, none⟩ (.int .i64 a)).setCell ⟨g, k * 5 + 2, none⟩ (.int .i64 t)) B g c n R V k { r with bc := a, bt := t } v :=
 (h.set hk (j := 1) (by omega) (.int .i64 a) (r' := { r with bc := a }) (v' := v) (fun i hi => by rcases (show i = 0 ∨ i = 1 ∨ i = 2 ∨ i = 3 ∨ i = 4 by omega) with rfl | rfl | rfl | rfl | rfl <;> rfl)).set hk (j := 2) (by omega) (.int .i64 t) (fun i hi => by rcases (show i = 0 ∨ i = 1 ∨ i = 2 ∨ i = 3 ∨ i = 4 by omega) with rfl | rfl | rfl | rfl | rfl <;> rfl)
def Blw (N : Nat → Prop) (B : Nat) (w w' : World) : Prop := Below B w w' ∧ ChB N w w'
theorem Blw.refl (N : Nat → Prop) (B : Nat) (w : World) : Blw N B w w := ⟨Below.refl _ _, ChB.refl _ _⟩
theorem Blw.size {N : Nat → Prop} {B : Nat} {w w' : World} (h : Blw N B w w') : w.heap.size ≤ w'.heap.size := h.1.size
theorem Blw.drew {N : Nat → Prop} {B : Nat} {w w' : World} (h : Blw N B w w') : Blw N B w w'.drew := ⟨h.1.drew, h.2.drew⟩
theorem Blw.trans {N : Nat → Prop} {B : Nat} {w w1 w2 : World} (h : Blw N B w w1) (k : Blw N B w1 w2) : Blw N B w w2 :=
 ⟨h.1.trans k.1, ⟨k.2.os.trans h.2.os, k.2.tape.trans h.2.tape, k.2.output.trans h.2.output, Nat.le_trans h.2.size k.2.size, fun g hg hp => (k.2.block g (Nat.lt_of_lt_of_le hg h.2.size) hp).trans (h.2.block g hg hp)⟩⟩
theorem blw_of {N : Nat → Prop} {w w' : World} (h : Below w.heap.size w w') {B : Nat} (hB : B ≤ w.heap.size) : Blw N B w w' := ⟨h.mono hB, (ChB.refl N w).step h⟩
theorem ChB.toBlw {P N : Nat → Prop} {w w1 : World} {B : Nat} (h : ChB P w w1) (hP : ∀ g, P g → B ≤ g ∧ N g) (hB : B ≤ w.heap.size) : Blw N B w w1 :=
 ⟨h.toBelow (fun g z => (hP g z).1) hB, h.os, h.tape, h.output, h.size, fun g hg hn => h.block g hg (fun z => hn (hP g z).2)⟩
theorem Blw.setCell {N : Nat → Prop} {w w1 : World} {B : Nat} (h : Blw N B w w1) {p : Addr} (hB : B ≤ p.block) (hN : N p.block) (u : Value) : Blw N B w (w1.setCell p u) := ⟨h.1.setCell hB u, h.2.set (.inl hN) u⟩
theorem Blw.grownBy {N : Nat → Prop} {w w1 : World} {B : Nat} {row : Option Nat} (hg : w.grownBy w1 row) (hB : B ≤ w.heap.size) (hr : ∀ g, row = some g → B ≤ g ∧ N g) : Blw N B w w1 := ⟨(Below.refl _ _).grown hg hB (fun g e => (hr g e).1), (ChB.refl N w).grown hg (fun g e => .inl (hr g e).2)⟩
structure NbS (N : Nat → Prop) (w : World) (b : Nat) (s : Sv) (vr vw vq : Value) (VR VW VQ : Nat → Value) : Prop where
 nw : ∀ g, w.heap.size ≤ g → N g
 b : N b
 r : ∀ g, vr.ownBlock = some g → N g
 x : ∀ g, vw.ownBlock = some g → N g
 q : ∀ g, vq.ownBlock = some g → N g
 e : ∀ i g, i < s.n → (VR i).ownBlock = some g → N g
 a : ∀ i g, i < s.m → (VW i).ownBlock = some g → N g
 f : ∀ i g, i < s.l → (VQ i).ownBlock = some g → N g
def SvX (N : Nat → Prop) (w : World) (B b : Nat) (s : Sv) : Prop := ∃ vr vw vq VR VW VQ, B ≤ b ∧ Box4 w b 28 vr (.int .i64 s.t) vw vq ∧ SvO w B s vr vw vq VR VW VQ ∧ SvD s VR VW VQ ∧ NbS N w b s vr vw vq VR VW VQ
structure SvP (N : Nat → Prop) (w : World) (B b : Nat) (s : Sv) (vr vw vq : Value) (VR VW VQ : Nat → Value) : Prop where
 h0 : B ≤ b
 x : Box4 w b 28 vr (.int .i64 s.t) vw vq
 o : SvO w B s vr vw vq VR VW VQ
 d : SvD s VR VW VQ
 n : NbS N w b s vr vw vq VR VW VQ
theorem NbS.up {N : Nat → Prop} {w w' : World} {b : Nat} {s : Sv} {vr vw vq : Value} {VR VW VQ : Nat → Value} (h : NbS N w b s vr vw vq VR VW VQ) (hs : w.heap.size ≤ w'.heap.size) : NbS N w' b s vr vw vq VR VW VQ := ⟨fun g hg => h.nw g (Nat.le_trans hs hg), h.b, h.r, h.x, h.q, h.e, h.a, h.f⟩
theorem NbS.chR {N : Nat → Prop} {w w' : World} {b : Nat} {s : Sv} {vr vw vq : Value} {VR VW VQ : Nat → Value} (h : NbS N w b s vr vw vq VR VW VQ) (hs : w.heap.size ≤ w'.heap.size) {k : Nat} (hk : k < s.n) {v : Value} (hv : ∀ g, v.ownBlock = some g → (VR k).ownBlock = some g ∨ w.heap.size ≤ g) {r : Rp} : NbS N w' b { s with R := updE s.R k r } vr vw vq (updE VR k v) VW VQ :=
 ⟨fun g hg => h.nw g (Nat.le_trans hs hg), h.b, h.r, h.x, h.q, fun i g hi e => by
  rw [updE_at] at e
  split at e
  ·exact (hv g e).elim (h.e k g hk) (h.nw g)
  ·exact h.e i g hi e, h.a, h.f⟩
theorem NbS.chW {N : Nat → Prop} {w w' : World} {b : Nat} {s : Sv} {vr vw vq : Value} {VR VW VQ : Nat → Value} (h : NbS N w b s vr vw vq VR VW VQ) (hs : w.heap.size ≤ w'.heap.size) {k : Nat} (hk : k < s.m) {v : Value} (hv : ∀ g, v.ownBlock = some g → (VW k).ownBlock = some g ∨ w.heap.size ≤ g) {r : Wo} : NbS N w' b { s with W := updE s.W k r } vr vw vq VR (updE VW k v) VQ :=
 ⟨fun g hg => h.nw g (Nat.le_trans hs hg), h.b, h.r, h.x, h.q, h.e, fun i g hi e => by
  rw [updE_at] at e
  split at e
  ·exact (hv g e).elim (h.a k g hk) (h.nw g)
  ·exact h.a i g hi e, h.f⟩
theorem NbS.chQ {N : Nat → Prop} {w w' : World} {b : Nat} {s : Sv} {vr vw vq : Value} {VR VW VQ : Nat → Value} (h : NbS N w b s vr vw vq VR VW VQ) (hs : w.heap.size ≤ w'.heap.size) {k : Nat} (hk : k < s.l) {v : Value} (hv : ∀ g, v.ownBlock = some g → (VQ k).ownBlock = some g ∨ w.heap.size ≤ g) {r : Ro} : NbS N w' b { s with Q := updE s.Q k r } vr vw vq VR VW (updE VQ k v) :=
 ⟨fun g hg => h.nw g (Nat.le_trans hs hg), h.b, h.r, h.x, h.q, h.e, h.a, fun i g hi e => by
  rw [updE_at] at e
  split at e
  ·exact (hv g e).elim (h.f k g hk) (h.nw g)
  ·exact h.f i g hi e⟩
theorem SvP.sv {N : Nat → Prop} {w : World} {B b : Nat} {s : Sv} {vr vw vq : Value} {VR VW VQ : Nat → Value} (h : SvP N w B b s vr vw vq VR VW VQ) : SvX N w B b s := ⟨vr, vw, vq, VR, VW, VQ, h.h0, h.x, h.o, h.d, h.n⟩
theorem SvP.below {N : Nat → Prop} {w w' : World} {B b : Nat} {s : Sv} {vr vw vq : Value} {VR VW VQ : Nat → Value} (h : SvP N w B b s vr vw vq VR VW VQ) (hb : Below w.heap.size w w') : SvP N w' B b s vr vw vq VR VW VQ := ⟨h.h0, h.x.below hb, h.o.below hb, h.d, h.n.up hb.size⟩
theorem SvX.p {N : Nat → Prop} {w : World} {B b : Nat} {s : Sv} (h : SvX N w B b s) : ∃ vr vw vq VR VW VQ, SvP N w B b s vr vw vq VR VW VQ := by
 obtain ⟨vr, vw, vq, VR, VW, VQ, h1, h2, h3, h4, h5⟩ := h
 exact ⟨vr, vw, vq, VR, VW, VQ, h1, h2, h3, h4, h5⟩
theorem SvX.below {N : Nat → Prop} {w w' : World} {B b : Nat} {s : Sv} (h : SvX N w B b s) (hb : Below w.heap.size w w') : SvX N w' B b s := by
 obtain ⟨_, _, _, _, _, _, h⟩ := h.p
 exact (h.below hb).sv
theorem SvP.chR {N : Nat → Prop} {w w' : World} {B b : Nat} {s : Sv} {g c : Nat} {vw vq : Value} {VR VW VQ : Nat → Value} (h : SvP N w B b s (.slice (some ⟨g, 0, none⟩) s.n c) vw vq VR VW VQ) {k : Nat} (hk : k < s.n) {r : Rp} {v : Value} (H : ChB (PR (.slice (some ⟨g, 0, none⟩) s.n c) VR k) w w') (hr : RkR w' B g c s.n s.R VR k r v) (hl : IE w' B v r.ne r.E) (hv : ∀ g, v.ownBlock = some g → (VR k).ownBlock = some g ∨ w.heap.size ≤ g) :
  SvP N w' B b { s with R := updE s.R k r } (.slice (some ⟨g, 0, none⟩) s.n c) vw vq (updE VR k v) VW VQ := by
 obtain ⟨h1, h2⟩ := partsR h.o h.d hk H hr hl hv
 exact ⟨h.h0, h.x.ch H (chR_box h.x h.o hk), h1, h2, h.n.chR H.size hk hv⟩
theorem SvP.chW {N : Nat → Prop} {w w' : World} {B b : Nat} {s : Sv} {g c : Nat} {vr vq : Value} {VR VW VQ : Nat → Value} (h : SvP N w B b s vr (.slice (some ⟨g, 0, none⟩) s.m c) vq VR VW VQ) {k : Nat} (hk : k < s.m) {r : Wo} {v : Value} (H : ChB (PR (.slice (some ⟨g, 0, none⟩) s.m c) VW k) w w') (hr : RkW w' B g c s.m s.W VW k r v) (hl : IE w' B v r.ne r.E) (hv : ∀ g, v.ownBlock = some g → (VW k).ownBlock = some g ∨ w.heap.size ≤ g) :
  SvP N w' B b { s with W := updE s.W k r } vr (.slice (some ⟨g, 0, none⟩) s.m c) vq VR (updE VW k v) VQ := by
 obtain ⟨h1, h2⟩ := partsW h.o h.d hk H hr hl hv
 exact ⟨h.h0, h.x.ch H (chW_box h.x h.o hk), h1, h2, h.n.chW H.size hk hv⟩
theorem SvP.chQ {N : Nat → Prop} {w w' : World} {B b : Nat} {s : Sv} {g c : Nat} {vr vw : Value} {VR VW VQ : Nat → Value} (h : SvP N w B b s vr vw (.slice (some ⟨g, 0, none⟩) s.l c) VR VW VQ) {k : Nat} (hk : k < s.l) {r : Ro} {v : Value} (H : ChB (PR (.slice (some ⟨g, 0, none⟩) s.l c) VQ k) w w') (hr : RkQ w' B g c s.l s.Q VQ k r v) (hl : IE w' B v r.ne r.E) (hv : ∀ g, v.ownBlock = some g → (VQ k).ownBlock = some g ∨ w.heap.size ≤ g) :
  SvP N w' B b { s with Q := updE s.Q k r } vr vw (.slice (some ⟨g, 0, none⟩) s.l c) VR VW (updE VQ k v) := by
 obtain ⟨h1, h2⟩ := partsQ h.o h.d hk H hr hl hv
 exact ⟨h.h0, h.x.ch H (chQ_box h.x h.o hk), h1, h2, h.n.chQ H.size hk hv⟩
def PG (g0 g : Nat) : Prop := g = g0
theorem ChB.wide {P Q : Nat → Prop} {w w' : World} (h : ChB P w w') (e : ∀ g, P g → Q g) : ChB Q w w' := ⟨h.os, h.tape, h.output, h.size, fun g hg hq => h.block g hg (fun z => hq (e g z))⟩
theorem ChB.trans {P : Nat → Prop} {w w1 w2 : World} (h : ChB P w w1) (k : ChB P w1 w2) : ChB P w w2 := ⟨k.os.trans h.os, k.tape.trans h.tape, k.output.trans h.output, Nat.le_trans h.size k.size, fun g hg hp => (k.block g (Nat.lt_of_lt_of_le hg h.size) hp).trans (h.block g hg hp)⟩
theorem SvP.chR1 {N : Nat → Prop} {w w' : World} {B b : Nat} {s : Sv} {g c : Nat} {vw vq : Value} {VR VW VQ : Nat → Value} (h : SvP N w B b s (.slice (some ⟨g, 0, none⟩) s.n c) vw vq VR VW VQ) {k : Nat} (hk : k < s.n) {r : Rp} (H : ChB (PG g) w w') (hr : RkR w' B g c s.n s.R VR k r (VR k)) (e1 : r.ne = (s.R k).ne) (e2 : r.E = (s.R k).E) :
  SvP N w' B b { s with R := updE s.R k r } (.slice (some ⟨g, 0, none⟩) s.n c) vw vq VR VW VQ := by
 have h1 := h.chR hk (H.wide (fun q z => .inl (by unfold PG at z; rw [z]; rfl))) hr (by rw [e1, e2]; exact EO.ch (h.o.e k hk) H (fun q e z => EO.apart (h.o.e k hk) h.o.r (by decide) q e (by unfold PG at z; rw [z]; rfl))) (fun q e => .inl e)
 rw [updE_self] at h1
 exact h1
theorem IE.setOther {w : World} {B : Nat} {v : Value} {n : Nat} {C : Nat → Int} (h : IE w B v n C) {t : TypeId} {sz m : Nat} {g c : Nat} {F : Nat → Nat → Value} (hr : EO w B t sz (.slice (some ⟨g, 0, none⟩) m c) m F) (ht : 3 ≠ t) (i : Nat) (x : Value) : IE (w.setCell ⟨g, i, none⟩ x) B v n C :=
 EO.keep h (fun q e => Below.heap_setCell w ⟨g, i, none⟩ x q (fun z => EO.apart h hr ht q e (by rw [z]; rfl)))
theorem addE_le {n m : Nat} {E : Nat → Int} {x : Int} (h : idsOk n m E) : (addE m E x).1 ≤ n + 1 := by
 have := ids_le h
 unfold addE
 split <;> (dsimp only; omega)
def RetA (N : Nat → Prop) (B b : Nat) (s : Sv) (a : Qa) (e : Ending) (w' : World) : Prop := ∃ s' c, ActS s a s' c ∧ e = .returned (.int .i64 c) ∧ SvX N w' B b s'
theorem retA_store {N : Nat → Prop} {w : World} {B b : Nat} {s : Sv} {a : Qa} {k p : Nat} {x : Wo} (hp : p = s.m - 1) (hk : k < s.n) (hm : p < s.m) (hA : a.k = 2 ∧ a.r = k ∧ (s.R k).mute = false) (hx : x = (s.W p).ack s.n s.t k) (h : SvX N w B b { s with R := updE s.R k ((s.R k).take (s.W p).mc (s.W p).mt), W := updE s.W p x }) : RetA N B b s a (.returned (.int .i64 0)) w := by
 subst hp
 subst hx
 exact ⟨_, 0, .store k hk hA.2.1 hA.1 (by omega) hA.2.2, rfl, h⟩
theorem PR.geR {N : Nat → Prop} {w : World} {B b : Nat} {s : Sv} {vr vw vq : Value} {VR VW VQ : Nat → Value} (h : SvP N w B b s vr vw vq VR VW VQ) {k : Nat} (hk : k < s.n) (g : Nat) (z : PR vr VR k g) : B ≤ g ∧ N g := by
 rcases z with z | z
 ·exact ⟨(h.o.r.ge g z).1, h.n.r g z⟩
 ·exact ⟨(EO.ge (h.o.e k hk) g z).1, h.n.e k g hk z⟩
theorem PR.geW {N : Nat → Prop} {w : World} {B b : Nat} {s : Sv} {vr vw vq : Value} {VR VW VQ : Nat → Value} (h : SvP N w B b s vr vw vq VR VW VQ) {k : Nat} (hk : k < s.m) (g : Nat) (z : PR vw VW k g) : B ≤ g ∧ N g := by
 rcases z with z | z
 ·exact ⟨(h.o.x.ge g z).1, h.n.x g z⟩
 ·exact ⟨(EO.ge (h.o.a k hk) g z).1, h.n.a k g hk z⟩
theorem PR.geQ {N : Nat → Prop} {w : World} {B b : Nat} {s : Sv} {vr vw vq : Value} {VR VW VQ : Nat → Value} (h : SvP N w B b s vr vw vq VR VW VQ) {k : Nat} (hk : k < s.l) (g : Nat) (z : PR vq VQ k g) : B ≤ g ∧ N g := by
 rcases z with z | z
 ·exact ⟨(h.o.q.ge g z).1, h.n.q g z⟩
 ·exact ⟨(EO.ge (h.o.f k hk) g z).1, h.n.f k g hk z⟩
theorem RetA.below {N : Nat → Prop} {B b : Nat} {s : Sv} {a : Qa} {e : Ending} {w w' : World} (h : RetA N B b s a e w) (hb : Below w.heap.size w w') : RetA N B b s a e w' := by
 obtain ⟨s', c, h1, h2, h3⟩ := h
 exact ⟨s', c, h1, h2, h3.below hb⟩
end Go.Proofs.Ytedncfcmhaaobaa
