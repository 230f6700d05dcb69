/-
  Texts of the proof, joined: SvcU, QuI, SvcT, QuJ, SvcTs.
-/
import Derived.Test.YtedncfcmhaaobaaV25
import Derived.Test.YtedncfcmhaaobaaV16
import Derived.Test.YtedncfcmhaaobaaV27
namespace Go.Proofs.Ytedncfcmhaaobaa
open Go.ChangeShapes Go.WideShapes Go.ChangeAt Go.RowKit
set_option linter.unusedVariables false
end Go.Proofs.Ytedncfcmhaaobaa
namespace Go.Proofs.Ytedncfcmhaaobaa
open Go.ChangeShapes Go.WideShapes Go.ChangeAt Go.RowKit
set_option linter.unusedVariables false
theorem updE_at {T : Type} (f : Nat → T) (k : Nat) (x : T) (i : Nat) : updE f k x i = if i = k then x else f i := rfl
theorem Rp.take_ok {n : Nat} {r : Rp} {c t : Int} (h : r.Ok n) (hm : mkOk c t) : (r.take c t).Ok n := ⟨h.1, h.2.1, ltr_ok h.2.2.1 hm, h.2.2.2⟩
theorem Rp.save_ok {n : Nat} {r : Rp} (h : r.Ok n) : r.save.Ok n := ⟨h.1, h.2.1, h.2.2.1, h.2.2.1, h.2.2.2.2⟩
theorem Rp.boot_ok {n : Nat} {r : Rp} (b : Bool) (h : r.Ok n) : (r.boot b).Ok n := by
 cases b with
 | true => exact ⟨fun q => absurd q.1 (Nat.lt_irrefl 0), fun i hi => absurd hi (Nat.not_lt_zero i), h.2.2.2.1, h.2.2.2.1, h.2.2.2.1⟩
 | false => exact ⟨fun q => absurd q.1 (Nat.lt_irrefl 0), fun i hi => absurd hi (Nat.not_lt_zero i), h.2.2.1, h.2.2.2.1, h.2.2.1⟩
theorem Rp.told_ok {n : Nat} {r : Rp} {f c t : Int} (h : r.Ok n) (hu : r.mute = true) (hf : 0 ≤ f ∧ f < (n : Int)) (hm : mkOk c t) : (r.told f c t).Ok n :=
 ⟨fun q => (by have h2 : r.mute = false := q.2; rw [hu] at h2; cases h2), addE_ok h.2.1 hf, h.2.2.1, h.2.2.2.1, ltr_ok h.2.2.2.2 hm⟩
theorem Rp.echo_ok {n : Nat} {r : Rp} {f c t : Int} (h : r.Ok n) (hu : r.mute = true) (hf : 0 ≤ f ∧ f < (n : Int)) (hm : mkOk c t) : (r.echo n f c t).Ok n := by
 have h1 := Rp.told_ok h hu hf hm
 unfold Rp.echo
 split
 ·exact ⟨fun q => absurd q.1 (Nat.lt_irrefl 0), fun i hi => absurd hi (Nat.not_lt_zero i), h1.2.2.2.2, h1.2.2.2.1, h1.2.2.2.2⟩
 ·exact h1
theorem Wo.ack_ok {n m i : Nat} {x : Wo} {t k : Int} (h : x.Ok n t m i) (hk : 0 ≤ k ∧ k < (n : Int)) (ht : 1 ≤ t) : (x.ack n t k).Ok n t m i := by
 refine ⟨?_, h.2.1, h.2.2.1, addE_ok h.2.2.2.1 hk, h.2.2.2.2.1, ?_⟩
 ·rintro ⟨q1, q2⟩
  have q1' : (if x.en = -1 ∧ majN n ≤ (addE x.ne x.E k).1 then t else x.en) = -1 := q1
  split at q1'
  ·omega
  ·exact h.1 ⟨q1', q2⟩
 ·show (if x.en = -1 ∧ majN n ≤ (addE x.ne x.E k).1 then t else x.en) = -1 ∨ _ ≤ (if x.en = -1 ∧ majN n ≤ (addE x.ne x.E k).1 then t else x.en) ∧ (if x.en = -1 ∧ majN n ≤ (addE x.ne x.E k).1 then t else x.en) ≤ t
  split
  ·exact .inr ⟨h.2.2.2.2.1.2, Int.le_refl _⟩
  ·exact h.2.2.2.2.2
theorem Wo.lose_ok {n m i : Nat} {x : Wo} {t k : Int} (h : x.Ok n t m i) : (x.lose k).Ok n t m i := ⟨h.1, h.2.1, h.2.2.1, subE_ok h.2.2.2.1, h.2.2.2.2⟩
theorem Ro.hear_ok {n : Nat} {x : Ro} {t k c u : Int} (h : x.Ok n t) (hk : 0 ≤ k ∧ k < (n : Int)) (hm : mkOk c u) : (x.hear n t k c u).Ok n t := by
 refine ⟨ltr_ok h.1 hm, addE_ok h.2.1 hk, h.2.2.1, ?_⟩
 show (if majN n ≤ (addE x.ne x.E k).1 then t else x.en) = -1 ∨ _ ≤ (if majN n ≤ (addE x.ne x.E k).1 then t else x.en) ∧ (if majN n ≤ (addE x.ne x.E k).1 then t else x.en) ≤ t
 split
 ·exact .inr ⟨h.2.2.1.2, Int.le_refl _⟩
 ·exact h.2.2.2
theorem tm_up {t b e : Int} (h : tmOk t b e) : tmOk (t + 1) b e := ⟨⟨h.1.1, by have := h.1.2; omega⟩, h.2.imp id (fun q => ⟨q.1, by omega⟩)⟩
theorem Sv.Ok.up {s : Sv} (h : s.Ok) (ht : s.t < 200) : ({ s with t := s.t + 1 } : Sv).Ok := by
 obtain ⟨⟨h1, h2, h3, h4⟩, hW, hR, hQ⟩ := h
 unfold inS at h2
 refine ⟨⟨h1, ⟨by dsimp only; omega, by dsimp only; omega⟩, h3, h4⟩, fun i hi => ?_, hR, fun i hi => ?_⟩
 ·have := hW i hi; exact ⟨this.1, this.2.1, this.2.2.1, this.2.2.2.1, tm_up this.2.2.2.2⟩
 ·have := hQ i hi; exact ⟨this.1, this.2.1, tm_up this.2.2⟩
theorem woNew_ok {n m : Nat} {a t : Int} (hm : (m : Int) + 1 ≤ 200) (ht : 1 ≤ t) : (woNew m a t).Ok n t (m + 1) m := by
 refine ⟨fun q => by omega, rfl, ⟨⟨?_, ?_⟩, ?_⟩, fun i hi => absurd hi (Nat.not_lt_zero i), ⟨ht, Int.le_refl _⟩, .inl rfl⟩
 ·show (0 : Int) ≤ (m : Int) + 1; omega
 ·show (m : Int) + 1 ≤ 200; exact hm
 ·show 0 ≤ (if a < 0 then 0 else if 1000000 < a then 1000000 else a) ∧ (if a < 0 then 0 else if 1000000 < a then 1000000 else a) ≤ 1000000
  split
  ·omega
  ·split <;> omega
theorem roNew_ok {n : Nat} {t : Int} (ht : 1 ≤ t) : (roNew t).Ok n t := ⟨⟨⟨Int.le_refl _, by show (0 : Int) ≤ 200; omega⟩, Int.le_refl _, by show (0 : Int) ≤ 1000000; omega⟩, fun i hi => absurd hi (Nat.not_lt_zero i), ⟨ht, Int.le_refl _⟩, .inl rfl⟩
theorem upd_R {s : Sv} {k : Nat} {r : Rp} (hR : ∀ i, i < s.n → (s.R i).Ok s.n) (h : r.Ok s.n) : ∀ i, i < s.n → (updE s.R k r i).Ok s.n := fun i hi => by
 rw [updE_at]
 split
 ·exact h
 ·exact hR i hi
theorem ActS.ok {s s' : Sv} {a : Qa} {c : Int} (h : ActS s a s' c) (ho : s.Ok) (ht : 1 ≤ s.t) (hm : (s.m : Int) + 1 ≤ s.t) (hl : (s.l : Int) + 1 ≤ s.t) : s'.Ok ∧ (s'.m : Int) ≤ s'.t ∧ (s'.l : Int) ≤ s'.t := by
 have ho' := ho
 obtain ⟨⟨h1, h2, h3, h4⟩, hW, hR, hQ⟩ := ho
 have h2' : s.t ≤ 200 := h2.2
 have same : s.Ok ∧ (s.m : Int) ≤ s.t ∧ (s.l : Int) ≤ s.t := ⟨ho', by omega, by omega⟩
 have ik : ∀ k : Nat, k < s.n → (0 : Int) ≤ (k : Int) ∧ (k : Int) < (s.n : Int) := fun k hk => by omega
 cases h with
 | twice1 => exact same
 | begin e1 e2 =>
  refine ⟨⟨⟨h1, h2, by dsimp only; omega, h4⟩, fun i hi => ?_, hR, hQ⟩, by dsimp only; omega, by dsimp only; omega⟩
  dsimp only at hi ⊢
  rw [updE_at]
  split
  ·rename_i e; subst e; exact woNew_ok (by omega) ht
  ·rename_i e
   have hi' : i < s.m := by omega
   have := hW i hi'
   refine ⟨fun q => ?_, this.2⟩
   by_cases q3 : i + 1 < s.m
   ·exact this.1 ⟨q.1, q3⟩
   ·have e4 : i = s.m - 1 := by omega
    rw [e4] at q
    exact e2 ⟨by omega, q.1⟩
 | ask e1 =>
  refine ⟨⟨⟨h1, h2, h3, by dsimp only; omega⟩, hW, hR, fun i hi => ?_⟩, by dsimp only; omega, by dsimp only; omega⟩
  dsimp only at hi ⊢
  rw [updE_at]
  split
  ·exact roNew_ok ht
  ·exact hQ i (by omega)
 | away => exact same
 | form => exact same
 | store0 => exact same
 | store1 => exact same
 | store k hk hr e hm' hu =>
  have hw := hW (s.m - 1) (by omega)
  refine ⟨⟨⟨h1, h2, h3, h4⟩, fun i hi => ?_, upd_R hR (Rp.take_ok (hR k hk) hw.2.2.1), hQ⟩, same.2⟩
  dsimp only at hi ⊢
  rw [updE_at]
  split
  ·rename_i e; subst e; exact Wo.ack_ok hw (ik k hk) ht
  ·exact hW i hi
 | reply0 => exact same
 | reply1 => exact same
 | reply2 => exact same
 | reply k q hk hr e hq hn hu he hx =>
  refine ⟨⟨⟨h1, h2, h3, h4⟩, hW, hR, fun i hi => ?_⟩, same.2⟩
  dsimp only at hi ⊢
  rw [updE_at]
  split
  ·exact Ro.hear_ok (hQ q hq) (ik k hk) (hR k hk).2.2.1
  ·exact hQ i hi
 | save k hk => exact ⟨⟨⟨h1, h2, h3, h4⟩, hW, upd_R hR (Rp.save_ok (hR k hk)), hQ⟩, same.2⟩
 | restart k hk => exact ⟨⟨⟨h1, h2, h3, h4⟩, hW, upd_R hR (Rp.boot_ok _ (hR k hk)), hQ⟩, same.2⟩
 | restartW k hk hr e hm' he =>
  refine ⟨⟨⟨h1, h2, h3, h4⟩, fun i hi => ?_, upd_R hR (Rp.boot_ok _ (hR k hk)), hQ⟩, same.2⟩
  dsimp only at hi ⊢
  rw [updE_at]
  split
  ·rename_i e; subst e; exact Wo.lose_ok (hW _ (by omega))
  ·exact hW i hi
 | echo0 => exact same
 | echo1 => exact same
 | echo2 => exact same
 | echo3 => exact same
 | echo k f hk hr e hu hf hn hne hv hx => exact ⟨⟨⟨h1, h2, h3, h4⟩, hW, upd_R hR (Rp.echo_ok (hR k hk) hu (ik f hf) (hR f hf).2.2.1), hQ⟩, same.2⟩
def RunOk (s : Sv) : Prop := s.Ok ∧ (s.m : Int) ≤ s.t ∧ (s.l : Int) ≤ s.t
theorem StepS.ok {s s' : Sv} {a : Qa} {c : Int} (h : StepS s a s' c) (ho : RunOk s) : RunOk s' := by
 rcases h with ⟨_, rfl, _⟩ | ⟨ht, h⟩
 ·exact ho
 ·have h0 := ho.1.1.2.1.1
  exact ActS.ok h (ho.1.up ht) (by dsimp only; omega) (by have := ho.2.1; dsimp only; omega) (by have := ho.2.2; dsimp only; omega)
def Maj (n : Nat) (A : Nat → Prop) : Prop := ∃ (m : Nat) (E : Nat → Int), idsOk n m E ∧ majN n ≤ m ∧ ∀ k : Nat, hasE m E k → A k
theorem pigeon : ∀ (n m : Nat) (f : Nat → Nat), (∀ i, i < m → f i < n) → (∀ i j, i < m → j < m → f i = f j → i = j) → m ≤ n
 | 0, m, f, h, _ => by
  rcases Nat.eq_zero_or_pos m with q | q
  ·omega
  ·exact absurd (h 0 q) (by omega)
 | n + 1, 0, f, h, hi => by omega
 | n + 1, m + 1, f, h, hi => by
  have := pigeon n m (fun i => if f i = n then f m else f i) (fun i hm => by
   have h1 := h i (by omega)
   have h2 := h m (by omega)
   by_cases e : f i = n
   ·rw [if_pos e]
    have : f m ≠ n := fun q => by
     have := hi i m (by omega) (by omega) (e.trans q.symm)
     omega
    omega
   ·rw [if_neg e]; omega) (fun i j h1 h2 e => by
   by_cases e1 : f i = n <;> by_cases e2 : f j = n
   ·exact hi i j (by omega) (by omega) (e1.trans e2.symm)
   ·rw [if_pos e1, if_neg e2] at e
    have := hi m j (by omega) (by omega) e
    omega
   ·rw [if_neg e1, if_pos e2] at e
    have := hi i m (by omega) (by omega) e
    omega
   ·rw [if_neg e1, if_neg e2] at e
    exact hi i j (by omega) (by omega) e)
  omega
def Some_ (n q : Nat) (C : Nat → Int) : Prop := (∀ i, i < q → 0 ≤ C i ∧ C i < n) ∧ ∀ i j, i < q → j < q → C i = C j → i = j
theorem two_meet {n q : Nat} {C D : Nat → Int} (h1 : Some_ n q C) (h2 : Some_ n q D) (hq : n < 2 * q) : ∃ i, i < q ∧ ∃ j, j < q ∧ D j = C i := by
 apply Classical.byContradiction
 intro hno
 have := pigeon n (2 * q) (fun i => if i < q then (C i).toNat else (D (i - q)).toNat) (fun i hi => by
  by_cases e : i < q
  ·rw [if_pos e]; have := h1.1 i e; omega
  ·rw [if_neg e]; have := h2.1 (i - q) (by omega); omega) (fun i j hi hj e => by
  by_cases e1 : i < q <;> by_cases e2 : j < q
  ·rw [if_pos e1, if_pos e2] at e
   have a := h1.1 i e1
   have b := h1.1 j e2
   exact h1.2 i j e1 e2 (by omega)
  ·rw [if_pos e1, if_neg e2] at e
   have a := h1.1 i e1
   have b := h2.1 (j - q) (by omega)
   exact absurd ⟨i, e1, j - q, by omega, by omega⟩ hno
  ·rw [if_neg e1, if_pos e2] at e
   have a := h1.1 j e2
   have b := h2.1 (i - q) (by omega)
   exact absurd ⟨j, e2, i - q, by omega, by omega⟩ hno
  ·rw [if_neg e1, if_neg e2] at e
   have a := h2.1 (i - q) (by omega)
   have b := h2.1 (j - q) (by omega)
   have := h2.2 (i - q) (j - q) (by omega) (by omega) (by omega)
   omega)
 omega
theorem ids_some {n m q : Nat} {E : Nat → Int} (h : idsOk n m E) (hq : q ≤ m) : Some_ n q E := ⟨fun i hi => (h i (by omega)).1, fun i j hi hj e => ids_inj h i j (by omega) (by omega) e⟩
theorem maj_meet {n m : Nat} {A : Nat → Prop} {E : Nat → Int} (hA : Maj n A) (h : idsOk n m E) (hm : majN n ≤ m) : ∃ k : Nat, k < n ∧ hasE m E k ∧ A k := by
 obtain ⟨p, D, hD, hp, ha⟩ := hA
 obtain ⟨i, hi, j, hj, e⟩ := two_meet (ids_some h hm) (ids_some hD hp) (by unfold majN; omega)
 have h0 := (h i (by omega)).1
 obtain ⟨k, hk⟩ := Int.eq_ofNat_of_zero_le h0.1
 exact ⟨k, by omega, ⟨i, by omega, hk⟩, ha k ⟨j, by omega, by rw [e, hk]⟩⟩
structure WInv (s : Sv) (a b : Int) (A Q : Nat → Prop) : Prop where
 r : ∀ i, i < s.n → ¬ Q i → ((s.R i).mute = false → a ≤ (s.R i).nc) ∧ ((s.R i).mute = true → a ≤ (s.R i).bc ∨ ∀ k : Nat, hasE (s.R i).ne (s.R i).E k → ¬ A k)
 q : ∀ i, i < s.l → b < (s.Q i).bg → a ≤ (s.Q i).bc ∨ ∀ k : Nat, hasE (s.Q i).ne (s.Q i).E k → ¬ A k
 d : ∀ i, A i → ¬ Q i
theorem has0 {E : Nat → Int} {x : Int} (h : hasE 0 E x) : False := by obtain ⟨i, hi, _⟩ := h; omega
theorem WInv.boot {s : Sv} {a b : Int} {A Q : Nat → Prop} (w : WInv s a b A Q) (k : Nat) (z : Bool) (W' : Nat → Wo) : WInv { s with R := updE s.R k ((s.R k).boot z), W := W' } a b A (fun i => Q i ∧ i ≠ k) := by
 refine ⟨fun i hi hq => ?_, w.q, fun i ha hq => w.d i ha hq.1⟩
 dsimp only at hi ⊢
 rw [updE_at]
 split
 ·cases z with
  | true => exact ⟨fun e => (by cases e), fun _ => .inr fun k h => absurd h (fun h => has0 h)⟩
  | false => exact ⟨fun e => (by cases e), fun _ => .inr fun k h => absurd h (fun h => has0 h)⟩
 ·rename_i e; exact w.r i hi (fun h => hq ⟨h, e⟩)
theorem WInv.wide {s : Sv} {a b : Int} {A Q Q' : Nat → Prop} (w : WInv s a b A Q) (h : ∀ i, Q i → Q' i) (hd : ∀ i, A i → ¬ Q' i) : WInv s a b A Q' := ⟨fun i hi hq => w.r i hi (fun z => hq (h i z)), w.q, hd⟩
theorem ActS.winv {s s' : Sv} {x : Qa} {c a b : Int} {A Q : Nat → Prop} (h : ActS s x s' c) (ho : s.Ok) (hM : Maj s.n A) (w : WInv s a b A Q) : WInv s' a b A Q := by
 cases h with
 | twice1 => exact w
 | begin => exact ⟨w.r, w.q, w.d⟩
 | ask =>
  refine ⟨w.r, fun i hi hb => ?_, w.d⟩
  dsimp only at hi hb ⊢
  rw [updE_at] at hb ⊢
  split
  ·exact .inr fun k h => absurd h (fun h => has0 h)
  ·rename_i e
   rw [if_neg e] at hb
   exact w.q i (by omega) hb
 | away => exact w
 | form => exact w
 | store0 => exact w
 | store1 => exact w
 | store k hk hr e hm hu =>
  refine ⟨fun i hi hq => ?_, w.q, w.d⟩
  dsimp only at hi ⊢
  rw [updE_at]
  split
  ·rename_i e; subst e
   have h0 := w.r i hi hq
   exact ⟨fun _ => Int.le_trans (h0.1 hu) (ltr_ge _ _ _ _).1, fun z => by have z' : (s.R i).mute = true := z; rw [hu] at z'; cases z'⟩
  ·exact w.r i hi hq
 | reply0 => exact w
 | reply1 => exact w
 | reply2 => exact w
 | reply k q hk hr e hq hn hu he hx =>
  refine ⟨w.r, fun i hi hb => ?_, w.d⟩
  dsimp only at hi hb ⊢
  rw [updE_at] at hb ⊢
  by_cases e : i = q
  ·rw [if_pos e] at hb ⊢
   have hb' : b < (s.Q q).bg := hb
   by_cases hA : A k
   ·exact .inl (Int.le_trans ((w.r k hk (w.d k hA)).1 hu) (ltr_ge _ _ _ _).2)
   ·rcases w.q q hq hb' with h1 | h1
    ·exact .inl (Int.le_trans h1 (ltr_ge _ _ _ _).1)
    ·refine .inr fun j hj => ?_
     rcases addE_has (m := (s.Q q).ne) (E := (s.Q q).E) hj with h2 | h2
     ·have : j = k := by omega
      rw [this]; exact hA
     ·exact h1 j h2
  ·rw [if_neg e] at hb ⊢
   exact w.q i hi hb
 | save k hk =>
  refine ⟨fun i hi hq => ?_, w.q, w.d⟩
  dsimp only at hi ⊢
  rw [updE_at]
  split
  ·rename_i e; subst e; exact w.r i hi hq
  ·exact w.r i hi hq
 | restart k hk => exact (w.boot k _ s.W).wide (fun i h => h.1) w.d
 | restartW k hk => exact (w.boot k _ _).wide (fun i h => h.1) w.d
 | echo0 => exact w
 | echo1 => exact w
 | echo2 => exact w
 | echo3 => exact w
 | echo k f hk hr e hu hf hn hne hv hx =>
  refine ⟨fun i hi hq => ?_, w.q, w.d⟩
  dsimp only at hi ⊢
  rw [updE_at]
  by_cases e : i = k
  ·rw [if_pos e]
   subst e
   have T : a ≤ ((s.R i).told f (s.R f).nc (s.R f).nt).bc ∨ ∀ j : Nat, hasE ((s.R i).told f (s.R f).nc (s.R f).nt).ne ((s.R i).told f (s.R f).nc (s.R f).nt).E j → ¬ A j := by
    by_cases hA : A f
    ·exact .inl (Int.le_trans ((w.r f hf (w.d f hA)).1 hv) (ltr_ge _ _ _ _).2)
    ·rcases (w.r i hi hq).2 hu with h1 | h1
     ·exact .inl (Int.le_trans h1 (ltr_ge _ _ _ _).1)
     ·refine .inr fun j hj => ?_
      rcases addE_has (m := (s.R i).ne) (E := (s.R i).E) hj with h2 | h2
      ·have : j = f := by omega
       rw [this]; exact hA
      ·exact h1 j h2
   have iT : idsOk s.n ((s.R i).told f (s.R f).nc (s.R f).nt).ne ((s.R i).told f (s.R f).nc (s.R f).nt).E := addE_ok (ho.2.2.1 i hi).2.1 (by omega)
   unfold Rp.echo
   split
   ·rename_i hmaj
    refine ⟨fun _ => ?_, fun z => (by cases z)⟩
    rcases T with h1 | h1
    ·exact h1
    ·obtain ⟨j, _, h3, h4⟩ := maj_meet hM iT hmaj
     exact absurd h4 (h1 j h3)
   ·exact ⟨fun z => (by have z' : (s.R i).mute = false := z; rw [hu] at z'; cases z'), fun _ => T⟩
  ·rw [if_neg e]
   exact w.r i hi hq
structure SInv (s : Sv) : Prop where
 e : ∀ i, i < s.m → (s.W i).en ≠ -1 → ∃ A, Maj s.n A ∧ WInv s (s.W i).mc (s.W i).en A (fun k => ¬ A k)
 o : ∀ i, i < s.m → (s.W i).en = -1 → ∀ k : Nat, hasE (s.W i).ne (s.W i).E k → (s.R k).mute = false ∧ (s.W i).mc ≤ (s.R k).nc
 f : ∀ i, i < s.l → (s.Q i).en ≠ -1 → majN s.n ≤ (s.Q i).ne
theorem ActS.n {s s' : Sv} {a : Qa} {c : Int} (h : ActS s a s' c) : s'.n = s.n := by cases h <;> rfl
theorem ActS.inv {s s' : Sv} {a : Qa} {c : Int} (h : ActS s a s' c) (ho : s.Ok) (ht : 1 ≤ s.t) (v : SInv s) : SInv s' := by
 have W : ∀ i, i < s.m → (s.W i).en ≠ -1 → ∃ A, Maj s'.n A ∧ WInv s' (s.W i).mc (s.W i).en A (fun k => ¬ A k) := fun i hi he => by
  obtain ⟨A, hA, w⟩ := v.e i hi he
  exact ⟨A, by rw [h.n]; exact hA, h.winv ho hA w⟩
 cases h with
 | twice1 => exact v
 | begin e1 e2 =>
  refine ⟨fun i hi he => ?_, fun i hi he k hk => ?_, v.f⟩
  ·dsimp only at hi he ⊢
   rw [updE_at] at he ⊢
   split
   ·rename_i e; rw [if_pos e] at he; exact absurd rfl he
   ·rename_i e; rw [if_neg e] at he; exact W i (by omega) he
  ·dsimp only at hi he hk ⊢
   rw [updE_at] at he hk ⊢
   by_cases e : i = s.m
   ·rw [if_pos e] at hk; exact absurd hk (fun h => has0 h)
   ·rw [if_neg e] at he hk ⊢; exact v.o i (by omega) he k hk
 | ask e1 =>
  refine ⟨W, v.o, fun i hi he => ?_⟩
  dsimp only at hi he ⊢
  rw [updE_at] at he ⊢
  by_cases e : i = s.l
  ·rw [if_pos e] at he; exact absurd rfl he
  ·rw [if_neg e] at he ⊢; exact v.f i (by omega) he
 | away => exact v
 | form => exact v
 | store0 => exact v
 | store1 => exact v
 | store k hk hr e hm hu =>
  have nk : ∀ j : Nat, hasE ((s.W (s.m - 1)).ack s.n s.t k).ne ((s.W (s.m - 1)).ack s.n s.t k).E j → (s.W (s.m - 1)).en = -1 → (updE s.R k ((s.R k).take (s.W (s.m - 1)).mc (s.W (s.m - 1)).mt) j).mute = false ∧ (s.W (s.m - 1)).mc ≤ (updE s.R k ((s.R k).take (s.W (s.m - 1)).mc (s.W (s.m - 1)).mt) j).nc := fun j hj he => by
   rw [updE_at]
   by_cases e2 : j = k
   ·rw [if_pos e2]
    exact ⟨hu, (ltr_ge _ _ _ _).2⟩
   ·rw [if_neg e2]
    rcases addE_has (m := (s.W (s.m - 1)).ne) (E := (s.W (s.m - 1)).E) hj with h2 | h2
    ·exact absurd (by omega) e2
    ·exact v.o (s.m - 1) (by omega) he j h2
  refine ⟨fun i hi he => ?_, fun i hi he j hj => ?_, v.f⟩
  ·dsimp only at hi he ⊢
   rw [updE_at] at he ⊢
   by_cases e2 : i = s.m - 1
   ·rw [if_pos e2] at he ⊢
    by_cases h0 : (s.W (s.m - 1)).en = -1
    ·have he' : (if (s.W (s.m - 1)).en = -1 ∧ majN s.n ≤ (addE (s.W (s.m - 1)).ne (s.W (s.m - 1)).E k).1 then s.t else (s.W (s.m - 1)).en) ≠ -1 := he
     have hmj : majN s.n ≤ (addE (s.W (s.m - 1)).ne (s.W (s.m - 1)).E k).1 := by
      apply Classical.byContradiction
      intro q
      rw [if_neg (fun z => q z.2)] at he'
      exact he' h0
     have een : ((s.W (s.m - 1)).ack s.n s.t k).en = s.t := by
      show (if (s.W (s.m - 1)).en = -1 ∧ majN s.n ≤ (addE (s.W (s.m - 1)).ne (s.W (s.m - 1)).E k).1 then s.t else (s.W (s.m - 1)).en) = s.t
      rw [if_pos ⟨h0, hmj⟩]
     rw [een]
     refine ⟨fun j => hasE ((s.W (s.m - 1)).ack s.n s.t k).ne ((s.W (s.m - 1)).ack s.n s.t k).E j, ⟨_, _, addE_ok (ho.2.1 (s.m - 1) (by omega)).2.2.2.1 (by omega), hmj, fun j hj => hj⟩, fun i hi hq => ?_, fun i hi hb => ?_, fun i ha hq => hq ha⟩
     ·have hA := Classical.byContradiction hq
      have := nk i hA h0
      exact ⟨fun _ => this.2, fun z => (by have z' := this.1; dsimp only at z; rw [z] at z'; cases z')⟩
     ·have := (ho.2.2.2 i hi).2.2.1.2
      exact absurd (show s.t < (s.Q i).bg from hb) (by omega)
    ·have een : ((s.W (s.m - 1)).ack s.n s.t k).en = (s.W (s.m - 1)).en := by
      show (if (s.W (s.m - 1)).en = -1 ∧ majN s.n ≤ (addE (s.W (s.m - 1)).ne (s.W (s.m - 1)).E k).1 then s.t else (s.W (s.m - 1)).en) = _
      rw [if_neg (fun z => h0 z.1)]
     rw [een]
     exact W (s.m - 1) (by omega) h0
   ·rw [if_neg e2] at he ⊢
    exact W i hi he
  ·dsimp only at hi he hj ⊢
   rw [updE_at (f := s.W)] at he hj ⊢
   by_cases e2 : i = s.m - 1
   ·rw [if_pos e2] at he hj ⊢
    have h0 : (s.W (s.m - 1)).en = -1 := by
     have he' : (if (s.W (s.m - 1)).en = -1 ∧ majN s.n ≤ (addE (s.W (s.m - 1)).ne (s.W (s.m - 1)).E k).1 then s.t else (s.W (s.m - 1)).en) = -1 := he
     split at he'
     ·omega
     ·exact he'
    exact nk j hj h0
   ·rw [if_neg e2] at he hj ⊢
    have := (ho.2.1 i hi).1 ⟨he, by omega⟩
    exact this.elim
 | reply0 => exact v
 | reply1 => exact v
 | reply2 => exact v
 | reply k q hk hr e hq hn hu he hx =>
  refine ⟨W, v.o, fun i hi hen => ?_⟩
  dsimp only at hi hen ⊢
  rw [updE_at] at hen ⊢
  by_cases e2 : i = q
  ·rw [if_pos e2] at hen ⊢
   have hen' : (if majN s.n ≤ (addE (s.Q q).ne (s.Q q).E k).1 then s.t else (s.Q q).en) ≠ -1 := hen
   split at hen'
   ·assumption
   ·exact absurd he hen'
  ·rw [if_neg e2] at hen ⊢; exact v.f i hi hen
 | save k hk =>
  refine ⟨W, fun i hi he j hj => ?_, v.f⟩
  have := v.o i hi he j hj
  dsimp only at hi he hj ⊢
  rw [updE_at]
  split
  ·rename_i e; subst e; exact this
  ·exact this
 | restart k hk hr e hm =>
  refine ⟨W, fun i hi he j hj => ?_, v.f⟩
  dsimp only at hi he hj
  by_cases q : i + 1 < s.m
  ·exact absurd ⟨he, q⟩ (ho.2.1 i hi).1
  ·have : i = s.m - 1 := by omega
   rw [this] at he
   exact absurd ⟨by omega, he⟩ hm
 | restartW k hk hr e hm h0 =>
  refine ⟨fun i hi he => ?_, fun i hi he j hj => ?_, v.f⟩
  ·dsimp only at hi he ⊢
   rw [updE_at] at he ⊢
   by_cases e2 : i = s.m - 1
   ·rw [if_pos e2] at he; exact absurd h0 he
   ·rw [if_neg e2] at he ⊢; exact W i hi he
  ·dsimp only at hi he hj ⊢
   rw [updE_at (f := s.W)] at he hj ⊢
   by_cases e2 : i = s.m - 1
   ·rw [if_pos e2] at he hj ⊢
    have := subE_has (ho.2.1 (s.m - 1) (by omega)).2.2.2.1 hj
    rw [updE_at, if_neg (fun z => this.1 (by rw [z]))]
    exact v.o (s.m - 1) (by omega) h0 j this.2
   ·rw [if_neg e2] at he
    have := (ho.2.1 i hi).1 ⟨he, by omega⟩
    exact this.elim
 | echo0 => exact v
 | echo1 => exact v
 | echo2 => exact v
 | echo3 => exact v
 | echo k f hk hr e hu hf hn hne hv hx =>
  refine ⟨W, fun i hi he j hj => ?_, v.f⟩
  have := v.o i hi he j hj
  dsimp only at hi he hj ⊢
  rw [updE_at, if_neg (fun z => by rw [z, hu] at this; cases this.1)]
  exact this
theorem SInv.time {s : Sv} (v : SInv s) (t : Int) : SInv { s with t := t } := ⟨fun i hi he => by
 obtain ⟨A, hA, w⟩ := v.e i hi he
 exact ⟨A, hA, w.r, w.q, w.d⟩, v.o, v.f⟩
theorem StepS.inv {s s' : Sv} {a : Qa} {c : Int} (h : StepS s a s' c) (ho : RunOk s) (v : SInv s) : SInv s' := by
 rcases h with ⟨_, rfl, _⟩ | ⟨ht, h⟩
 ·exact v
 ·have h0 := ho.1.1.2.1.1
  exact ActS.inv h (ho.1.up ht) (by dsimp only; omega) (v.time _)
end Go.Proofs.Ytedncfcmhaaobaa
namespace Go.Proofs.Ytedncfcmhaaobaa
open Go.ChangeShapes Go.WideShapes Go.ChangeAt Go.RowKit
set_option linter.unusedVariables false
end Go.Proofs.Ytedncfcmhaaobaa
namespace Go.Proofs.Ytedncfcmhaaobaa
open Go.ChangeShapes Go.WideShapes Go.ChangeAt Go.RowKit
set_option linter.unusedVariables false
open Classical in
def LastOf (s : Sv) (x : Int) : Prop := x = 0 ∨ ∃ i, i < s.m ∧ (s.W i).en ≠ -1 ∧ (s.W i).mc = x
theorem WInv.time {s : Sv} {a b : Int} {A Q : Nat → Prop} (w : WInv s a b A Q) (t : Int) : WInv { s with t := t } a b A Q := ⟨w.r, w.q, w.d⟩
theorem StepS.winv {s s' : Sv} {x : Qa} {c a b : Int} {A Q : Nat → Prop} (h : StepS s x s' c) (ho : s.Ok) (hM : Maj s.n A) (w : WInv s a b A Q) : WInv s' a b A Q := by
 rcases h with ⟨_, rfl, _⟩ | ⟨ht, h⟩
 ·exact w
 ·exact h.winv (ho.up ht) hM (w.time _)
theorem StepS.boot {s s' : Sv} {k : Nat} {z c a b : Int} {A Q : Nat → Prop} (h : StepS s ⟨6, k, z⟩ s' c) (ht : s.t < 200) (hk : k < s.n) (w : WInv s a b A Q) : WInv s' a b A (fun i => Q i ∧ i ≠ k) ∧ (s'.R k).mute = true ∧ c = 0 := by
 rcases h with ⟨e, _⟩ | ⟨_, h⟩
 ·omega
 ·have bm : ∀ r : Rp, ∀ y, (r.boot y).mute = true := fun r y => by cases y <;> rfl
  have q0 : ∀ x : Int, (6 : Int) = x → x = 6 := fun x e => e.symm
  cases h with
  | twice1 h => exact absurd h (by show (6 : Int) ≠ 1; omega)
  | begin h => exact absurd h (by show (6 : Int) ≠ 1; omega)
  | ask h => exact absurd h (by show (6 : Int) ≠ 3; omega)
  | away h hr => exact absurd (show (0 : Int) ≤ (k : Int) ∧ (k : Int) < (s.n : Int) by omega) hr
  | form h => exact absurd (show (1 : Int) ≤ 6 ∧ (6 : Int) ≤ 7 by omega) h
  | store0 j hj hr h => exact absurd h (by show (6 : Int) ≠ 2; omega)
  | store1 j hj hr h => exact absurd h (by show (6 : Int) ≠ 2; omega)
  | store j hj hr h => exact absurd h (by show (6 : Int) ≠ 2; omega)
  | reply0 j hj hr h => exact absurd h (by show (6 : Int) ≠ 4; omega)
  | reply1 j q hj hr h => exact absurd h (by show (6 : Int) ≠ 4; omega)
  | reply2 j q hj hr h => exact absurd h (by show (6 : Int) ≠ 4; omega)
  | reply j q hj hr h => exact absurd h (by show (6 : Int) ≠ 4; omega)
  | save j hj hr h => exact absurd h (by show (6 : Int) ≠ 5; omega)
  | restart j hj hr h hm =>
   have hr' : (k : Int) = (j : Int) := hr
   obtain rfl : j = k := by omega
   exact ⟨(w.time _).boot j _ s.W, by show (updE s.R j _ j).mute = true; rw [updE_at, if_pos rfl]; exact bm _ _, rfl⟩
  | restartW j hj hr h hm he =>
   have hr' : (k : Int) = (j : Int) := hr
   obtain rfl : j = k := by omega
   exact ⟨(w.time _).boot j _ _, by show (updE s.R j _ j).mute = true; rw [updE_at, if_pos rfl]; exact bm _ _, rfl⟩
  | echo0 j hj hr h => exact absurd h (by show (6 : Int) ≠ 7; omega)
  | echo1 j hj hr h => exact absurd h (by show (6 : Int) ≠ 7; omega)
  | echo2 j f hj hr h => exact absurd h (by show (6 : Int) ≠ 7; omega)
  | echo3 j f hj hr h => exact absurd h (by show (6 : Int) ≠ 7; omega)
  | echo j f hj hr h => exact absurd h (by show (6 : Int) ≠ 7; omega)
def ToldInv (s : Sv) (x : Int) (k : Nat) : Prop := x = 0 ∨ ∃ (b : Int) (A Q : Nat → Prop), Maj s.n A ∧ WInv s x b A Q ∧ ¬ Q k
theorem SInv.told {s s' : Sv} {k : Nat} {z c x : Int} (v : SInv s) (hx : LastOf s x) (h : StepS s ⟨6, k, z⟩ s' c) (ht : s.t < 200) (hk : k < s.n) : ToldInv s' x k := by
 rcases hx with rfl | ⟨i, hi, he, rfl⟩
 ·exact .inl rfl
 ·obtain ⟨A, hA, w⟩ := v.e i hi he
  have hn : s'.n = s.n := by
   rcases h with ⟨_, rfl, _⟩ | ⟨_, h⟩
   ·rfl
   ·exact h.n
  exact .inr ⟨_, A, _, by rw [hn]; exact hA, (h.boot ht hk w).1, fun q => q.2 rfl⟩
theorem ToldInv.step {s s' : Sv} {y : Qa} {k : Nat} {c x : Int} (w : ToldInv s x k) (ho : s.Ok) (h : StepS s y s' c) : ToldInv s' x k := by
 rcases w with rfl | ⟨b, A, Q, hA, w, hq⟩
 ·exact .inl rfl
 ·have hn : s'.n = s.n := by
   rcases h with ⟨_, rfl, _⟩ | ⟨_, h⟩
   ·rfl
   ·exact h.n
  exact .inr ⟨b, A, Q, by rw [hn]; exact hA, h.winv ho hA w, hq⟩
theorem ToldInv.has {s : Sv} {k : Nat} {x : Int} (w : ToldInv s x k) (ho : s.Ok) (hk : k < s.n) : (s.R k).mute = true ∨ x ≤ (s.R k).nc := by
 cases e : (s.R k).mute with
 | true => exact .inl rfl
 | false =>
  rcases w with rfl | ⟨b, A, Q, hA, w, hq⟩
  ·exact .inr (ho.2.2.1 k hk).2.2.1.1.1
  ·exact .inr ((w.r k hk hq).1 e)
theorem SInv.zero {s : Sv} (hm : s.m = 0) (hl : s.l = 0) : SInv s := ⟨fun i hi => by omega, fun i hi => by omega, fun i hi => by omega⟩
end Go.Proofs.Ytedncfcmhaaobaa
namespace Go.Proofs.Ytedncfcmhaaobaa
open Go.ChangeShapes Go.WideShapes Go.ChangeAt Go.RowKit
set_option linter.unusedVariables false
end Go.Proofs.Ytedncfcmhaaobaa
