/-
  Texts of the proof, joined: QuI.
-/
import Derived.Test.YtedncfcmhaaobaaY25
import Derived.Test.YtedncfcmhaaobaaY30
namespace Go.Proofs.Ytedncfcmhaaobaa
open Go.ChangeShapes Go.WideShapes Go.ChangeAt Go.RowKit
set_option linter.unusedVariables false
theorem updE_at {T : Type} (f : Nat → T) (k : Nat) (x : T) (i : Nat) : updE f k x i = if i = k then x else f i := rfl
theorem Rp.take_ok {n : Nat} {r : Rp} {c t : Int} (h : r.Ok n) (hm : mkOk c t) : (r.take c t).Ok n := ⟨h.1, h.2.1, ltr_ok h.2.2.1 hm, h.2.2.2⟩
theorem Rp.save_ok {n : Nat} {r : Rp} (h : r.Ok n) : r.save.Ok n := ⟨h.1, h.2.1, h.2.2.1, h.2.2.1, h.2.2.2.2⟩
theorem Rp.boot_ok {n : Nat} {r : Rp} (b : Bool) (h : r.Ok n) : (r.boot b).Ok n := by
 cases b with
 | true => exact ⟨fun q => absurd q.1 (Nat.lt_irrefl 0), fun i hi => absurd hi (Nat.not_lt_zero i), h.2.2.2.1, h.2.2.2.1, h.2.2.2.1⟩
 | false => exact ⟨fun q => absurd q.1 (Nat.lt_irrefl 0), fun i hi => absurd hi (Nat.not_lt_zero i), h.2.2.1, h.2.2.2.1, h.2.2.1⟩
theorem Rp.told_ok {n : Nat} {r : Rp} {f c t : Int} (h : r.Ok n) (hu : r.mute = true) (hf : 0 ≤ f ∧ f < (n : Int)) (hm : mkOk c t) : (r.told f c t).Ok n :=
 ⟨fun q => (by have h2 : r.mute = false := q.2; rw [hu] at h2; cases h2), addE_ok h.2.1 hf, h.2.2.1, h.2.2.2.1, ltr_ok h.2.2.2.2 hm⟩
theorem Rp.echo_ok {n : Nat} {r : Rp} {f c t : Int} (h : r.Ok n) (hu : r.mute = true) (hf : 0 ≤ f ∧ f < (n : Int)) (hm : mkOk c t) : (r.echo n f c t).Ok n := by
 have h1 := Rp.told_ok h hu hf hm
 unfold Rp.echo
 split
 ·exact ⟨fun q => absurd q.1 (Nat.lt_irrefl 0), fun i hi => absurd hi (Nat.not_lt_zero i), h1.2.2.2.2, h1.2.2.2.1, h1.2.2.2.2⟩
 ·exact h1
theorem Wo.ack_ok {n m i : Nat} {x : Wo} {t k : Int} (h : x.Ok n t m i) (hk : 0 ≤ k ∧ k < (n : Int)) (ht : 1 ≤ t) : (x.ack n t k).Ok n t m i := by
 refine ⟨?_, h.2.1, h.2.2.1, addE_ok h.2.2.2.1 hk, h.2.2.2.2.1, ?_⟩
 ·rintro ⟨q1, q2⟩
  have q1' : (if x.en = -1 ∧ majN n ≤ (addE x.ne x.E k).1 then t else x.en) = -1 := q1
  split at q1'
  ·omega
  ·exact h.1 ⟨q1', q2⟩
 ·show (if x.en = -1 ∧ majN n ≤ (addE x.ne x.E k).1 then t else x.en) = -1 ∨ _ ≤ (if x.en = -1 ∧ majN n ≤ (addE x.ne x.E k).1 then t else x.en) ∧ (if x.en = -1 ∧ majN n ≤ (addE x.ne x.E k).1 then t else x.en) ≤ t
  split
  ·exact .inr ⟨h.2.2.2.2.1.2, Int.le_refl _⟩
  ·exact h.2.2.2.2.2
theorem Wo.lose_ok {n m i : Nat} {x : Wo} {t k : Int} (h : x.Ok n t m i) : (x.lose k).Ok n t m i := ⟨h.1, h.2.1, h.2.2.1, subE_ok h.2.2.2.1, h.2.2.2.2⟩
theorem Ro.hear_ok {n : Nat} {x : Ro} {t k c u : Int} (h : x.Ok n t) (hk : 0 ≤ k ∧ k < (n : Int)) (hm : mkOk c u) : (x.hear n t k c u).Ok n t := by
 refine ⟨ltr_ok h.1 hm, addE_ok h.2.1 hk, h.2.2.1, ?_⟩
 show (if majN n ≤ (addE x.ne x.E k).1 then t else x.en) = -1 ∨ _ ≤ (if majN n ≤ (addE x.ne x.E k).1 then t else x.en) ∧ (if majN n ≤ (addE x.ne x.E k).1 then t else x.en) ≤ t
 split
 ·exact .inr ⟨h.2.2.1.2, Int.le_refl _⟩
 ·exact h.2.2.2
theorem tm_up {t b e : Int} (h : tmOk t b e) : tmOk (t + 1) b e := ⟨⟨h.1.1, by have := h.1.2; omega⟩, h.2.imp id (fun q => ⟨q.1, by omega⟩)⟩
theorem Sv.Ok.up {s : Sv} (h : s.Ok) (ht : s.t < 200) : ({ s with t := s.t + 1 } : Sv).Ok := by
 obtain ⟨⟨h1, h2, h3, h4⟩, hW, hR, hQ⟩ := h
 unfold inS at h2
 refine ⟨⟨h1, ⟨by dsimp only; omega, by dsimp only; omega⟩, h3, h4⟩, fun i hi => ?_, hR, fun i hi => ?_⟩
 ·have := hW i hi; exact ⟨this.1, this.2.1, this.2.2.1, this.2.2.2.1, tm_up this.2.2.2.2⟩
 ·have := hQ i hi; exact ⟨this.1, this.2.1, tm_up this.2.2⟩
theorem woNew_ok {n m : Nat} {a t : Int} (hm : (m : Int) + 1 ≤ 200) (ht : 1 ≤ t) : (woNew m a t).Ok n t (m + 1) m := by
 refine ⟨fun q => by omega, rfl, ⟨⟨?_, ?_⟩, ?_⟩, fun i hi => absurd hi (Nat.not_lt_zero i), ⟨ht, Int.le_refl _⟩, .inl rfl⟩
 ·show (0 : Int) ≤ (m : Int) + 1; omega
 ·show (m : Int) + 1 ≤ 200; exact hm
 ·show 0 ≤ (if a < 0 then 0 else if 1000000 < a then 1000000 else a) ∧ (if a < 0 then 0 else if 1000000 < a then 1000000 else a) ≤ 1000000
  split
  ·omega
  ·split <;> omega
theorem roNew_ok {n : Nat} {t : Int} (ht : 1 ≤ t) : (roNew t).Ok n t := ⟨⟨⟨Int.le_refl _, by show (0 : Int) ≤ 200; omega⟩, Int.le_refl _, by show (0 : Int) ≤ 1000000; omega⟩, fun i hi => absurd hi (Nat.not_lt_zero i), ⟨ht, Int.le_refl _⟩, .inl rfl⟩
theorem upd_R {s : Sv} {k : Nat} {r : Rp} (hR : ∀ i, i < s.n → (s.R i).Ok s.n) (h : r.Ok s.n) : ∀ i, i < s.n → (updE s.R k r i).Ok s.n := fun i hi => by
 rw [updE_at]
 split
 ·exact h
 ·exact hR i hi
theorem ActS.ok {s s' : Sv} {a : Qa} {c : Int} (h : ActS s a s' c) (ho : s.Ok) (ht : 1 ≤ s.t) (hm : (s.m : Int) + 1 ≤ s.t) (hl : (s.l : Int) + 1 ≤ s.t) : s'.Ok ∧ (s'.m : Int) ≤ s'.t ∧ (s'.l : Int) ≤ s'.t := by
 have ho' := ho
 obtain ⟨⟨h1, h2, h3, h4⟩, hW, hR, hQ⟩ := ho
 have h2' : s.t ≤ 200 := h2.2
 have same : s.Ok ∧ (s.m : Int) ≤ s.t ∧ (s.l : Int) ≤ s.t := ⟨ho', by omega, by omega⟩
 have ik : ∀ k : Nat, k < s.n → (0 : Int) ≤ (k : Int) ∧ (k : Int) < (s.n : Int) := fun k hk => by omega
 cases h with
 | twice1 => exact same
 | begin e1 e2 =>
  refine ⟨⟨⟨h1, h2, by dsimp only; omega, h4⟩, fun i hi => ?_, hR, hQ⟩, by dsimp only; omega, by dsimp only; omega⟩
  dsimp only at hi ⊢
  rw [updE_at]
  split
  ·rename_i e; subst e; exact woNew_ok (by omega) ht
  ·rename_i e
   have hi' : i < s.m := by omega
   have := hW i hi'
   refine ⟨fun q => ?_, this.2⟩
   by_cases q3 : i + 1 < s.m
   ·exact this.1 ⟨q.1, q3⟩
   ·have e4 : i = s.m - 1 := by omega
    rw [e4] at q
    exact e2 ⟨by omega, q.1⟩
 | ask e1 =>
  refine ⟨⟨⟨h1, h2, h3, by dsimp only; omega⟩, hW, hR, fun i hi => ?_⟩, by dsimp only; omega, by dsimp only; omega⟩
  dsimp only at hi ⊢
  rw [updE_at]
  split
  ·exact roNew_ok ht
  ·exact hQ i (by omega)
 | away => exact same
 | form => exact same
 | store0 => exact same
 | store1 => exact same
 | store k hk hr e hm' hu =>
  have hw := hW (s.m - 1) (by omega)
  refine ⟨⟨⟨h1, h2, h3, h4⟩, fun i hi => ?_, upd_R hR (Rp.take_ok (hR k hk) hw.2.2.1), hQ⟩, same.2⟩
  dsimp only at hi ⊢
  rw [updE_at]
  split
  ·rename_i e; subst e; exact Wo.ack_ok hw (ik k hk) ht
  ·exact hW i hi
 | reply0 => exact same
 | reply1 => exact same
 | reply2 => exact same
 | reply k q hk hr e hq hn hu he hx =>
  refine ⟨⟨⟨h1, h2, h3, h4⟩, hW, hR, fun i hi => ?_⟩, same.2⟩
  dsimp only at hi ⊢
  rw [updE_at]
  split
  ·exact Ro.hear_ok (hQ q hq) (ik k hk) (hR k hk).2.2.1
  ·exact hQ i hi
 | save k hk => exact ⟨⟨⟨h1, h2, h3, h4⟩, hW, upd_R hR (Rp.save_ok (hR k hk)), hQ⟩, same.2⟩
 | restart k hk => exact ⟨⟨⟨h1, h2, h3, h4⟩, hW, upd_R hR (Rp.boot_ok _ (hR k hk)), hQ⟩, same.2⟩
 | restartW k hk hr e hm' he =>
  refine ⟨⟨⟨h1, h2, h3, h4⟩, fun i hi => ?_, upd_R hR (Rp.boot_ok _ (hR k hk)), hQ⟩, same.2⟩
  dsimp only at hi ⊢
  rw [updE_at]
  split
  ·rename_i e; subst e; exact Wo.lose_ok (hW _ (by omega))
  ·exact hW i hi
 | echo0 => exact same
 | echo1 => exact same
 | echo2 => exact same
 | echo3 => exact same
 | echo k f hk hr e hu hf hn hne hv hx => exact ⟨⟨⟨h1, h2, h3, h4⟩, hW, upd_R hR (Rp.echo_ok (hR k hk) hu (ik f hf) (hR f hf).2.2.1), hQ⟩, same.2⟩
def RunOk (s : Sv) : Prop := s.Ok ∧ (s.m : Int) ≤ s.t ∧ (s.l : Int) ≤ s.t
theorem StepS.ok {s s' : Sv} {a : Qa} {c : Int} (h : StepS s a s' c) (ho : RunOk s) : RunOk s' := by
 rcases h with ⟨_, rfl, _⟩ | ⟨ht, h⟩
 ·exact ho
 ·have h0 := ho.1.1.2.1.1
  exact ActS.ok h (ho.1.up ht) (by dsimp only; omega) (by have := ho.2.1; dsimp only; omega) (by have := ho.2.2; dsimp only; omega)
end Go.Proofs.Ytedncfcmhaaobaa
