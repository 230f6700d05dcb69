/-
  Texts of the proof, joined: QuM.
-/
import Derived.Test.YtedncfcmhaaobaaV15
namespace Go.Proofs.Ytedncfcmhaaobaa
open Go.ChangeShapes Go.WideShapes Go.ChangeAt Go.RowKit
set_option linter.unusedVariables false
def plcE (x : Int) : (Nat → Int) → Nat → Nat
 | _, 0 => 0
 | E, m + 1 => if E 0 < x then plcE x (fun i => E (i + 1)) m + 1 else 0
theorem plcE_le (x : Int) : ∀ m E, plcE x E m ≤ m
 | 0, _ => Nat.le_refl _
 | m + 1, E => by
  unfold plcE
  split
  ·exact Nat.succ_le_succ (plcE_le x m _)
  ·omega
theorem plcE_lt (x : Int) : ∀ m E i, i < plcE x E m → E i < x
 | 0, _, i, h => by unfold plcE at h; omega
 | m + 1, E, i, h => by
  unfold plcE at h
  split at h
  ·rename_i h0
   cases i with
   | zero => exact h0
   | succ i => exact plcE_lt x m (fun i => E (i + 1)) i (by omega)
  ·omega
theorem plcE_at (x : Int) : ∀ m E, plcE x E m < m → ¬ E (plcE x E m) < x
 | 0, _, h => by omega
 | m + 1, E, h => by
  unfold plcE at h ⊢
  split at h
  ·rename_i h0
   rw [if_pos h0]
   exact plcE_at x m (fun i => E (i + 1)) (by omega)
  ·rename_i h0
   rw [if_neg h0]
   exact h0
theorem plcE_is {x : Int} {m k : Nat} {E : Nat → Int} (hk : k ≤ m) (h : ∀ i, i < k → E i < x) (h2 : k = m ∨ ¬ E k < x) : plcE x E m = k := by
 rcases Nat.lt_trichotomy (plcE x E m) k with q | q | q
 ·exact absurd (h _ q) (plcE_at x m E (by omega))
 ·exact q
 ·have := plcE_lt x m E k q
  have := plcE_le x m E
  rcases h2 with h2 | h2
  ·omega
  ·exact absurd ‹E k < x› h2
def hasE (m : Nat) (E : Nat → Int) (x : Int) : Prop := ∃ i, i < m ∧ E i = x
def insN (k : Nat) (E : Nat → Int) (x : Int) (i : Nat) : Int := if i < k then E i else if i = k then x else E (i - 1)
def delN (k : Nat) (E : Nat → Int) (i : Nat) : Int := if i < k then E i else E (i + 1)
theorem ids_lt {n m : Nat} {E : Nat → Int} (h : idsOk n m E) : ∀ j i, i < j → j < m → E i < E j
 | 0, i, hi, _ => by omega
 | j + 1, i, hi, hj => by
  have h1 := (h (j + 1) hj).2 (by omega)
  rw [Nat.add_sub_cancel] at h1
  rcases Nat.lt_or_ge i j with q | q
  ·have := ids_lt h j i q (by omega); omega
  ·obtain rfl : i = j := by omega
   exact h1
theorem ids_inj {n m : Nat} {E : Nat → Int} (h : idsOk n m E) (i j : Nat) (hi : i < m) (hj : j < m) (e : E i = E j) : i = j := by
 rcases Nat.lt_trichotomy i j with q | q | q
 ·have := ids_lt h j i q hj; omega
 ·exact q
 ·have := ids_lt h i j q hi; omega
theorem ids_has {n m : Nat} {E : Nat → Int} {x : Int} (h : idsOk n m E) (hx : hasE m E x) : plcE x E m < m ∧ E (plcE x E m) = x := by
 obtain ⟨i, hi, rfl⟩ := hx
 have e : plcE (E i) E m = i := plcE_is (by omega) (fun j hj => ids_lt h i j hj hi) (.inr (by omega))
 rw [e]
 exact ⟨hi, rfl⟩
theorem ids_ins {n m : Nat} {E : Nat → Int} {x : Int} (h : idsOk n m E) (hx : 0 ≤ x ∧ x < (n : Int)) (hn : ¬ hasE m E x) : idsOk n (m + 1) (insN (plcE x E m) E x) := by
 have k1 := plcE_le x m E
 have k2 := plcE_lt x m E
 have k3 := plcE_at x m E
 generalize plcE x E m = k at *
 intro i hi
 unfold insN
 rcases Nat.lt_trichotomy i k with q | q | q
 ·rw [if_pos q]
  refine ⟨(h i (by omega)).1, fun h0 => ?_⟩
  rw [if_pos (by omega)]
  exact (h i (by omega)).2 h0
 ·subst q
  rw [if_neg (by omega), if_pos rfl]
  refine ⟨hx, fun h0 => ?_⟩
  rw [if_pos (by omega)]
  exact k2 _ (by omega)
 ·rw [if_neg (by omega), if_neg (by omega)]
  refine ⟨(h (i - 1) (by omega)).1, fun h0 => ?_⟩
  by_cases e : i = k + 1
  ·subst e
   rw [if_neg (by omega), if_pos (by omega), Nat.add_sub_cancel]
   have a := k3 (by omega)
   have b : E k ≠ x := fun e => hn ⟨k, by omega, e⟩
   omega
  ·rw [if_neg (by omega), if_neg (by omega)]
   exact (h (i - 1) (by omega)).2 (by omega)
theorem ids_del {n m k : Nat} {E : Nat → Int} (h : idsOk n m E) (hk : k < m) : idsOk n (m - 1) (delN k E) := by
 intro i hi
 unfold delN
 by_cases q : i < k
 ·rw [if_pos q]
  refine ⟨(h i (by omega)).1, fun h0 => ?_⟩
  rw [if_pos (by omega)]
  exact (h i (by omega)).2 h0
 ·rw [if_neg q]
  refine ⟨(h (i + 1) (by omega)).1, fun h0 => ?_⟩
  by_cases e : i - 1 < k
  ·rw [if_pos e]
   exact ids_lt h (i + 1) (i - 1) (by omega) (by omega)
  ·rw [if_neg e]
   exact ids_lt h (i + 1) (i - 1 + 1) (by omega) (by omega)
theorem has_ins {m k : Nat} {E : Nat → Int} {x y : Int} (hk : k ≤ m) (h : hasE (m + 1) (insN k E x) y) : y = x ∨ hasE m E y := by
 obtain ⟨i, hi, e⟩ := h
 unfold insN at e
 by_cases q : i < k
 ·rw [if_pos q] at e; exact .inr ⟨i, by omega, e⟩
 ·rw [if_neg q] at e
  by_cases q2 : i = k
  ·rw [if_pos q2] at e; exact .inl e.symm
  ·rw [if_neg q2] at e; exact .inr ⟨i - 1, by omega, e⟩
theorem has_del {n m k : Nat} {E : Nat → Int} {y : Int} (h : idsOk n m E) (hk : k < m) (hy : hasE (m - 1) (delN k E) y) : y ≠ E k ∧ hasE m E y := by
 obtain ⟨i, hi, e⟩ := hy
 unfold delN at e
 by_cases q : i < k
 ·rw [if_pos q] at e
  refine ⟨fun f => ?_, i, by omega, e⟩
  have := ids_inj h i k (by omega) hk (e.trans f)
  omega
 ·rw [if_neg q] at e
  refine ⟨fun f => ?_, i + 1, by omega, e⟩
  have := ids_inj h (i + 1) k (by omega) hk (e.trans f)
  omega
structure Qa where
 k : Int
 r : Int
 n : Int
def ltr (c t c' t' : Int) : Int × Int := if c < c' then (c', t') else (c, t)
open Classical in
noncomputable def addE (m : Nat) (E : Nat → Int) (x : Int) : Nat × (Nat → Int) := if hasE m E x then (m, E) else (m + 1, insN (plcE x E m) E x)
open Classical in
noncomputable def subE (m : Nat) (E : Nat → Int) (x : Int) : Nat × (Nat → Int) := if hasE m E x then (m - 1, delN (plcE x E m) E) else (m, E)
theorem addE_ok {n m : Nat} {E : Nat → Int} {x : Int} (h : idsOk n m E) (hx : 0 ≤ x ∧ x < (n : Int)) : idsOk n (addE m E x).1 (addE m E x).2 := by
 unfold addE
 split
 ·exact h
 ·rename_i q; exact ids_ins h hx q
theorem addE_has {m : Nat} {E : Nat → Int} {x y : Int} (h : hasE (addE m E x).1 (addE m E x).2 y) : y = x ∨ hasE m E y := by
 unfold addE at h
 split at h
 ·exact .inr h
 ·exact has_ins (plcE_le _ _ _) h
theorem subE_ok {n m : Nat} {E : Nat → Int} {x : Int} (h : idsOk n m E) : idsOk n (subE m E x).1 (subE m E x).2 := by
 unfold subE
 split
 ·rename_i q; exact ids_del h (ids_has h q).1
 ·exact h
theorem subE_has {n m : Nat} {E : Nat → Int} {x y : Int} (h0 : idsOk n m E) (h : hasE (subE m E x).1 (subE m E x).2 y) : y ≠ x ∧ hasE m E y := by
 unfold subE at h
 split at h
 ·rename_i q
  obtain ⟨a, b⟩ := ids_has h0 q
  have := has_del h0 a h
  rw [b] at this
  exact this
 ·rename_i q
  exact ⟨fun e => q (e ▸ h), h⟩
theorem ltr_ok {c t c' t' : Int} (h : mkOk c t) (h' : mkOk c' t') : mkOk (ltr c t c' t').1 (ltr c t c' t').2 := by
 unfold ltr
 split
 ·exact h'
 ·exact h
theorem ltr_ge (c t c' t' : Int) : c ≤ (ltr c t c' t').1 ∧ c' ≤ (ltr c t c' t').1 := by
 unfold ltr
 split <;> (dsimp only; omega)
def majN (n : Nat) : Nat := n / 2 + 1
def Rp.save (r : Rp) : Rp := { r with sc := r.nc, st := r.nt }
def Rp.boot (r : Rp) (back : Bool) : Rp := if back then { r with mute := true, nc := r.sc, nt := r.st, ne := 0, bc := r.sc, bt := r.st } else { r with mute := true, ne := 0, bc := r.nc, bt := r.nt }
noncomputable def Rp.told (r : Rp) (f c t : Int) : Rp := { r with ne := (addE r.ne r.E f).1, E := (addE r.ne r.E f).2, bc := (ltr r.bc r.bt c t).1, bt := (ltr r.bc r.bt c t).2 }
def Rp.wake (r : Rp) : Rp := { r with mute := false, ne := 0, nc := r.bc, nt := r.bt }
noncomputable def Rp.echo (r : Rp) (n : Nat) (f c t : Int) : Rp := if majN n ≤ (r.told f c t).ne then (r.told f c t).wake else r.told f c t
def Rp.take (r : Rp) (c t : Int) : Rp := { r with nc := (ltr r.nc r.nt c t).1, nt := (ltr r.nc r.nt c t).2 }
noncomputable def Wo.ack (x : Wo) (n : Nat) (t : Int) (k : Int) : Wo := { x with ne := (addE x.ne x.E k).1, E := (addE x.ne x.E k).2, en := if x.en = -1 ∧ majN n ≤ (addE x.ne x.E k).1 then t else x.en }
noncomputable def Wo.lose (x : Wo) (k : Int) : Wo := { x with ne := (subE x.ne x.E k).1, E := (subE x.ne x.E k).2 }
noncomputable def Ro.hear (x : Ro) (n : Nat) (t : Int) (k c u : Int) : Ro := { x with ne := (addE x.ne x.E k).1, E := (addE x.ne x.E k).2, bc := (ltr x.bc x.bt c u).1, bt := (ltr x.bc x.bt c u).2, en := if majN n ≤ (addE x.ne x.E k).1 then t else x.en }
def woNew (m : Nat) (a t : Int) : Wo := ⟨(m : Int) + 1, if a < 0 then 0 else if 1000000 < a then 1000000 else a, 0, fun _ => 0, t, -1⟩
def roNew (t : Int) : Ro := ⟨0, fun _ => 0, 0, 0, t, -1⟩
inductive ActS (s : Sv) (a : Qa) : Sv → Int → Prop
 | twice1 (h : a.k = 1) (hm : 0 < s.m) (he : (s.W (s.m - 1)).en = -1) : ActS s a s 9
 | begin (h : a.k = 1) (hm : ¬ (0 < s.m ∧ (s.W (s.m - 1)).en = -1)) : ActS s a { s with m := s.m + 1, W := updE s.W s.m (woNew s.m a.n s.t) } 0
 | ask (h : a.k = 3) : ActS s a { s with l := s.l + 1, Q := updE s.Q s.l (roNew s.t) } 0
 | away (h : a.k = 2 ∨ a.k = 4 ∨ a.k = 5 ∨ a.k = 6 ∨ a.k = 7) (hr : ¬ (0 ≤ a.r ∧ a.r < (s.n : Int))) : ActS s a s 4
 | form (h : ¬ (1 ≤ a.k ∧ a.k ≤ 7)) : ActS s a s 3
 | store0 (k : Nat) (hk : k < s.n) (hr : a.r = k) (h : a.k = 2) (hm : s.m = 0) : ActS s a s 5
 | store1 (k : Nat) (hk : k < s.n) (hr : a.r = k) (h : a.k = 2) (hm : 0 < s.m) (hu : (s.R k).mute = true) : ActS s a s 13
 | store (k : Nat) (hk : k < s.n) (hr : a.r = k) (h : a.k = 2) (hm : 0 < s.m) (hu : (s.R k).mute = false) :
   ActS s a { s with R := updE s.R k ((s.R k).take (s.W (s.m - 1)).mc (s.W (s.m - 1)).mt), W := updE s.W (s.m - 1) ((s.W (s.m - 1)).ack s.n s.t k) } 0
 | reply0 (k : Nat) (hk : k < s.n) (hr : a.r = k) (h : a.k = 4) (hq : ¬ (0 ≤ a.n ∧ a.n < (s.l : Int))) : ActS s a s 4
 | reply1 (k q : Nat) (hk : k < s.n) (hr : a.r = k) (h : a.k = 4) (hq : q < s.l) (hn : a.n = q) (hu : (s.R k).mute = true) : ActS s a s 13
 | reply2 (k q : Nat) (hk : k < s.n) (hr : a.r = k) (h : a.k = 4) (hq : q < s.l) (hn : a.n = q) (hu : (s.R k).mute = false) (hx : (s.Q q).en ≠ -1 ∨ hasE (s.Q q).ne (s.Q q).E k) : ActS s a s 9
 | reply (k q : Nat) (hk : k < s.n) (hr : a.r = k) (h : a.k = 4) (hq : q < s.l) (hn : a.n = q) (hu : (s.R k).mute = false) (he : (s.Q q).en = -1) (hx : ¬ hasE (s.Q q).ne (s.Q q).E k) :
   ActS s a { s with Q := updE s.Q q ((s.Q q).hear s.n s.t k (s.R k).nc (s.R k).nt) } 0
 | save (k : Nat) (hk : k < s.n) (hr : a.r = k) (h : a.k = 5) : ActS s a { s with R := updE s.R k (s.R k).save } 0
 | restart (k : Nat) (hk : k < s.n) (hr : a.r = k) (h : a.k = 6) (hm : ¬ (0 < s.m ∧ (s.W (s.m - 1)).en = -1)) : ActS s a { s with R := updE s.R k ((s.R k).boot (sB (a.n = 1))) } 0
 | restartW (k : Nat) (hk : k < s.n) (hr : a.r = k) (h : a.k = 6) (hm : 0 < s.m) (he : (s.W (s.m - 1)).en = -1) :
   ActS s a { s with R := updE s.R k ((s.R k).boot (sB (a.n = 1))), W := updE s.W (s.m - 1) ((s.W (s.m - 1)).lose k) } 0
 | echo0 (k : Nat) (hk : k < s.n) (hr : a.r = k) (h : a.k = 7) (hu : (s.R k).mute = false) : ActS s a s 9
 | echo1 (k : Nat) (hk : k < s.n) (hr : a.r = k) (h : a.k = 7) (hu : (s.R k).mute = true) (hf : ¬ (0 ≤ a.n ∧ a.n < (s.n : Int)) ∨ a.n = k) : ActS s a s 4
 | echo2 (k f : Nat) (hk : k < s.n) (hr : a.r = k) (h : a.k = 7) (hu : (s.R k).mute = true) (hf : f < s.n) (hn : a.n = f) (hne : f ≠ k) (hv : (s.R f).mute = true) : ActS s a s 13
 | echo3 (k f : Nat) (hk : k < s.n) (hr : a.r = k) (h : a.k = 7) (hu : (s.R k).mute = true) (hf : f < s.n) (hn : a.n = f) (hne : f ≠ k) (hv : (s.R f).mute = false) (hx : hasE (s.R k).ne (s.R k).E f) : ActS s a s 9
 | echo (k f : Nat) (hk : k < s.n) (hr : a.r = k) (h : a.k = 7) (hu : (s.R k).mute = true) (hf : f < s.n) (hn : a.n = f) (hne : f ≠ k) (hv : (s.R f).mute = false) (hx : ¬ hasE (s.R k).ne (s.R k).E f) :
   ActS s a { s with R := updE s.R k ((s.R k).echo s.n f (s.R f).nc (s.R f).nt) } 0
def StepS (s : Sv) (a : Qa) (s' : Sv) (c : Int) : Prop := (s.t = 200 ∧ s' = s ∧ c = 7) ∨ (s.t < 200 ∧ ActS { s with t := s.t + 1 } a s' c)
end Go.Proofs.Ytedncfcmhaaobaa
