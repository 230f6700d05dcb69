/-
  Texts of the proof, joined: QuM, QuS, QuT, QuD.
-/
import Derived.Test.YtedncfcmhaaobaaY23
import Derived.Test.YtedncfcmhaaobaaY24
import Derived.Test.YtedncfcmhaaobaaY06
namespace Go.Proofs.Ytedncfcmhaaobaa
open Go.ChangeShapes Go.WideShapes Go.ChangeAt Go.RowKit
set_option linter.unusedVariables false
def plcE (x : Int) : (Nat → Int) → Nat → Nat
 | _, 0 => 0
 | E, m + 1 => if E 0 < x then plcE x (fun i => E (i + 1)) m + 1 else 0
theorem plcE_le (x : Int) : ∀ m E, plcE x E m ≤ m
 | 0, _ => Nat.le_refl _
 | m + 1, E => by
  unfold plcE
  split
  ·exact Nat.succ_le_succ (plcE_le x m _)
  ·omega
theorem plcE_lt (x : Int) : ∀ m E i, i < plcE x E m → E i < x
 | 0, _, i, h => by unfold plcE at h; omega
 | m + 1, E, i, h => by
  unfold plcE at h
  split at h
  ·rename_i h0
   cases i with
   | zero => exact h0
   | succ i => exact plcE_lt x m (fun i => E (i + 1)) i (by omega)
  ·omega
theorem plcE_at (x : Int) : ∀ m E, plcE x E m < m → ¬ E (plcE x E m) < x
 | 0, _, h => by omega
 | m + 1, E, h => by
  unfold plcE at h ⊢
  split at h
  ·rename_i h0
   rw [if_pos h0]
   exact plcE_at x m (fun i => E (i + 1)) (by omega)
  ·rename_i h0
   rw [if_neg h0]
   exact h0
theorem plcE_is {x : Int} {m k : Nat} {E : Nat → Int} (hk : k ≤ m) (h : ∀ i, i < k → E i < x) (h2 : k = m ∨ ¬ E k < x) : plcE x E m = k := by
 rcases Nat.lt_trichotomy (plcE x E m) k with q | q | q
 ·exact absurd (h _ q) (plcE_at x m E (by omega))
 ·exact q
 ·have := plcE_lt x m E k q
  have := plcE_le x m E
  rcases h2 with h2 | h2
  ·omega
  ·exact absurd ‹E k < x› h2
def hasE (m : Nat) (E : Nat → Int) (x : Int) : Prop := ∃ i, i < m ∧ E i = x
def insN (k : Nat) (E : Nat → Int) (x : Int) (i : Nat) : Int := if i < k then E i else if i = k then x else E (i - 1)
def delN (k : Nat) (E : Nat → Int) (i : Nat) : Int := if i < k then E i else E (i + 1)
theorem ids_lt {n m : Nat} {E : Nat → Int} (h : idsOk n m E) : ∀ j i, i < j → j < m → E i < E j
 | 0, i, hi, _ => by omega
 | j + 1, i, hi, hj => by
  have h1 := (h (j + 1) hj).2 (by omega)
  rw [Nat.add_sub_cancel] at h1
  rcases Nat.lt_or_ge i j with q | q
  ·have := ids_lt h j i q (by omega); omega
  ·obtain rfl : i = j := by omega
   exact h1
theorem ids_has {n m : Nat} {E : Nat → Int} {x : Int} (h : idsOk n m E) (hx : hasE m E x) : plcE x E m < m ∧ E (plcE x E m) = x := by
 obtain ⟨i, hi, rfl⟩ := hx
 have e : plcE (E i) E m = i := plcE_is (by omega) (fun j hj => ids_lt h i j hj hi) (.inr (by omega))
 rw [e]
 exact ⟨hi, rfl⟩
theorem ids_ins {n m : Nat} {E : Nat → Int} {x : Int} (h : idsOk n m E) (hx : 0 ≤ x ∧ x < (n : Int)) (hn : ¬ hasE m E x) : idsOk n (m + 1) (insN (plcE x E m) E x) := by
 have k1 := plcE_le x m E
 have k2 := plcE_lt x m E
 have k3 := plcE_at x m E
 generalize plcE x E m = k at *
 intro i hi
 unfold insN
 rcases Nat.lt_trichotomy i k with q | q | q
 ·rw [if_pos q]
  refine ⟨(h i (by omega)).1, fun h0 => ?_⟩
  rw [if_pos (by omega)]
  exact (h i (by omega)).2 h0
 ·subst q
  rw [if_neg (by omega), if_pos rfl]
  refine ⟨hx, fun h0 => ?_⟩
  rw [if_pos (by omega)]
  exact k2 _ (by omega)
 ·rw [if_neg (by omega), if_neg (by omega)]
  refine ⟨(h (i - 1) (by omega)).1, fun h0 => ?_⟩
  by_cases e : i = k + 1
  ·subst e
   rw [if_neg (by omega), if_pos (by omega), Nat.add_sub_cancel]
   have a := k3 (by omega)
   have b : E k ≠ x := fun e => hn ⟨k, by omega, e⟩
   omega
  ·rw [if_neg (by omega), if_neg (by omega)]
   exact (h (i - 1) (by omega)).2 (by omega)
theorem ids_del {n m k : Nat} {E : Nat → Int} (h : idsOk n m E) (hk : k < m) : idsOk n (m - 1) (delN k E) := by
 intro i hi
 unfold delN
 by_cases q : i < k
 ·rw [if_pos q]
  refine ⟨(h i (by omega)).1, fun h0 => ?_⟩
  rw [if_pos (by omega)]
  exact (h i (by omega)).2 h0
 ·rw [if_neg q]
  refine ⟨(h (i + 1) (by omega)).1, fun h0 => ?_⟩
  by_cases e : i - 1 < k
  ·rw [if_pos e]
   exact ids_lt h (i + 1) (i - 1) (by omega) (by omega)
  ·rw [if_neg e]
   exact ids_lt h (i + 1) (i - 1 + 1) (by omega) (by omega)
structure Qa where
 k : Int
 r : Int
 n : Int
def ltr (c t c' t' : Int) : Int × Int := if c < c' then (c', t') else (c, t)
open Classical in
noncomputable def addE (m : Nat) (E : Nat → Int) (x : Int) : Nat × (Nat → Int) := if hasE m E x then (m, E) else (m + 1, insN (plcE x E m) E x)
open Classical in
noncomputable def subE (m : Nat) (E : Nat → Int) (x : Int) : Nat × (Nat → Int) := if hasE m E x then (m - 1, delN (plcE x E m) E) else (m, E)
theorem addE_ok {n m : Nat} {E : Nat → Int} {x : Int} (h : idsOk n m E) (hx : 0 ≤ x ∧ x < (n : Int)) : idsOk n (addE m E x).1 (addE m E x).2 := by
 unfold addE
 split
 ·exact h
 ·rename_i q; exact ids_ins h hx q
theorem subE_ok {n m : Nat} {E : Nat → Int} {x : Int} (h : idsOk n m E) : idsOk n (subE m E x).1 (subE m E x).2 := by
 unfold subE
 split
 ·rename_i q; exact ids_del h (ids_has h q).1
 ·exact h
theorem ltr_ok {c t c' t' : Int} (h : mkOk c t) (h' : mkOk c' t') : mkOk (ltr c t c' t').1 (ltr c t c' t').2 := by
 unfold ltr
 split
 ·exact h'
 ·exact h
def majN (n : Nat) : Nat := n / 2 + 1
def Rp.save (r : Rp) : Rp := { r with sc := r.nc, st := r.nt }
def Rp.boot (r : Rp) (back : Bool) : Rp := if back then { r with mute := true, nc := r.sc, nt := r.st, ne := 0, bc := r.sc, bt := r.st } else { r with mute := true, ne := 0, bc := r.nc, bt := r.nt }
noncomputable def Rp.told (r : Rp) (f c t : Int) : Rp := { r with ne := (addE r.ne r.E f).1, E := (addE r.ne r.E f).2, bc := (ltr r.bc r.bt c t).1, bt := (ltr r.bc r.bt c t).2 }
def Rp.wake (r : Rp) : Rp := { r with mute := false, ne := 0, nc := r.bc, nt := r.bt }
noncomputable def Rp.echo (r : Rp) (n : Nat) (f c t : Int) : Rp := if majN n ≤ (r.told f c t).ne then (r.told f c t).wake else r.told f c t
def Rp.take (r : Rp) (c t : Int) : Rp := { r with nc := (ltr r.nc r.nt c t).1, nt := (ltr r.nc r.nt c t).2 }
noncomputable def Wo.ack (x : Wo) (n : Nat) (t : Int) (k : Int) : Wo := { x with ne := (addE x.ne x.E k).1, E := (addE x.ne x.E k).2, en := if x.en = -1 ∧ majN n ≤ (addE x.ne x.E k).1 then t else x.en }
noncomputable def Wo.lose (x : Wo) (k : Int) : Wo := { x with ne := (subE x.ne x.E k).1, E := (subE x.ne x.E k).2 }
noncomputable def Ro.hear (x : Ro) (n : Nat) (t : Int) (k c u : Int) : Ro := { x with ne := (addE x.ne x.E k).1, E := (addE x.ne x.E k).2, bc := (ltr x.bc x.bt c u).1, bt := (ltr x.bc x.bt c u).2, en := if majN n ≤ (addE x.ne x.E k).1 then t else x.en }
def woNew (m : Nat) (a t : Int) : Wo := ⟨(m : Int) + 1, if a < 0 then 0 else if 1000000 < a then 1000000 else a, 0, fun _ => 0, t, -1⟩
def roNew (t : Int) : Ro := ⟨0, fun _ => 0, 0, 0, t, -1⟩
inductive ActS (s : Sv) (a : Qa) : Sv → Int → Prop
 | twice1 (h : a.k = 1) (hm : 0 < s.m) (he : (s.W (s.m - 1)).en = -1) : ActS s a s 9
 | begin (h : a.k = 1) (hm : ¬ (0 < s.m ∧ (s.W (s.m - 1)).en = -1)) : ActS s a { s with m := s.m + 1, W := updE s.W s.m (woNew s.m a.n s.t) } 0
 | ask (h : a.k = 3) : ActS s a { s with l := s.l + 1, Q := updE s.Q s.l (roNew s.t) } 0
 | away (h : a.k = 2 ∨ a.k = 4 ∨ a.k = 5 ∨ a.k = 6 ∨ a.k = 7) (hr : ¬ (0 ≤ a.r ∧ a.r < (s.n : Int))) : ActS s a s 4
 | form (h : ¬ (1 ≤ a.k ∧ a.k ≤ 7)) : ActS s a s 3
 | store0 (k : Nat) (hk : k < s.n) (hr : a.r = k) (h : a.k = 2) (hm : s.m = 0) : ActS s a s 5
 | store1 (k : Nat) (hk : k < s.n) (hr : a.r = k) (h : a.k = 2) (hm : 0 < s.m) (hu : (s.R k).mute = true) : ActS s a s 13
 | store (k : Nat) (hk : k < s.n) (hr : a.r = k) (h : a.k = 2) (hm : 0 < s.m) (hu : (s.R k).mute = false) :
   ActS s a { s with R := updE s.R k ((s.R k).take (s.W (s.m - 1)).mc (s.W (s.m - 1)).mt), W := updE s.W (s.m - 1) ((s.W (s.m - 1)).ack s.n s.t k) } 0
 | reply0 (k : Nat) (hk : k < s.n) (hr : a.r = k) (h : a.k = 4) (hq : ¬ (0 ≤ a.n ∧ a.n < (s.l : Int))) : ActS s a s 4
 | reply1 (k q : Nat) (hk : k < s.n) (hr : a.r = k) (h : a.k = 4) (hq : q < s.l) (hn : a.n = q) (hu : (s.R k).mute = true) : ActS s a s 13
 | reply2 (k q : Nat) (hk : k < s.n) (hr : a.r = k) (h : a.k = 4) (hq : q < s.l) (hn : a.n = q) (hu : (s.R k).mute = false) (hx : (s.Q q).en ≠ -1 ∨ hasE (s.Q q).ne (s.Q q).E k) : ActS s a s 9
 | reply (k q : Nat) (hk : k < s.n) (hr : a.r = k) (h : a.k = 4) (hq : q < s.l) (hn : a.n = q) (hu : (s.R k).mute = false) (he : (s.Q q).en = -1) (hx : ¬ hasE (s.Q q).ne (s.Q q).E k) :
   ActS s a { s with Q := updE s.Q q ((s.Q q).hear s.n s.t k (s.R k).nc (s.R k).nt) } 0
 | save (k : Nat) (hk : k < s.n) (hr : a.r = k) (h : a.k = 5) : ActS s a { s with R := updE s.R k (s.R k).save } 0
 | restart (k : Nat) (hk : k < s.n) (hr : a.r = k) (h : a.k = 6) (hm : ¬ (0 < s.m ∧ (s.W (s.m - 1)).en = -1)) : ActS s a { s with R := updE s.R k ((s.R k).boot (sB (a.n = 1))) } 0
 | restartW (k : Nat) (hk : k < s.n) (hr : a.r = k) (h : a.k = 6) (hm : 0 < s.m) (he : (s.W (s.m - 1)).en = -1) :
   ActS s a { s with R := updE s.R k ((s.R k).boot (sB (a.n = 1))), W := updE s.W (s.m - 1) ((s.W (s.m - 1)).lose k) } 0
 | echo0 (k : Nat) (hk : k < s.n) (hr : a.r = k) (h : a.k = 7) (hu : (s.R k).mute = false) : ActS s a s 9
 | echo1 (k : Nat) (hk : k < s.n) (hr : a.r = k) (h : a.k = 7) (hu : (s.R k).mute = true) (hf : ¬ (0 ≤ a.n ∧ a.n < (s.n : Int)) ∨ a.n = k) : ActS s a s 4
 | echo2 (k f : Nat) (hk : k < s.n) (hr : a.r = k) (h : a.k = 7) (hu : (s.R k).mute = true) (hf : f < s.n) (hn : a.n = f) (hne : f ≠ k) (hv : (s.R f).mute = true) : ActS s a s 13
 | echo3 (k f : Nat) (hk : k < s.n) (hr : a.r = k) (h : a.k = 7) (hu : (s.R k).mute = true) (hf : f < s.n) (hn : a.n = f) (hne : f ≠ k) (hv : (s.R f).mute = false) (hx : hasE (s.R k).ne (s.R k).E f) : ActS s a s 9
 | echo (k f : Nat) (hk : k < s.n) (hr : a.r = k) (h : a.k = 7) (hu : (s.R k).mute = true) (hf : f < s.n) (hn : a.n = f) (hne : f ≠ k) (hv : (s.R f).mute = false) (hx : ¬ hasE (s.R k).ne (s.R k).E f) :
   ActS s a { s with R := updE s.R k ((s.R k).echo s.n f (s.R f).nc (s.R f).nt) } 0
def StepS (s : Sv) (a : Qa) (s' : Sv) (c : Int) : Prop := (s.t = 200 ∧ s' = s ∧ c = 7) ∨ (s.t < 200 ∧ ActS { s with t := s.t + 1 } a s' c)
end Go.Proofs.Ytedncfcmhaaobaa
namespace Go.Proofs.Ytedncfcmhaaobaa
open Go.ChangeShapes Go.WideShapes Go.ChangeAt Go.RowKit
set_option linter.unusedVariables false
theorem Num.at {w : World} {a : Option Addr} {n : Nat} {E : Nat → Int} (h : Num w a n E) (hn : 0 < n) : ∃ b off, a = some ⟨b, off, none⟩ ∧ ∀ i, i < n → w.cell? ⟨b, off + i, none⟩ = some (.int .i64 (E i)) := by
 obtain ⟨b, off, rfl, hc⟩ := Els.opened h hn
 refine ⟨b, off, rfl, fun i hi => ?_⟩
 have := hc i hi 0 (by omega)
 rwa [Nat.mul_one, Nat.add_zero] at this
theorem nanS_any (x : Int) (w : World) : Calls Try.prog 115 #[.int .i64 x] w fun e w' => e = .returned (.bool false) ∧ w = w' := by
 have e0 : (x != x) = false := by simp
 go_enter Try.func115, Try.ntmps115
 go_wp2
 go_ret
 exact ⟨rfl, rfl⟩
theorem nanC_any (x : Int) (w : World) : Calls Try.prog 118 #[.int .i64 x] w fun e w' => e = .returned (.bool false) ∧ w = w' := by
 have e0 : (x != x) = false := by simp
 go_enter Try.func118, Try.ntmps118
 go_wp2
 go_ret
 exact ⟨rfl, rfl⟩
set_option maxRecDepth 100000 in
theorem lessI_any (x y : Int) (z : Bool) (hz : z = sB (x < y)) (w : World) : Calls Try.prog 114 #[.int .i64 x, .int .i64 y] w fun e w' => e = .returned (.bool z) ∧ w = w' := by
 have N : Hid (∀ (u : Int) (w : World), Calls Try.prog 118 #[.int .i64 u] w fun e w' => e = .returned (.bool false) ∧ w = w') := nanC_any
 by_cases h : x < y
 ·obtain rfl : z = true := by rw [hz]; exact sB_yes h
  have d : decide (x < y) = true := decide_eq_true h
  clear hz
  go_enter Try.func114, Try.ntmps114
  go_wp2_with fail
  refine (N.out _ _).mono ?_
  rintro e _ ⟨rfl, rfl⟩
  clear N
  go_wp2
  go_ret
  exact ⟨rfl, rfl⟩
 ·obtain rfl : z = false := by rw [hz]; exact sB_no h
  clear hz
  go_enter Try.func114, Try.ntmps114
  go_wp2_with fail
  refine (N.out _ _).mono ?_
  rintro e _ ⟨rfl, rfl⟩
  clear N
  go_wp2
  go_ret
  refine ⟨?_, rfl⟩
  show Ending.returned (.bool (decide (x < y))) = _
  rw [decide_eq_false (by omega)]
set_option maxRecDepth 100000 in
set_option maxHeartbeats 2000000 in
theorem bsInt_any (N : Nat) (a : Option Addr) (n c : Nat) (E : Nat → Int) (x : Int) (hE : idsOk N n E) (hn : n ≤ 1048576) (z : Bool) (hz : z = sB (hasE n E x)) (w : World) (h : Num w a n E) :
  Calls Try.prog 110 #[.slice a n c, .int .i64 x] w fun e w' => e = .returned (.tuple #[.int .i64 ((plcE x E n : Nat) : Int), .bool z]) ∧ w = w' := by
 obtain ⟨k, hk⟩ : ∃ k, k = plcE x E n := ⟨_, rfl⟩
 have k1 : k ≤ n := by rw [hk]; exact plcE_le x n E
 have LT : Hid (∀ m, m < n → E m < x → m < k) := fun m hm hx => by
  rcases Nat.lt_or_ge m k with q | q
  ·exact q
  ·have h1 := plcE_at x n E (by omega)
   rw [← hk] at h1
   rcases Nat.lt_or_ge k m with q2 | q2
   ·have := ids_lt hE m k q2 hm; omega
   ·obtain rfl : k = m := by omega
    exact absurd hx h1
 have GE : Hid (∀ m, m < n → ¬ E m < x → k ≤ m) := fun m hm hx => by
  rcases Nat.lt_or_ge m k with q | q
  ·rw [hk] at q
   exact absurd (plcE_lt x n E m q) hx
  ·exact q
 have HZ : Hid (z = sB (k < n ∧ E k = x)) := by
  show _ = _
  rw [hz]
  by_cases q : hasE n E x
  ·have := ids_has hE q
   rw [← hk] at this
   rw [sB_yes q, sB_yes this]
  ·rw [sB_no q, sB_no (fun u => q ⟨k, u.1, u.2⟩)]
 have LS : Hid (∀ (u y : Int) (z : Bool) (w : World), z = sB (u < y) → Calls Try.prog 114 #[.int .i64 u, .int .i64 y] w fun e w' => e = .returned (.bool z) ∧ w = w') := fun u y z w hz => lessI_any u y z hz w
 have NS : Hid (∀ (u : Int) (w : World), Calls Try.prog 115 #[.int .i64 u] w fun e w' => e = .returned (.bool false) ∧ w = w') := nanS_any
 have H : Hid (Num w a n E) := h
 rw [← hk]
 clear hz hE h hk
 go_enter Try.func110, Try.ntmps110
 go_wp2
 go_loopw [7, 8] (fun i j wr => ∃ lo hi : Nat, i = .int .i64 lo ∧ j = .int .i64 hi ∧ lo ≤ k ∧ k ≤ hi ∧ hi ≤ n ∧ wr = w) (fun i j _ => (intOf j).toNat - (intOf i).toNat)
 case atStart => exact ⟨0, n, rfl, rfl, Nat.zero_le _, k1, Nat.le_refl _, rfl⟩
 case round =>
  obtain ⟨lo, hi, rfl, rfl, h1, h2, h3, rfl⟩ := hrel
  by_cases hlt : lo < hi
  ·have hlt' : (lo : Int) < (hi : Int) := by omega
   obtain ⟨b, off, rfl, hc⟩ := H.out.at (by omega)
   obtain ⟨m, hm⟩ : ∃ m, m = (lo + hi) / 2 := ⟨_, rfl⟩
   have hm1 : lo ≤ m := by omega
   have hm2 : m < hi := by omega
   have em : ((lo : Int) + (hi : Int)) / 2 = (m : Int) := by omega
   have c0 := hc m (by omega)
   have hmn : (m : Int) < (n : Int) := by omega
   have L1 := LT.out m (by omega)
   have L2 := GE.out m (by omega)
   have MM : Hid (m = (lo + hi) / 2) := hm
   have LM := fun z => LS.out (E m) x z
   have LMH : Hid (∀ (z : Bool) (w : World), z = sB (E m < x) → Calls Try.prog 114 #[.int .i64 (E m), .int .i64 x] w fun e w' => e = .returned (.bool z) ∧ w = w') := LM
   clear hc hm LM
   by_cases hy0 : E m < x
   ·have hk1 := L1 hy0
    have LH : Hid (∀ (w : World), Calls Try.prog 114 #[.int .i64 (E m), .int .i64 x] w fun e w' => e = .returned (.bool true) ∧ w = w') := fun w => LMH.out true w (sB_yes hy0).symm
    clear L1 L2 hy0 LMH
    go_wp2_with fail
    refine (LH.out _).mono ?_
    rintro e _ ⟨rfl, rfl⟩
    clear LH c0
    go_wp2
    go_roundw
    case rel => exact ⟨m + 1, hi, by go_num, rfl, by omega, h2, h3, trivial⟩
    case measure => simp [intOf]; omega
   ·have hk1 := L2 (by omega)
    have LH : Hid (∀ (w : World), Calls Try.prog 114 #[.int .i64 (E m), .int .i64 x] w fun e w' => e = .returned (.bool false) ∧ w = w') := fun w => LMH.out false w (sB_no hy0).symm
    clear L1 L2 hy0 LMH
    go_wp2_with fail
    refine (LH.out _).mono ?_
    rintro e _ ⟨rfl, rfl⟩
    clear LH c0
    go_wp2
    go_roundw
    case rel => exact ⟨lo, m, rfl, by go_num, h1, by omega, by omega, trivial⟩
    case measure => simp [intOf]; omega
  ·obtain rfl : hi = lo := by omega
   obtain rfl : k = hi := by omega
   have hlt' : ¬ (k : Int) < (k : Int) := by omega
   by_cases hkn : k < n
   ·have hkn' : (k : Int) < (n : Int) := by omega
    obtain ⟨b, off, rfl, hc⟩ := H.out.at (by omega)
    have c0 := hc k hkn
    by_cases q : E k = x
    ·obtain rfl : z = true := by rw [HZ.out]; exact sB_yes ⟨hkn, q⟩
     rw [q] at c0
     clear hc q LS NS LT GE
     go_wp2
     go_ret2
     exact ⟨rfl, rfl⟩
    ·obtain rfl : z = false := by rw [HZ.out]; exact sB_no (fun u => q u.2)
     have NH : Hid (∀ (w : World), Calls Try.prog 115 #[.int .i64 (E k)] w fun e w' => e = .returned (.bool false) ∧ w = w') := NS.out (E k)
     have qb : (E k == x) = false := by simp; exact q
     clear hc LS NS LT GE
     go_wp2_with fail
     refine (NH.out _).mono ?_
     rintro e _ ⟨rfl, rfl⟩
     clear NH
     go_wp2
     go_ret2
     exact ⟨rfl, rfl⟩
   ·have hkn' : ¬ (k : Int) < (n : Int) := by omega
    obtain rfl : z = false := by rw [HZ.out]; exact sB_no (fun u => hkn u.1)
    clear LS NS LT GE
    go_wp2
    go_ret2
    exact ⟨rfl, rfl⟩
set_option maxRecDepth 100000 in
set_option maxHeartbeats 1000000 in
theorem ixInt_any (a : Option Addr) (n c : Nat) (E : Nat → Int) (x : Int) (hn : n ≤ 1048576) (w : World) (h : Num w a n E) :
  Calls Try.prog 112 #[.slice a n c, .int .i64 x] w fun e w' => (∃ y : Int, e = .returned (.int .i64 y) ∧ ((0 ≤ y ∧ hasE n E x) ∨ (y = -1 ∧ ¬ hasE n E x))) ∧ w = w' := by
 have H : Hid (Num w a n E) := h
 clear h
 go_enter Try.func112, Try.ntmps112
 go_wp2
 go_loopw [8] (fun i wr => ∃ k : Nat, k ≤ n ∧ i = .int .i64 k ∧ (∀ j, j < k → E j ≠ x) ∧ wr = w) (fun i _ => n - (intOf i).toNat)
 case atStart => exact ⟨0, by omega, rfl, fun j hj => by omega, rfl⟩
 case round =>
  obtain ⟨k, hk, rfl, hno, rfl⟩ := hrel
  by_cases hlt : k < n
  ·have hlt' : (k : Int) < (n : Int) := by omega
   obtain ⟨b, off, rfl, hc⟩ := H.out.at (by omega)
   have c0 := hc k hlt
   by_cases q : E k = x
   ·have Q : Hid (hasE n E x) := ⟨k, hlt, q⟩
    rw [q] at c0
    clear hc hno q
    go_wp2
    go_ret
    exact ⟨⟨k, rfl, .inl ⟨by omega, Q.out⟩⟩, rfl⟩
   ·have q0 : ¬ x = E k := fun e => q e.symm
    have qb : (x == E k) = false := by simp; exact q0
    have HN : Hid (∀ j, j < k + 1 → E j ≠ x) := fun j hj => by
     rcases Nat.lt_or_ge j k with z | z
     ·exact hno j z
     ·obtain rfl : j = k := by omega
      exact q
    clear hc hno q q0
    go_wp2
    go_roundw
    case rel => exact ⟨k + 1, by omega, by go_num, HN.out, trivial⟩
    case measure => simp [intOf]; omega
  ·have hlt' : ¬ (k : Int) < (n : Int) := by omega
   have Q : Hid (¬ hasE n E x) := fun ⟨i, hi, e⟩ => hno i (by omega) e
   clear hno
   go_wp2
   go_ret
   exact ⟨⟨-1, rfl, .inr ⟨rfl, Q.out⟩⟩, rfl⟩
set_option maxRecDepth 100000 in
theorem conInt_any (a : Option Addr) (n c : Nat) (E : Nat → Int) (x : Int) (hn : n ≤ 1048576) (z : Bool) (hz : z = sB (hasE n E x)) (w : World) (h : Num w a n E) :
  Calls Try.prog 107 #[.slice a n c, .int .i64 x] w fun e w' => e = .returned (.bool z) ∧ w = w' := by
 have IX : Hid (Calls Try.prog 112 #[.slice a n c, .int .i64 x] w fun e w' => (∃ y : Int, e = .returned (.int .i64 y) ∧ ((0 ≤ y ∧ hasE n E x) ∨ (y = -1 ∧ ¬ hasE n E x))) ∧ w = w') := ixInt_any a n c E x hn w h
 clear h
 go_enter Try.func107, Try.ntmps107
 go_wp2_with fail
 refine IX.out.mono ?_
 rintro e _ ⟨⟨y, rfl, hy⟩, rfl⟩
 clear IX
 rcases hy with ⟨y0, hh⟩ | ⟨rfl, hh⟩
 ·obtain rfl : z = true := by rw [hz]; exact sB_yes hh
  clear hz hh
  go_wp2
  go_ret
  exact ⟨rfl, rfl⟩
 ·obtain rfl : z = false := by rw [hz]; exact sB_no hh
  clear hz hh
  go_wp2
  go_ret
  exact ⟨rfl, rfl⟩
def RetJn (w : World) (B : Nat) (v : Value) (n : Nat) (E : Nat → Int) (x : Int) (e : Ending) (w' : World) : Prop := (∃ v', e = .returned v' ∧ IE w' B v' (addE n E x).1 (addE n E x).2 ∧ (v'.ownBlock = v.ownBlock ∨ ∃ g, v'.ownBlock = some g ∧ w.heap.size ≤ g)) ∧ w.grownBy w' v.ownBlock
set_option maxRecDepth 100000 in
set_option maxHeartbeats 1000000 in
theorem joined_any (N B : Nat) (a : Option Addr) (n c : Nat) (E : Nat → Int) (x : Int) (hE : idsOk N n E) (hn : n ≤ 100000) (w : World) (hB : B ≤ w.heap.size) (h : IE w B (.slice a n c) n E) :
  Calls Try.prog 105 #[.slice a n c, .int .i64 x] w fun e w' => RetJn w B (.slice a n c) n E x e w' := by
 have BS : Hid (∀ z : Bool, z = sB (hasE n E x) → Calls Try.prog 110 #[.slice a n c, .int .i64 x] w fun e w' => e = .returned (.tuple #[.int .i64 ((plcE x E n : Nat) : Int), .bool z]) ∧ w = w') := fun z hz => bsInt_any N a n c E x hE (by omega) z hz w (IE.num h)
 by_cases q : hasE n E x
 ·have B1H : Hid (Calls Try.prog 110 #[.slice a n c, .int .i64 x] w fun e w' => e = .returned (.tuple #[.int .i64 ((plcE x E n : Nat) : Int), .bool true]) ∧ w = w') := BS.out true (sB_yes q).symm
  have Q : Hid (RetJn w B (.slice a n c) n E x (.returned (.slice a n c)) w) := by
   refine ⟨⟨_, rfl, ?_, .inl rfl⟩, ⟨rfl, rfl, rfl, Nat.le_refl _, fun _ _ _ => rfl⟩⟩
   unfold addE
   rw [if_pos q]
   exact h
  clear BS h
  go_enter Try.func105, Try.ntmps105
  go_wp2_with fail
  refine B1H.out.mono ?_
  rintro e _ ⟨rfl, rfl⟩
  clear B1H
  go_wp2
  go_ret
  exact Q.out
 ·have B1H : Hid (Calls Try.prog 110 #[.slice a n c, .int .i64 x] w fun e w' => e = .returned (.tuple #[.int .i64 ((plcE x E n : Nat) : Int), .bool false]) ∧ w = w') := BS.out false (sB_no q).symm
  have hb : Below w.heap.size w (w.alloc (.cells #[.int .i64 x] 3)) := (Below.refl _ _).alloc (Nat.le_refl _) _
  have IN : Hid (Calls Try.prog 111 #[.slice a n c, .int .i64 ((plcE x E n : Nat) : Int), .slice (some ⟨w.heap.size, 0, none⟩) 1 1] (w.alloc (.cells #[.int .i64 x] 3)) fun e w' => InsIn (w.alloc (.cells #[.int .i64 x] 3)) B (.slice a n c) n (insE E (plcE x E n) x) e w') := insIn_any _ B a n c w.heap.size (plcE x E n) E x (plcE_le _ _ _) (Nat.le_trans hB hb.size) hn (EO.below h hb) (BoxN.made w x) (fun e => by have := (EO.ge h _ e).2; omega)
  have GO : Hid (∀ e w', InsIn (w.alloc (.cells #[.int .i64 x] 3)) B (.slice a n c) n (insE E (plcE x E n) x) e w' → RetJn w B (.slice a n c) n E x e w') := fun e w' ⟨⟨v', he, ho, hl⟩, hg⟩ => by
   refine ⟨⟨v', he, ?_, ?_⟩, ?_⟩
   ·unfold addE
    rw [if_neg q]
    exact ho
   ·rcases hl with hl | hl
    ·exact .inl hl
    ·exact .inr ⟨_, hl, hb.size⟩
   ·exact ⟨hg.os, hg.tape, hg.output, Nat.le_trans hb.size hg.size, fun b hbl hne => (hg.block b (Nat.lt_of_lt_of_le hbl hb.size) hne).trans (hb.block b hbl)⟩
  clear BS h hb
  generalize plcE x E n = k at *
  go_enter Try.func105, Try.ntmps105
  go_wp2_with fail
  refine B1H.out.mono ?_
  rintro e _ ⟨rfl, rfl⟩
  clear B1H
  go_wp2_with fail
  refine IN.out.mono ?_
  rintro e w' hr
  obtain ⟨⟨v', rfl, ho, hl⟩, hg⟩ := hr
  have Q : Hid (RetJn w B (.slice a n c) n E x (.returned v') w') := GO.out _ _ ⟨⟨v', rfl, ho, hl⟩, hg⟩
  clear IN GO ho hl hg
  go_wp2
  go_ret
  exact Q.out
set_option maxRecDepth 100000 in
theorem later_any (c t c' t' : Int) (w : World) : Calls Try.prog 104 #[.agg #[.int .i64 c, .int .i64 t], .agg #[.int .i64 c', .int .i64 t']] w fun e w' => e = .returned (.agg #[.int .i64 (ltr c t c' t').1, .int .i64 (ltr c t c' t').2]) ∧ Below w.heap.size w w' := by
 by_cases h : c < c'
 ·have e : ltr c t c' t' = (c', t') := by unfold ltr; rw [if_pos h]
  rw [e]
  go_enter Try.func104, Try.ntmps104
  go_wp2
  refine ret_cell (b := w.heap.size + 1 + 1) (v := .agg #[.int .i64 c', .int .i64 t']) Try.results104 rfl (by go_simp) ⟨rfl, ?_⟩
  exact (((Below.refl w.heap.size w).alloc (Nat.le_refl _) _).alloc (by simp) _).alloc (by simp; omega) _
 ·have e : ltr c t c' t' = (c, t) := by unfold ltr; rw [if_neg h]
  rw [e]
  go_enter Try.func104, Try.ntmps104
  go_wp2
  refine ret_cell (b := w.heap.size + 1 + 1) (v := .agg #[.int .i64 c, .int .i64 t]) Try.results104 rfl (by go_simp) ⟨rfl, ?_⟩
  exact (((Below.refl w.heap.size w).alloc (Nat.le_refl _) _).alloc (by simp) _).alloc (by simp; omega) _
end Go.Proofs.Ytedncfcmhaaobaa
namespace Go.Proofs.Ytedncfcmhaaobaa
open Go.ChangeShapes Go.WideShapes Go.ChangeAt Go.RowKit
set_option linter.unusedVariables false
set_option maxRecDepth 100000 in
theorem majority_v (ra : Option Addr) (n cr : Nat) (t vw vq : Value) (la : Option Addr) (m lc : Nat) (hn : 1 ≤ n ∧ n ≤ 7) (hm : m ≤ 1000000) (z : Bool) (hz : z = sB (majN n ≤ m)) (w : World) :
  Calls Try.prog 106 #[.agg #[.slice ra n cr, t, vw, vq], .slice la m lc] w fun e w' => e = .returned (.bool z) ∧ Below w.heap.size w w' := by
 have QS : Hid (∀ w : World, Calls Try.prog 51 #[.int .i64 (n : Int)] w fun e w' => e = .returned (.tuple #[.int .i64 ((majN n : Nat) : Int), .int .i64 0]) ∧ w = w') := fun w => by
  have h := implQs_yes (n : Int) (by omega) w
  rwa [show (n : Int) / 2 + 1 = ((majN n : Nat) : Int) by unfold majN; omega] at h
 have mj : majN n ≤ 4 := by unfold majN; omega
 generalize majN n = q at *
 have W1 : Hid (Below w.heap.size w (w.alloc (.cells #[.slice ra n cr, t, vw, vq] 28))) := (Below.refl w.heap.size w).alloc (Nat.le_refl _) _
 by_cases h : q ≤ m
 ·obtain rfl : z = true := hz.trans (sB_yes h)
  have h' : (q : Int) ≤ (m : Int) := by omega
  clear hz
  go_enter Try.func106, Try.ntmps106
  go_wp2_with fail
  refine (QS.out _).mono ?_
  rintro e _ ⟨rfl, rfl⟩
  clear QS
  go_wp2
  go_ret
  exact ⟨rfl, W1.out⟩
 ·obtain rfl : z = false := hz.trans (sB_no h)
  have h' : ¬ (q : Int) ≤ (m : Int) := by omega
  clear hz
  go_enter Try.func106, Try.ntmps106
  go_wp2_with fail
  refine (QS.out _).mono ?_
  rintro e _ ⟨rfl, rfl⟩
  clear QS
  go_wp2
  go_ret
  exact ⟨rfl, W1.out⟩
set_option maxRecDepth 100000 in
set_option maxHeartbeats 1000000 in
theorem l09Has_any (a : Option Addr) (n c : Nat) (E : Nat → Int) (x : Int) (hn : n ≤ 1048576) (z : Bool) (hz : z = sB (hasE n E x)) (w : World) (h : Num w a n E) :
  Calls Try.prog 97 #[.slice a n c, .int .i64 x] w fun e w' => e = .returned (.bool z) ∧ w = w' := by
 have H : Hid (Num w a n E) := h
 have HZ : Hid (z = sB (hasE n E x)) := hz
 clear h hz
 go_enter Try.func97, Try.ntmps97
 go_wp2
 go_loopw [5] (fun i wr => ∃ k : Nat, k ≤ n ∧ i = .int .i64 k ∧ (∀ j, j < k → E j ≠ x) ∧ wr = w) (fun i _ => n - (intOf i).toNat)
 case atStart => exact ⟨0, by omega, rfl, fun j hj => by omega, rfl⟩
 case round =>
  obtain ⟨k, hk, rfl, hno, rfl⟩ := hrel
  by_cases hlt : k < n
  ·have hlt' : (k : Int) < (n : Int) := by omega
   obtain ⟨b, off, rfl, hc⟩ := H.out.at (by omega)
   have c0 := hc k hlt
   by_cases q : E k = x
   ·obtain rfl : z = true := HZ.out.trans (sB_yes ⟨k, hlt, q⟩)
    rw [q] at c0
    clear hc hno q
    go_wp2
    go_ret
    exact ⟨rfl, rfl⟩
   ·have qb : (E k == x) = false := by simp; exact q
    have HN : Hid (∀ j, j < k + 1 → E j ≠ x) := fun j hj => by
     rcases Nat.lt_or_ge j k with z | z
     ·exact hno j z
     ·obtain rfl : j = k := by omega
      exact q
    clear hc hno q
    go_wp2
    go_roundw
    case rel => exact ⟨k + 1, by omega, by go_num, HN.out, trivial⟩
    case measure => simp [intOf]; omega
  ·have hlt' : ¬ (k : Int) < (n : Int) := by omega
   obtain rfl : z = false := HZ.out.trans (sB_no (fun ⟨i, hi, e⟩ => hno i (by omega) e))
   clear hno
   go_wp2
   go_ret
   exact ⟨rfl, rfl⟩
set_option maxRecDepth 100000 in
theorem l09Later_any (c t c' t' : Int) (w : World) : Calls Try.prog 99 #[.agg #[.int .i64 c, .int .i64 t], .agg #[.int .i64 c', .int .i64 t']] w fun e w' => e = .returned (.agg #[.int .i64 (ltr c t c' t').1, .int .i64 (ltr c t c' t').2]) ∧ Below w.heap.size w w' := by
 by_cases h : c < c'
 ·have e : ltr c t c' t' = (c', t') := by unfold ltr; rw [if_pos h]
  rw [e]
  go_enter Try.func99, Try.ntmps99
  go_wp2
  refine ret_cell (b := w.heap.size + 1 + 1) (v := .agg #[.int .i64 c', .int .i64 t']) Try.results99 rfl (by go_simp) ⟨rfl, ?_⟩
  exact (((Below.refl w.heap.size w).alloc (Nat.le_refl _) _).alloc (by simp) _).alloc (by simp; omega) _
 ·have e : ltr c t c' t' = (c, t) := by unfold ltr; rw [if_neg h]
  rw [e]
  go_enter Try.func99, Try.ntmps99
  go_wp2
  refine ret_cell (b := w.heap.size + 1 + 1) (v := .agg #[.int .i64 c, .int .i64 t]) Try.results99 rfl (by go_simp) ⟨rfl, ?_⟩
  exact (((Below.refl w.heap.size w).alloc (Nat.le_refl _) _).alloc (by simp) _).alloc (by simp; omega) _
theorem subE_miss {k : Nat} {E : Nat → Int} {x : Int} (h : ¬ hasE k E x) : subE k E x = (k, E) := by unfold subE; rw [if_neg h]
theorem subE_ne {n k : Nat} {E : Nat → Int} {x : Int} (h : idsOk n (k + 1) E) (hx : E k ≠ x) : (subE (k + 1) E x).1 = (subE k E x).1 + 1 ∧ ∀ i, i < (subE k E x).1 + 1 → updE (subE k E x).2 (subE k E x).1 (E k) i = (subE (k + 1) E x).2 i := by
 have h0 : idsOk n k E := fun i hi => h i (by omega)
 by_cases q : hasE k E x
 ·have q1 : hasE (k + 1) E x := by obtain ⟨i, hi, e⟩ := q; exact ⟨i, by omega, e⟩
  obtain ⟨a, b⟩ := ids_has h0 q
  have ep : plcE x E (k + 1) = plcE x E k := plcE_is (by omega) (fun i hi => plcE_lt x k E i hi) (.inr (by omega))
  have e1 : subE k E x = (k - 1, delN (plcE x E k) E) := by unfold subE; rw [if_pos q]
  have e2 : subE (k + 1) E x = (k, delN (plcE x E k) E) := by unfold subE; rw [if_pos q1, ep]; rfl
  rw [e1, e2]
  refine ⟨by dsimp only; omega, fun i hi => ?_⟩
  dsimp only at hi ⊢
  unfold updE
  by_cases e : i = k - 1
  ·rw [if_pos e]
   unfold delN
   rw [if_neg (by omega), show i + 1 = k by omega]
  ·rw [if_neg e]
 ·have q1 : ¬ hasE (k + 1) E x := fun ⟨i, hi, e⟩ => by
   rcases Nat.lt_or_ge i k with z | z
   ·exact q ⟨i, z, e⟩
   ·obtain rfl : i = k := by omega
    exact hx e
  rw [subE_miss q, subE_miss q1]
  refine ⟨rfl, fun i hi => ?_⟩
  unfold updE
  dsimp only
  by_cases e : i = k
  ·rw [if_pos e, e]
  ·rw [if_neg e]
theorem subE_eq {n k : Nat} {E : Nat → Int} (h : idsOk n (k + 1) E) : subE k E (E k) = (k, E) ∧ (subE (k + 1) E (E k)).1 = k ∧ ∀ i, i < k → (subE (k + 1) E (E k)).2 i = E i := by
 have q : ¬ hasE k E (E k) := fun ⟨i, hi, e⟩ => by have := ids_lt h k i hi (by omega); omega
 have q1 : hasE (k + 1) E (E k) := ⟨k, by omega, rfl⟩
 have ep : plcE (E k) E (k + 1) = k := plcE_is (by omega) (fun i hi => ids_lt h k i hi (by omega)) (.inr (by omega))
 have e2 : subE (k + 1) E (E k) = (k, delN k E) := by unfold subE; rw [if_pos q1, ep]; rfl
 refine ⟨subE_miss q, by rw [e2], fun i hi => ?_⟩
 rw [e2]
 show delN k E i = E i
 unfold delN
 rw [if_pos hi]
set_option maxRecDepth 100000 in
set_option maxHeartbeats 2000000 in
theorem l09Without_any (N : Nat) (a : Option Addr) (n c : Nat) (E : Nat → Int) (x : Int) (hE : idsOk N n E) (hn : n ≤ 1000) (w : World) (h : Num w a n E) :
  Calls Try.prog 96 #[.slice a n c, .int .i64 x] w fun e w' => (∃ b d, e = .returned (.slice b (subE n E x).1 d) ∧ IE w' w.heap.size (.slice b (subE n E x).1 d) (subE n E x).1 (subE n E x).2) ∧ Below w.heap.size w w' := by
 have H : Hid (Num w a n E) := h
 have HE : Hid (idsOk N n E) := hE
 have W1 : Hid (Below w.heap.size w (w.alloc (.cells #[] 3))) := (Below.refl _ _).alloc (Nat.le_refl _) _
 have L0 : Hid (IE (w.alloc (.cells #[] 3)) w.heap.size (.slice (some ⟨w.heap.size, 0, none⟩) 0 0) (subE 0 E x).1 (subE 0 E x).2) := by
  show IE _ _ _ _ _
  rw [subE_miss (fun ⟨i, hi, _⟩ => by omega)]
  exact IE.lit w _ (Nat.le_refl _) _
 clear h hE
 go_enter Try.func96, Try.ntmps96
 go_wp2
 generalize (w.alloc (.cells #[] 3)) = v at *
 generalize hv0 : Value.slice (some ⟨w.heap.size, 0, none⟩) 0 0 = v0 at *
 clear hv0
 go_loopw [5, 6] (fun l i wr => ∃ k : Nat, k ≤ n ∧ i = .int .i64 k ∧ IE wr w.heap.size l (subE k E x).1 (subE k E x).2 ∧ Below w.heap.size w wr) (fun _ i _ => n - (intOf i).toNat)
 case atStart => exact ⟨0, by omega, rfl, L0.out, W1.out⟩
 case round =>
  clear L0 W1
  obtain ⟨k, hk, rfl, L, hb⟩ := hrel
  obtain ⟨pa, pc, rfl⟩ := EO.form L
  have HB : Hid (Below w.heap.size w wr) := hb
  by_cases hlt : k < n
  ·have hlt' : (k : Int) < (n : Int) := by omega
   obtain ⟨b, off, rfl, hc⟩ := (H.out.below hb).at (by omega)
   have c0 := hc k hlt
   have hE1 : idsOk N (k + 1) E := fun i hi => HE.out i (by omega)
   by_cases q : E k = x
   ·have S1 := subE_eq hE1
    rw [q] at S1
    have LN : Hid (IE wr w.heap.size (.slice pa (subE k E x).1 pc) (subE (k + 1) E x).1 (subE (k + 1) E x).2) := by
     show IE _ _ _ _ _
     rw [S1.2.1]
     rw [S1.1] at L ⊢
     exact IE.congr L (fun i hi => (S1.2.2 i hi).symm)
    rw [q] at c0
    have qb : (x != x) = false := by simp
    clear hc L S1 hb q
    go_wp2
    go_roundw
    case rel => exact ⟨k + 1, by omega, by go_num, LN.out, HB.out⟩
    case measure => simp [intOf]; omega
   ·obtain ⟨s1, s2⟩ := subE_ne hE1 q
    have qb : (E k != x) = true := by simp; exact q
    have hA : Below wr.heap.size wr (wr.alloc (.cells #[.int .i64 (E k)] 3)) := (Below.refl _ _).alloc (Nat.le_refl _) _
    have hsz := HB.out.size
    have hle : (subE k E x).1 ≤ 1000 := by
     have : (subE k E x).1 ≤ k := by unfold subE; split <;> (dsimp only; omega)
     omega
    obtain ⟨v9, w4, hr9, ho9, hg, -⟩ := appInI (wr.alloc (.cells #[.int .i64 (E k)] 3)) w.heap.size (.slice pa (subE k E x).1 pc) (subE k E x).1 wr.heap.size (subE k E x).2 (E k) (Nat.le_trans hsz hA.size) (by omega) (EO.below L hA) (fun j hj => by
     obtain rfl : j = 0 := by omega
     exact (BoxN.made wr (E k)).c0)
    have BW : Below w.heap.size w w4 := (HB.out.trans (hA.mono hsz)).trans ((Below.refl _ _).grown hg (Nat.le_trans hsz hA.size) (fun y hy => (EO.ge L y hy).1))
    have LN : Hid (IE w4 w.heap.size v9 (subE (k + 1) E x).1 (subE (k + 1) E x).2) := by
     show IE _ _ _ _ _
     rw [s1]
     exact IE.congr ho9 s2
    have BH : Hid (Below w.heap.size w w4) := BW
    have HAP : Hid _ := hr9
    generalize (subE k E x).1 = p at *
    clear hc L hb HB hA ho9 hg BW s1 s2 hr9 hsz hle
    go_wp2_with (at_builtin; refine Lib.wpList_append_run _ rfl (.tmp 20) (.tmp 25) _ _ rfl _ _ rfl rfl _ _ (HAP.out _) ?_)
    go_roundw
    case rel => exact ⟨k + 1, by omega, by go_num, LN.out, BH.out⟩
    case measure => simp [intOf]; omega
  ·have hlt' : ¬ (k : Int) < (n : Int) := by omega
   obtain rfl : n = k := by omega
   have Q : Hid (∃ b d, (Ending.returned (.slice pa (subE n E x).1 pc)) = .returned (.slice b (subE n E x).1 d) ∧ IE wr w.heap.size (.slice b (subE n E x).1 d) (subE n E x).1 (subE n E x).2) := ⟨pa, pc, rfl, L⟩
   clear L hb
   go_wp2
   go_ret
   exact ⟨Q.out, HB.out⟩
end Go.Proofs.Ytedncfcmhaaobaa
namespace Go.Proofs.Ytedncfcmhaaobaa
open Go.ChangeShapes Go.WideShapes Go.ChangeAt Go.RowKit
set_option linter.unusedVariables false
theorem EO.cutD {w : World} {B : Nat} {t : TypeId} {s g n c : Nat} {F : Nat → Nat → Value} (h : EO w B t s (.slice (some ⟨g, 0, none⟩) n c) n F) {m : Nat} (hm : m ≤ n) : EO w B t s (.slice (some ⟨g, 0, none⟩) m c) m F := by
 have hx : elv s m F = (elv s n F).take (m * s) := by
  obtain ⟨k, rfl⟩ : ∃ k, n = m + k := ⟨n - m, by omega⟩
  rw [elv_cat s m F (fun i => F (m + i)) F (fun _ _ => rfl) (fun _ => rfl) k, List.take_left' (elv_length _ _ _)]
 unfold EO at h ⊢
 obtain ⟨hl, ⟨h1, _⟩ | ⟨g', cap, cur, hv, hB, hh, hn, hmx, hcs, htk⟩⟩ := h
 ·cases h1
 ·cases hv
  refine ⟨by rw [elv_length], .inr ⟨g, c, cur, rfl, hB, hh, by omega, hmx, hcs, ?_⟩⟩
  rw [hx, ← htk, List.take_take, Nat.min_eq_left (Nat.mul_le_mul_right s hm)]
def delV (F : Nat → Int) (j r t : Nat) : Int := if t < j then F t else if t + 1 < r then F (t + 1) else F t
theorem delV_start (F : Nat → Int) (j t : Nat) : delV F j (j + 1) t = F t := by
 unfold delV
 split
 ·rfl
 ·rw [if_neg (by omega)]
theorem delV_step (F : Nat → Int) (j r : Nat) (h : j < r) (t : Nat) : updE (delV F j r) (r - 1) (F r) t = delV F j (r + 1) t := by
 unfold updE delV
 by_cases e : t = r - 1
 ·subst e
  rw [if_pos rfl, if_neg (by omega), if_pos (by omega), show r - 1 + 1 = r by omega]
 ·rw [if_neg e]
  by_cases g : t < j
  ·rw [if_pos g, if_pos g]
  ·rw [if_neg g, if_neg g]
   by_cases g2 : t + 1 < r
   ·rw [if_pos g2, if_pos (by omega)]
   ·rw [if_neg g2, if_neg (by omega)]
theorem delV_at (F : Nat → Int) (j r : Nat) (h : j < r) : delV F j r r = F r := by
 unfold delV
 rw [if_neg (by omega), if_neg (by omega)]
theorem delV_end (F : Nat → Int) (j n i : Nat) (hi : i < n - 1) : delV F j n i = delN j F i := by
 unfold delV delN
 by_cases g : i < j
 ·rw [if_pos g, if_pos g]
 ·rw [if_neg g, if_neg g, if_pos (by omega)]
theorem IE.setI {w : World} {B g n c : Nat} {G : Nat → Int} (h : IE w B (.slice (some ⟨g, 0, none⟩) n c) n G) {k : Nat} (hk : k < n) (x : Int) :
  IE (w.setCell ⟨g, k, none⟩ (.int .i64 x)) B (.slice (some ⟨g, 0, none⟩) n c) n (updE G k x) := by
 have h1 := EO.set h (k := k) (l := 0) hk (by omega) (.int .i64 x)
 rw [Nat.add_zero, Nat.mul_one] at h1
 refine EO.congr h1 (fun i hi j hj => ?_)
 obtain rfl : j = 0 := by omega
 unfold setF inF updE
 by_cases e : i = k
 ·subst e; simp
 ·simp [e]
theorem IE.cell {w : World} {B g n c : Nat} {G : Nat → Int} (h : IE w B (.slice (some ⟨g, 0, none⟩) n c) n G) (i : Nat) (hi : i < n) : w.cell? ⟨g, i, none⟩ = some (.int .i64 (G i)) ∧ w.frozen? ⟨g, i, none⟩ = false := by
 obtain ⟨gg, hr, _⟩ := EO.rowE h
 have ha := hr.a (by omega)
 cases ha
 have h1 := hr.c i hi 0 (by omega)
 have h2 := hr.z i (by omega)
 rw [Nat.mul_one, Nat.add_zero] at h1
 exact ⟨h1, h2⟩
theorem clearI1 (w : World) (g k c n : Nat) (G : Nat → Int) (B cc : Nat) (h : IE w B (.slice (some ⟨g, 0, none⟩) n cc) n G) (hk : k < n) (ty : TypeId) :
  (Builtin.clear_ #[29] ty #[.slice (some ⟨g, k, none⟩) 1 c]).run Try.prog w = .ok (.tuple #[]) (w.setCell ⟨g, k, none⟩ (.int .i64 0)) := by
 obtain ⟨i, hi, hz, hsz, hby⟩ := info_parts Try.infoInE
 obtain ⟨c0, f0⟩ := IE.cell h k hk
 have hst := run_storeCells_cells (P := Try.prog) g k [.int .i64 0] 0 w (fun j hj => by
  obtain rfl : j = 0 := by simpa using hj
  rw [Nat.add_zero, c0]; rfl) (fun j hj => by
  obtain rfl : j = 0 := by simpa using hj
  rw [Nat.add_zero]; exact f0) (by
   intro v hv
   rw [List.mem_singleton.1 hv]; rfl)
 have hzc : (Builtin.zeroCells (Value.int .i64 0).cells 1).toList = [.int .i64 0] := by kernel_rfl
 have hv : ∀ w, (zeroValue 3).run Try.prog w = .ok (.int .i64 0) w := fun w => by
  simp [zeroValue, typeInfo, hi, hz]
 simp only [Nat.add_zero] at hst
 simp [Builtin.clear_, run_underlying Try.underlying29, hv, hzc, hst]
 rfl
set_option maxRecDepth 100000 in
theorem delI (y x : Int) (Bp : Nat) (w : World) (hp : w.cell? ⟨Bp, 0, none⟩ = some (.int .i64 x)) (z : Bool) (hz : z = sB (y = x)) :
  Calls Try.prog 109 #[.int .i64 y, .pointer (some ⟨Bp, 0, none⟩)] w fun e w' => e = .returned (.bool z) ∧ w = w' := by
 by_cases h : y = x
 ·obtain rfl : z = true := hz.trans (sB_yes h)
  subst h
  clear hz
  go_enter Try.func109, Try.ntmps109
  go_wp2
  go_ret
  exact ⟨by simp, rfl⟩
 ·obtain rfl : z = false := hz.trans (sB_no h)
  have d : (y == x) = false := by simp; exact h
  clear hz
  go_enter Try.func109, Try.ntmps109
  go_wp2
  go_ret
  exact ⟨rfl, rfl⟩
set_option maxRecDepth 100000 in
set_option maxHeartbeats 1000000 in
theorem idxI (a : Option Addr) (n c : Nat) (E : Nat → Int) (x : Int) (Bp : Nat) (hn : n ≤ 1048576) (w : World) (hp : w.cell? ⟨Bp, 0, none⟩ = some (.int .i64 x)) (h : Num w a n E) :
  Calls Try.prog 113 #[.slice a n c, .func (.func 109) #[] #[.pointer (some ⟨Bp, 0, none⟩)]] w fun e w' => (∃ y : Int, e = .returned (.int .i64 y) ∧ ((∃ j : Nat, y = (j : Int) ∧ j < n ∧ E j = x ∧ ∀ i, i < j → E i ≠ x) ∨ (y = -1 ∧ ¬ hasE n E x))) ∧ w = w' := by
 have H : Hid (Num w a n E) := h
 have HP : Hid (w.cell? ⟨Bp, 0, none⟩ = some (.int .i64 x)) := hp
 clear h hp
 go_enter Try.func113, Try.ntmps113
 go_wp2
 go_loopw [8] (fun i wr => ∃ k : Nat, k ≤ n ∧ i = .int .i64 k ∧ (∀ j, j < k → E j ≠ x) ∧ wr = w) (fun i _ => n - (intOf i).toNat)
 case atStart => exact ⟨0, by omega, rfl, fun j hj => by omega, rfl⟩
 case round =>
  obtain ⟨k, hk, rfl, hno, rfl⟩ := hrel
  have HN : Hid (∀ j, j < k → E j ≠ x) := hno
  clear hno
  by_cases hlt : k < n
  ·have hlt' : (k : Int) < (n : Int) := by omega
   obtain ⟨b, off, rfl, hc⟩ := H.out.at (by omega)
   have c0 := hc k hlt
   have DL : Hid (∀ z : Bool, z = sB (E k = x) → Calls Try.prog 109 #[.int .i64 (E k), .pointer (some ⟨Bp, 0, none⟩)] wr fun e w' => e = .returned (.bool z) ∧ wr = w') := fun z hz => delI (E k) x Bp wr HP.out z hz
   clear hc
   by_cases q : E k = x
   ·have D1 : Hid (Calls Try.prog 109 #[.int .i64 (E k), .pointer (some ⟨Bp, 0, none⟩)] wr fun e w' => e = .returned (.bool true) ∧ wr = w') := DL.out true (sB_yes q).symm
    have Q : Hid (E k = x) := q
    clear DL q
    go_wp2_with fail
    refine D1.out.mono ?_
    rintro e _ ⟨rfl, rfl⟩
    clear D1
    go_wp2
    go_ret
    exact ⟨⟨k, rfl, .inl ⟨k, rfl, hlt, Q.out, HN.out⟩⟩, rfl⟩
   ·have D1 : Hid (Calls Try.prog 109 #[.int .i64 (E k), .pointer (some ⟨Bp, 0, none⟩)] wr fun e w' => e = .returned (.bool false) ∧ wr = w') := DL.out false (sB_no q).symm
    have HN2 : Hid (∀ j, j < k + 1 → E j ≠ x) := fun j hj => by
     rcases Nat.lt_or_ge j k with z | z
     ·exact HN.out j z
     ·obtain rfl : j = k := by omega
      exact q
    clear DL q HN
    go_wp2_with fail
    refine D1.out.mono ?_
    rintro e _ ⟨rfl, rfl⟩
    clear D1
    go_wp2
    go_roundw
    case rel => exact ⟨k + 1, by omega, by go_num, HN2.out, trivial⟩
    case measure => simp [intOf]; omega
  ·have hlt' : ¬ (k : Int) < (n : Int) := by omega
   have Q : Hid (¬ hasE n E x) := fun ⟨i, hi, e⟩ => HN.out i (by omega) e
   clear HN
   go_wp2
   go_ret
   exact ⟨⟨-1, rfl, .inr ⟨rfl, Q.out⟩⟩, rfl⟩
def RetDl (w : World) (B : Nat) (a : Option Addr) (n c : Nat) (E : Nat → Int) (x : Int) (e : Ending) (w' : World) : Prop := (e = .returned (.slice a (subE n E x).1 c) ∧ IE w' B (.slice a (subE n E x).1 c) (subE n E x).1 (subE n E x).2) ∧ w.grownBy w' (Value.slice a n c).ownBlock
set_option maxRecDepth 100000 in
set_option maxHeartbeats 4000000 in
theorem dropI_any (N B : Nat) (a : Option Addr) (n c : Nat) (E : Nat → Int) (x : Int) (Bp : Nat) (hE : idsOk N n E) (hn : n ≤ 100000) (w : World) (hp : w.cell? ⟨Bp, 0, none⟩ = some (.int .i64 x)) (hne : ∀ g, (Value.slice a n c).ownBlock = some g → Bp ≠ g) (h : IE w B (.slice a n c) n E) :
  Calls Try.prog 108 #[.slice a n c, .func (.func 109) #[] #[.pointer (some ⟨Bp, 0, none⟩)]] w fun e w' => RetDl w B a n c E x e w' := by
 have IX : Hid (Calls Try.prog 113 #[.slice a n c, .func (.func 109) #[] #[.pointer (some ⟨Bp, 0, none⟩)]] w fun e w' => (∃ y : Int, e = .returned (.int .i64 y) ∧ ((∃ j : Nat, y = (j : Int) ∧ j < n ∧ E j = x ∧ ∀ i, i < j → E i ≠ x) ∨ (y = -1 ∧ ¬ hasE n E x))) ∧ w = w') := idxI a n c E x Bp (by omega) w hp (IE.num h)
 have HE : Hid (idsOk N n E) := hE
 have HP : Hid (w.cell? ⟨Bp, 0, none⟩ = some (.int .i64 x)) := hp
 have E0 : Hid (IE w B (.slice a n c) n E) := h
 have HNE : Hid (∀ g, (Value.slice a n c).ownBlock = some g → Bp ≠ g) := hne
 have hnc := (EO.slp h).le
 clear h hp hE hne
 go_enter Try.func108, Try.ntmps108
 go_wp2_with fail
 refine IX.out.mono ?_
 rintro e _ ⟨⟨y, rfl, hy⟩, rfl⟩
 clear IX
 rcases hy with ⟨j, rfl, hj, ej, hf⟩ | ⟨rfl, hno⟩
 ·have hg1 : ((j : Int) == -1) = false := by simp
  obtain ⟨g, rfl⟩ : ∃ g, a = some ⟨g, 0, none⟩ := by
   obtain ⟨hl, ⟨h1, h2⟩ | ⟨g, cap, cur, hv, _⟩⟩ := E0.out
   ·omega
   ·cases hv; exact ⟨g, rfl⟩
  have EJ : Hid (E j = x) := ej
  have NX : Hid (∀ i, j < i → i < n → E i ≠ x) := fun i hi hin e => by have := ids_lt HE.out i j hi hin; rw [EJ.out, e] at this; omega
  have SL : Hid (SlP (some ⟨g, 0, none⟩) n c) := EO.slp E0.out
  have GP : Hid (Bp ≠ g) := HNE.out g rfl
  have SUB : Hid (subE n E x = (n - 1, delN j E)) := by
   show _ = _
   have q : hasE n E x := ⟨j, hj, EJ.out⟩
   have ep : plcE x E n = j := plcE_is (by omega) (fun i hi => by have := ids_lt HE.out j i hi hj; rw [EJ.out] at this; exact this) (.inr (by rw [EJ.out]; omega))
   unfold subE
   rw [if_pos q, ep]
  clear ej hf HNE HE
  go_wp2
  go_loopw [5, 6] (fun i r wr => ∃ k : Nat, j < k ∧ k ≤ n ∧ i = .int .i64 ((k : Int) - 1) ∧ r = .int .i64 k ∧ IE wr B (.slice (some ⟨g, 0, none⟩) n c) n (delV E j k) ∧ OnlyB g w wr) (fun _ r _ => n - (intOf r).toNat)
  case atStart => exact ⟨j + 1, by omega, by omega, by go_num, by go_num, IE.congr E0.out (fun i _ => (delV_start E j i).symm), OnlyB.refl g w⟩
  case round =>
   obtain ⟨k, hjk, hk, rfl, rfl, hI, hb⟩ := hrel
   have HI : Hid (IE wr B (.slice (some ⟨g, 0, none⟩) n c) n (delV E j k)) := hI
   have HB : Hid (OnlyB g w wr) := hb
   clear hI hb
   by_cases hlt : k < n
   ·have hlt' : (k : Int) < (n : Int) := by omega
    have c0 := (IE.cell HI.out k hlt).1
    rw [delV_at E j k hjk] at c0
    have DL : Hid (Calls Try.prog 109 #[.int .i64 (E k), .pointer (some ⟨Bp, 0, none⟩)] wr fun e w' => e = .returned (.bool false) ∧ wr = w') := delI (E k) x Bp wr (by
     have := HB.out.block Bp (strBlock HP.out) GP.out
     rw [World.cell?_of_block (w := w) this]
     exact HP.out) false (sB_no (NX.out k hjk hlt)).symm
    go_wp2_with fail
    refine DL.out.mono ?_
    rintro e _ ⟨rfl, rfl⟩
    clear DL c0
    have e1 : (k : Int) - 1 = ((k - 1 : Nat) : Int) := by omega
    rw [e1]
    have hk1 : ((k - 1 : Nat) : Int) < (n : Int) := by omega
    obtain ⟨t0, u0⟩ := IE.cell HI.out (k - 1) (by omega)
    have E3 : Hid (IE (wr.setCell ⟨g, k - 1, none⟩ (.int .i64 (E k))) B (.slice (some ⟨g, 0, none⟩) n c) n (delV E j (k + 1))) := IE.congr (IE.setI HI.out (show k - 1 < n by omega) (E k)) (fun i _ => delV_step E j k hjk i)
    have B3 : Hid (OnlyB g w (wr.setCell ⟨g, k - 1, none⟩ (.int .i64 (E k)))) := HB.out.setCell (k - 1) _
    clear HI HB
    go_wp2
    go_roundw
    case rel => exact ⟨k + 1, by omega, by omega, by go_num, by go_num, E3.out, B3.out⟩
    case measure => simp [intOf]; omega
   ·obtain rfl : n = k := by omega
    have hlt' : ¬ (n : Int) < (n : Int) := by omega
    have e1 : (n : Int) - 1 = ((n - 1 : Nat) : Int) := by omega
    rw [e1]
    have CL := fun cc ty => clearI1 wr g (n - 1) cc n _ B c HI.out (by omega) ty
    have RF : ∀ w : World, (Instr.slice 29 (.slice (some ⟨g, 0, none⟩) n c) (some (.int .i64 ((n - 1 : Nat) : Int))) none none).run Try.prog w = .ok (.slice (some ⟨g, n - 1, none⟩) 1 (c - (n - 1))) w := fun w => by
     have := run_cut_from 29 (P := Try.prog) rfl 1 (fun w => by kernel_rfl) SL.out (n - 1) (by omega) w
     rw [this]
     unfold cutA
     rw [if_neg (by omega), show n - (n - 1) = 1 by omega]
     simp [Addr.add]
     omega
    have RT : ∀ w : World, (Instr.slice 29 (.slice (some ⟨g, 0, none⟩) n c) none (some (.int .i64 ((n - 1 : Nat) : Int))) none).run Try.prog w = .ok (.slice (some ⟨g, 0, none⟩) (n - 1) c) w := fun w => run_cut_to 29 rfl 1 (fun w => by kernel_rfl) SL.out (n - 1) (by omega) w
    have Q : Hid (RetDl w B (some ⟨g, 0, none⟩) n c E x (.returned (.slice (some ⟨g, 0, none⟩) (n - 1) c)) (wr.setCell ⟨g, n - 1, none⟩ (.int .i64 0))) := by
     show RetDl _ _ _ _ _ _ _ _ _
     unfold RetDl
     rw [SUB.out]
     have h1 : IE (wr.setCell ⟨g, n - 1, none⟩ (.int .i64 0)) B (.slice (some ⟨g, 0, none⟩) (n - 1) c) (n - 1) (delN j E) := IE.congr (EO.cutD (IE.setI HI.out (show n - 1 < n by omega) 0) (show n - 1 ≤ n by omega)) (fun i hi => by rw [updE_ne _ _ (by omega)]; exact delV_end E j n i hi)
     have h2 : OnlyB g w (wr.setCell ⟨g, n - 1, none⟩ (.int .i64 0)) := HB.out.setCell (n - 1) _
     exact ⟨⟨rfl, h1⟩, ⟨h2.os, h2.tape, h2.output, h2.size, fun b hb hn => h2.block b hb (fun e => hn (by rw [e]; rfl))⟩⟩
    clear HI HB SUB EJ NX SL
    go_wp2
    go_ret
    exact Q.out
 ·have Q : Hid (RetDl w B a n c E x (.returned (.slice a n c)) w) := by
   show RetDl _ _ _ _ _ _ _ _ _
   unfold RetDl
   rw [subE_miss hno]
   exact ⟨⟨rfl, E0.out⟩, ⟨rfl, rfl, rfl, Nat.le_refl _, fun _ _ _ => rfl⟩⟩
  clear hno E0 HNE HE HP
  go_wp2
  go_ret
  exact Q.out
end Go.Proofs.Ytedncfcmhaaobaa
