/-
  Texts of the proof, joined: QuT.
-/
import Derived.Test.YtedncfcmhaaobaaV18
namespace Go.Proofs.Ytedncfcmhaaobaa
open Go.ChangeShapes Go.WideShapes Go.ChangeAt Go.RowKit
set_option linter.unusedVariables false
set_option maxRecDepth 100000 in
theorem majority_v (ra : Option Addr) (n cr : Nat) (t vw vq : Value) (la : Option Addr) (m lc : Nat) (hn : 1 ≤ n ∧ n ≤ 7) (hm : m ≤ 1000000) (z : Bool) (hz : z = sB (majN n ≤ m)) (w : World) :
  Calls Try.prog 106 #[.agg #[.slice ra n cr, t, vw, vq], .slice la m lc] w fun e w' => e = .returned (.bool z) ∧ Below w.heap.size w w' := by
 have QS : Hid (∀ w : World, Calls Try.prog 51 #[.int .i64 (n : Int)] w fun e w' => e = .returned (.tuple #[.int .i64 ((majN n : Nat) : Int), .int .i64 0]) ∧ w = w') := fun w => by
  have h := implQs_yes (n : Int) (by omega) w
  rwa [show (n : Int) / 2 + 1 = ((majN n : Nat) : Int) by unfold majN; omega] at h
 have mj : majN n ≤ 4 := by unfold majN; omega
 generalize majN n = q at *
 have W1 : Hid (Below w.heap.size w (w.alloc (.cells #[.slice ra n cr, t, vw, vq] 28))) := (Below.refl w.heap.size w).alloc (Nat.le_refl _) _
 by_cases h : q ≤ m
 ·obtain rfl : z = true := hz.trans (sB_yes h)
  have h' : (q : Int) ≤ (m : Int) := by omega
  clear hz
  go_enter Try.func106, Try.ntmps106
  go_wp2_with fail
  refine (QS.out _).mono ?_
  rintro e _ ⟨rfl, rfl⟩
  clear QS
  go_wp2
  go_ret
  exact ⟨rfl, W1.out⟩
 ·obtain rfl : z = false := hz.trans (sB_no h)
  have h' : ¬ (q : Int) ≤ (m : Int) := by omega
  clear hz
  go_enter Try.func106, Try.ntmps106
  go_wp2_with fail
  refine (QS.out _).mono ?_
  rintro e _ ⟨rfl, rfl⟩
  clear QS
  go_wp2
  go_ret
  exact ⟨rfl, W1.out⟩
set_option maxRecDepth 100000 in
set_option maxHeartbeats 1000000 in
theorem l09Has_any (a : Option Addr) (n c : Nat) (E : Nat → Int) (x : Int) (hn : n ≤ 1048576) (z : Bool) (hz : z = sB (hasE n E x)) (w : World) (h : Num w a n E) :
  Calls Try.prog 97 #[.slice a n c, .int .i64 x] w fun e w' => e = .returned (.bool z) ∧ w = w' := by
 have H : Hid (Num w a n E) := h
 have HZ : Hid (z = sB (hasE n E x)) := hz
 clear h hz
 go_enter Try.func97, Try.ntmps97
 go_wp2
 go_loopw [5] (fun i wr => ∃ k : Nat, k ≤ n ∧ i = .int .i64 k ∧ (∀ j, j < k → E j ≠ x) ∧ wr = w) (fun i _ => n - (intOf i).toNat)
 case atStart => exact ⟨0, by omega, rfl, fun j hj => by omega, rfl⟩
 case round =>
  obtain ⟨k, hk, rfl, hno, rfl⟩ := hrel
  by_cases hlt : k < n
  ·have hlt' : (k : Int) < (n : Int) := by omega
   obtain ⟨b, off, rfl, hc⟩ := H.out.at (by omega)
   have c0 := hc k hlt
   by_cases q : E k = x
   ·obtain rfl : z = true := HZ.out.trans (sB_yes ⟨k, hlt, q⟩)
    rw [q] at c0
    clear hc hno q
    go_wp2
    go_ret
    exact ⟨rfl, rfl⟩
   ·have qb : (E k == x) = false := by simp; exact q
    have HN : Hid (∀ j, j < k + 1 → E j ≠ x) := fun j hj => by
     rcases Nat.lt_or_ge j k with z | z
     ·exact hno j z
     ·obtain rfl : j = k := by omega
      exact q
    clear hc hno q
    go_wp2
    go_roundw
    case rel => exact ⟨k + 1, by omega, by go_num, HN.out, trivial⟩
    case measure => simp [intOf]; omega
  ·have hlt' : ¬ (k : Int) < (n : Int) := by omega
   obtain rfl : z = false := HZ.out.trans (sB_no (fun ⟨i, hi, e⟩ => hno i (by omega) e))
   clear hno
   go_wp2
   go_ret
   exact ⟨rfl, rfl⟩
set_option maxRecDepth 100000 in
theorem l09Later_any (c t c' t' : Int) (w : World) : Calls Try.prog 99 #[.agg #[.int .i64 c, .int .i64 t], .agg #[.int .i64 c', .int .i64 t']] w fun e w' => e = .returned (.agg #[.int .i64 (ltr c t c' t').1, .int .i64 (ltr c t c' t').2]) ∧ Below w.heap.size w w' := by
 by_cases h : c < c'
 ·have e : ltr c t c' t' = (c', t') := by unfold ltr; rw [if_pos h]
  rw [e]
  go_enter Try.func99, Try.ntmps99
  go_wp2
  refine ret_cell (b := w.heap.size + 1 + 1) (v := .agg #[.int .i64 c', .int .i64 t']) Try.results99 rfl (by go_simp) ⟨rfl, ?_⟩
  exact (((Below.refl w.heap.size w).alloc (Nat.le_refl _) _).alloc (by simp) _).alloc (by simp; omega) _
 ·have e : ltr c t c' t' = (c, t) := by unfold ltr; rw [if_neg h]
  rw [e]
  go_enter Try.func99, Try.ntmps99
  go_wp2
  refine ret_cell (b := w.heap.size + 1 + 1) (v := .agg #[.int .i64 c, .int .i64 t]) Try.results99 rfl (by go_simp) ⟨rfl, ?_⟩
  exact (((Below.refl w.heap.size w).alloc (Nat.le_refl _) _).alloc (by simp) _).alloc (by simp; omega) _
theorem subE_miss {k : Nat} {E : Nat → Int} {x : Int} (h : ¬ hasE k E x) : subE k E x = (k, E) := by unfold subE; rw [if_neg h]
theorem subE_ne {n k : Nat} {E : Nat → Int} {x : Int} (h : idsOk n (k + 1) E) (hx : E k ≠ x) : (subE (k + 1) E x).1 = (subE k E x).1 + 1 ∧ ∀ i, i < (subE k E x).1 + 1 → updE (subE k E x).2 (subE k E x).1 (E k) i = (subE (k + 1) E x).2 i := by
 have h0 : idsOk n k E := fun i hi => h i (by omega)
 by_cases q : hasE k E x
 ·have q1 : hasE (k + 1) E x := by obtain ⟨i, hi, e⟩ := q; exact ⟨i, by omega, e⟩
  obtain ⟨a, b⟩ := ids_has h0 q
  have ep : plcE x E (k + 1) = plcE x E k := plcE_is (by omega) (fun i hi => plcE_lt x k E i hi) (.inr (by omega))
  have e1 : subE k E x = (k - 1, delN (plcE x E k) E) := by unfold subE; rw [if_pos q]
  have e2 : subE (k + 1) E x = (k, delN (plcE x E k) E) := by unfold subE; rw [if_pos q1, ep]; rfl
  rw [e1, e2]
  refine ⟨by dsimp only; omega, fun i hi => ?_⟩
  dsimp only at hi ⊢
  unfold updE
  by_cases e : i = k - 1
  ·rw [if_pos e]
   unfold delN
   rw [if_neg (by omega), show i + 1 = k by omega]
  ·rw [if_neg e]
 ·have q1 : ¬ hasE (k + 1) E x := fun ⟨i, hi, e⟩ => by
   rcases Nat.lt_or_ge i k with z | z
   ·exact q ⟨i, z, e⟩
   ·obtain rfl : i = k := by omega
    exact hx e
  rw [subE_miss q, subE_miss q1]
  refine ⟨rfl, fun i hi => ?_⟩
  unfold updE
  dsimp only
  by_cases e : i = k
  ·rw [if_pos e, e]
  ·rw [if_neg e]
theorem subE_eq {n k : Nat} {E : Nat → Int} (h : idsOk n (k + 1) E) : subE k E (E k) = (k, E) ∧ (subE (k + 1) E (E k)).1 = k ∧ ∀ i, i < k → (subE (k + 1) E (E k)).2 i = E i := by
 have q : ¬ hasE k E (E k) := fun ⟨i, hi, e⟩ => by have := ids_lt h k i hi (by omega); omega
 have q1 : hasE (k + 1) E (E k) := ⟨k, by omega, rfl⟩
 have ep : plcE (E k) E (k + 1) = k := plcE_is (by omega) (fun i hi => ids_lt h k i hi (by omega)) (.inr (by omega))
 have e2 : subE (k + 1) E (E k) = (k, delN k E) := by unfold subE; rw [if_pos q1, ep]; rfl
 refine ⟨subE_miss q, by rw [e2], fun i hi => ?_⟩
 rw [e2]
 show delN k E i = E i
 unfold delN
 rw [if_pos hi]
set_option maxRecDepth 100000 in
set_option maxHeartbeats 2000000 in
theorem l09Without_any (N : Nat) (a : Option Addr) (n c : Nat) (E : Nat → Int) (x : Int) (hE : idsOk N n E) (hn : n ≤ 1000) (w : World) (h : Num w a n E) :
  Calls Try.prog 96 #[.slice a n c, .int .i64 x] w fun e w' => (∃ b d, e = .returned (.slice b (subE n E x).1 d) ∧ IE w' w.heap.size (.slice b (subE n E x).1 d) (subE n E x).1 (subE n E x).2) ∧ Below w.heap.size w w' := by
 have H : Hid (Num w a n E) := h
 have HE : Hid (idsOk N n E) := hE
 have W1 : Hid (Below w.heap.size w (w.alloc (.cells #[] 3))) := (Below.refl _ _).alloc (Nat.le_refl _) _
 have L0 : Hid (IE (w.alloc (.cells #[] 3)) w.heap.size (.slice (some ⟨w.heap.size, 0, none⟩) 0 0) (subE 0 E x).1 (subE 0 E x).2) := by
  show IE _ _ _ _ _
  rw [subE_miss (fun ⟨i, hi, _⟩ => by omega)]
  exact IE.lit w _ (Nat.le_refl _) _
 clear h hE
 go_enter Try.func96, Try.ntmps96
 go_wp2
 generalize (w.alloc (.cells #[] 3)) = v at *
 generalize hv0 : Value.slice (some ⟨w.heap.size, 0, none⟩) 0 0 = v0 at *
 clear hv0
 go_loopw [5, 6] (fun l i wr => ∃ k : Nat, k ≤ n ∧ i = .int .i64 k ∧ IE wr w.heap.size l (subE k E x).1 (subE k E x).2 ∧ Below w.heap.size w wr) (fun _ i _ => n - (intOf i).toNat)
 case atStart => exact ⟨0, by omega, rfl, L0.out, W1.out⟩
 case round =>
  clear L0 W1
  obtain ⟨k, hk, rfl, L, hb⟩ := hrel
  obtain ⟨pa, pc, rfl⟩ := EO.form L
  have HB : Hid (Below w.heap.size w wr) := hb
  by_cases hlt : k < n
  ·have hlt' : (k : Int) < (n : Int) := by omega
   obtain ⟨b, off, rfl, hc⟩ := (H.out.below hb).at (by omega)
   have c0 := hc k hlt
   have hE1 : idsOk N (k + 1) E := fun i hi => HE.out i (by omega)
   by_cases q : E k = x
   ·have S1 := subE_eq hE1
    rw [q] at S1
    have LN : Hid (IE wr w.heap.size (.slice pa (subE k E x).1 pc) (subE (k + 1) E x).1 (subE (k + 1) E x).2) := by
     show IE _ _ _ _ _
     rw [S1.2.1]
     rw [S1.1] at L ⊢
     exact IE.congr L (fun i hi => (S1.2.2 i hi).symm)
    rw [q] at c0
    have qb : (x != x) = false := by simp
    clear hc L S1 hb q
    go_wp2
    go_roundw
    case rel => exact ⟨k + 1, by omega, by go_num, LN.out, HB.out⟩
    case measure => simp [intOf]; omega
   ·obtain ⟨s1, s2⟩ := subE_ne hE1 q
    have qb : (E k != x) = true := by simp; exact q
    have hA : Below wr.heap.size wr (wr.alloc (.cells #[.int .i64 (E k)] 3)) := (Below.refl _ _).alloc (Nat.le_refl _) _
    have hsz := HB.out.size
    have hle : (subE k E x).1 ≤ 1000 := by
     have : (subE k E x).1 ≤ k := by unfold subE; split <;> (dsimp only; omega)
     omega
    obtain ⟨v9, w4, hr9, ho9, hg, -⟩ := appInI (wr.alloc (.cells #[.int .i64 (E k)] 3)) w.heap.size (.slice pa (subE k E x).1 pc) (subE k E x).1 wr.heap.size (subE k E x).2 (E k) (Nat.le_trans hsz hA.size) (by omega) (EO.below L hA) (fun j hj => by
     obtain rfl : j = 0 := by omega
     exact (BoxN.made wr (E k)).c0)
    have BW : Below w.heap.size w w4 := (HB.out.trans (hA.mono hsz)).trans ((Below.refl _ _).grown hg (Nat.le_trans hsz hA.size) (fun y hy => (EO.ge L y hy).1))
    have LN : Hid (IE w4 w.heap.size v9 (subE (k + 1) E x).1 (subE (k + 1) E x).2) := by
     show IE _ _ _ _ _
     rw [s1]
     exact IE.congr ho9 s2
    have BH : Hid (Below w.heap.size w w4) := BW
    have HAP : Hid _ := hr9
    generalize (subE k E x).1 = p at *
    clear hc L hb HB hA ho9 hg BW s1 s2 hr9 hsz hle
    go_wp2_with (at_builtin; refine Lib.wpList_append_run _ rfl (.tmp 20) (.tmp 25) _ _ rfl _ _ rfl rfl _ _ (HAP.out _) ?_)
    go_roundw
    case rel => exact ⟨k + 1, by omega, by go_num, LN.out, BH.out⟩
    case measure => simp [intOf]; omega
  ·have hlt' : ¬ (k : Int) < (n : Int) := by omega
   obtain rfl : n = k := by omega
   have Q : Hid (∃ b d, (Ending.returned (.slice pa (subE n E x).1 pc)) = .returned (.slice b (subE n E x).1 d) ∧ IE wr w.heap.size (.slice b (subE n E x).1 d) (subE n E x).1 (subE n E x).2) := ⟨pa, pc, rfl, L⟩
   clear L hb
   go_wp2
   go_ret
   exact ⟨Q.out, HB.out⟩
end Go.Proofs.Ytedncfcmhaaobaa
