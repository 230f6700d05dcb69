/-
  Texts of the proof, joined: QuS.
-/
import Derived.Test.YtedncfcmhaaobaaV16
import Derived.Test.YtedncfcmhaaobaaV17
import Derived.Test.YtedncfcmhaaobaaV07
namespace Go.Proofs.Ytedncfcmhaaobaa
open Go.ChangeShapes Go.WideShapes Go.ChangeAt Go.RowKit
set_option linter.unusedVariables false
theorem Num.at {w : World} {a : Option Addr} {n : Nat} {E : Nat → Int} (h : Num w a n E) (hn : 0 < n) : ∃ b off, a = some ⟨b, off, none⟩ ∧ ∀ i, i < n → w.cell? ⟨b, off + i, none⟩ = some (.int .i64 (E i)) := by
 obtain ⟨b, off, rfl, hc⟩ := Els.opened h hn
 refine ⟨b, off, rfl, fun i hi => ?_⟩
 have := hc i hi 0 (by omega)
 rwa [Nat.mul_one, Nat.add_zero] at this
theorem nanS_any (x : Int) (w : World) : Calls Try.prog 115 #[.int .i64 x] w fun e w' => e = .returned (.bool false) ∧ w = w' := by
 have e0 : (x != x) = false := by simp
 go_enter Try.func115, Try.ntmps115
 go_wp2
 go_ret
 exact ⟨rfl, rfl⟩
theorem nanC_any (x : Int) (w : World) : Calls Try.prog 118 #[.int .i64 x] w fun e w' => e = .returned (.bool false) ∧ w = w' := by
 have e0 : (x != x) = false := by simp
 go_enter Try.func118, Try.ntmps118
 go_wp2
 go_ret
 exact ⟨rfl, rfl⟩
set_option maxRecDepth 100000 in
theorem lessI_any (x y : Int) (z : Bool) (hz : z = sB (x < y)) (w : World) : Calls Try.prog 114 #[.int .i64 x, .int .i64 y] w fun e w' => e = .returned (.bool z) ∧ w = w' := by
 have N : Hid (∀ (u : Int) (w : World), Calls Try.prog 118 #[.int .i64 u] w fun e w' => e = .returned (.bool false) ∧ w = w') := nanC_any
 by_cases h : x < y
 ·obtain rfl : z = true := by rw [hz]; exact sB_yes h
  have d : decide (x < y) = true := decide_eq_true h
  clear hz
  go_enter Try.func114, Try.ntmps114
  go_wp2_with fail
  refine (N.out _ _).mono ?_
  rintro e _ ⟨rfl, rfl⟩
  clear N
  go_wp2
  go_ret
  exact ⟨rfl, rfl⟩
 ·obtain rfl : z = false := by rw [hz]; exact sB_no h
  clear hz
  go_enter Try.func114, Try.ntmps114
  go_wp2_with fail
  refine (N.out _ _).mono ?_
  rintro e _ ⟨rfl, rfl⟩
  clear N
  go_wp2
  go_ret
  refine ⟨?_, rfl⟩
  show Ending.returned (.bool (decide (x < y))) = _
  rw [decide_eq_false (by omega)]
set_option maxRecDepth 100000 in
set_option maxHeartbeats 2000000 in
theorem bsInt_any (N : Nat) (a : Option Addr) (n c : Nat) (E : Nat → Int) (x : Int) (hE : idsOk N n E) (hn : n ≤ 1048576) (z : Bool) (hz : z = sB (hasE n E x)) (w : World) (h : Num w a n E) :
  Calls Try.prog 110 #[.slice a n c, .int .i64 x] w fun e w' => e = .returned (.tuple #[.int .i64 ((plcE x E n : Nat) : Int), .bool z]) ∧ w = w' := by
 obtain ⟨k, hk⟩ : ∃ k, k = plcE x E n := ⟨_, rfl⟩
 have k1 : k ≤ n := by rw [hk]; exact plcE_le x n E
 have LT : Hid (∀ m, m < n → E m < x → m < k) := fun m hm hx => by
  rcases Nat.lt_or_ge m k with q | q
  ·exact q
  ·have h1 := plcE_at x n E (by omega)
   rw [← hk] at h1
   rcases Nat.lt_or_ge k m with q2 | q2
   ·have := ids_lt hE m k q2 hm; omega
   ·obtain rfl : k = m := by omega
    exact absurd hx h1
 have GE : Hid (∀ m, m < n → ¬ E m < x → k ≤ m) := fun m hm hx => by
  rcases Nat.lt_or_ge m k with q | q
  ·rw [hk] at q
   exact absurd (plcE_lt x n E m q) hx
  ·exact q
 have HZ : Hid (z = sB (k < n ∧ E k = x)) := by
  show _ = _
  rw [hz]
  by_cases q : hasE n E x
  ·have := ids_has hE q
   rw [← hk] at this
   rw [sB_yes q, sB_yes this]
  ·rw [sB_no q, sB_no (fun u => q ⟨k, u.1, u.2⟩)]
 have LS : Hid (∀ (u y : Int) (z : Bool) (w : World), z = sB (u < y) → Calls Try.prog 114 #[.int .i64 u, .int .i64 y] w fun e w' => e = .returned (.bool z) ∧ w = w') := fun u y z w hz => lessI_any u y z hz w
 have NS : Hid (∀ (u : Int) (w : World), Calls Try.prog 115 #[.int .i64 u] w fun e w' => e = .returned (.bool false) ∧ w = w') := nanS_any
 have H : Hid (Num w a n E) := h
 rw [← hk]
 clear hz hE h hk
 go_enter Try.func110, Try.ntmps110
 go_wp2
 go_loopw [7, 8] (fun i j wr => ∃ lo hi : Nat, i = .int .i64 lo ∧ j = .int .i64 hi ∧ lo ≤ k ∧ k ≤ hi ∧ hi ≤ n ∧ wr = w) (fun i j _ => (intOf j).toNat - (intOf i).toNat)
 case atStart => exact ⟨0, n, rfl, rfl, Nat.zero_le _, k1, Nat.le_refl _, rfl⟩
 case round =>
  obtain ⟨lo, hi, rfl, rfl, h1, h2, h3, rfl⟩ := hrel
  by_cases hlt : lo < hi
  ·have hlt' : (lo : Int) < (hi : Int) := by omega
   obtain ⟨b, off, rfl, hc⟩ := H.out.at (by omega)
   obtain ⟨m, hm⟩ : ∃ m, m = (lo + hi) / 2 := ⟨_, rfl⟩
   have hm1 : lo ≤ m := by omega
   have hm2 : m < hi := by omega
   have em : ((lo : Int) + (hi : Int)) / 2 = (m : Int) := by omega
   have c0 := hc m (by omega)
   have hmn : (m : Int) < (n : Int) := by omega
   have L1 := LT.out m (by omega)
   have L2 := GE.out m (by omega)
   have MM : Hid (m = (lo + hi) / 2) := hm
   have LM := fun z => LS.out (E m) x z
   have LMH : Hid (∀ (z : Bool) (w : World), z = sB (E m < x) → Calls Try.prog 114 #[.int .i64 (E m), .int .i64 x] w fun e w' => e = .returned (.bool z) ∧ w = w') := LM
   clear hc hm LM
   by_cases hy0 : E m < x
   ·have hk1 := L1 hy0
    have LH : Hid (∀ (w : World), Calls Try.prog 114 #[.int .i64 (E m), .int .i64 x] w fun e w' => e = .returned (.bool true) ∧ w = w') := fun w => LMH.out true w (sB_yes hy0).symm
    clear L1 L2 hy0 LMH
    go_wp2_with fail
    refine (LH.out _).mono ?_
    rintro e _ ⟨rfl, rfl⟩
    clear LH c0
    go_wp2
    go_roundw
    case rel => exact ⟨m + 1, hi, by go_num, rfl, by omega, h2, h3, trivial⟩
    case measure => simp [intOf]; omega
   ·have hk1 := L2 (by omega)
    have LH : Hid (∀ (w : World), Calls Try.prog 114 #[.int .i64 (E m), .int .i64 x] w fun e w' => e = .returned (.bool false) ∧ w = w') := fun w => LMH.out false w (sB_no hy0).symm
    clear L1 L2 hy0 LMH
    go_wp2_with fail
    refine (LH.out _).mono ?_
    rintro e _ ⟨rfl, rfl⟩
    clear LH c0
    go_wp2
    go_roundw
    case rel => exact ⟨lo, m, rfl, by go_num, h1, by omega, by omega, trivial⟩
    case measure => simp [intOf]; omega
  ·obtain rfl : hi = lo := by omega
   obtain rfl : k = hi := by omega
   have hlt' : ¬ (k : Int) < (k : Int) := by omega
   by_cases hkn : k < n
   ·have hkn' : (k : Int) < (n : Int) := by omega
    obtain ⟨b, off, rfl, hc⟩ := H.out.at (by omega)
    have c0 := hc k hkn
    by_cases q : E k = x
    ·obtain rfl : z = true := by rw [HZ.out]; exact sB_yes ⟨hkn, q⟩
     rw [q] at c0
     clear hc q LS NS LT GE
     go_wp2
     go_ret2
     exact ⟨rfl, rfl⟩
    ·obtain rfl : z = false := by rw [HZ.out]; exact sB_no (fun u => q u.2)
     have NH : Hid (∀ (w : World), Calls Try.prog 115 #[.int .i64 (E k)] w fun e w' => e = .returned (.bool false) ∧ w = w') := NS.out (E k)
     have qb : (E k == x) = false := by simp; exact q
     clear hc LS NS LT GE
     go_wp2_with fail
     refine (NH.out _).mono ?_
     rintro e _ ⟨rfl, rfl⟩
     clear NH
     go_wp2
     go_ret2
     exact ⟨rfl, rfl⟩
   ·have hkn' : ¬ (k : Int) < (n : Int) := by omega
    obtain rfl : z = false := by rw [HZ.out]; exact sB_no (fun u => hkn u.1)
    clear LS NS LT GE
    go_wp2
    go_ret2
    exact ⟨rfl, rfl⟩
set_option maxRecDepth 100000 in
set_option maxHeartbeats 1000000 in
theorem ixInt_any (a : Option Addr) (n c : Nat) (E : Nat → Int) (x : Int) (hn : n ≤ 1048576) (w : World) (h : Num w a n E) :
  Calls Try.prog 112 #[.slice a n c, .int .i64 x] w fun e w' => (∃ y : Int, e = .returned (.int .i64 y) ∧ ((0 ≤ y ∧ hasE n E x) ∨ (y = -1 ∧ ¬ hasE n E x))) ∧ w = w' := by
 have H : Hid (Num w a n E) := h
 clear h
 go_enter Try.func112, Try.ntmps112
 go_wp2
 go_loopw [8] (fun i wr => ∃ k : Nat, k ≤ n ∧ i = .int .i64 k ∧ (∀ j, j < k → E j ≠ x) ∧ wr = w) (fun i _ => n - (intOf i).toNat)
 case atStart => exact ⟨0, by omega, rfl, fun j hj => by omega, rfl⟩
 case round =>
  obtain ⟨k, hk, rfl, hno, rfl⟩ := hrel
  by_cases hlt : k < n
  ·have hlt' : (k : Int) < (n : Int) := by omega
   obtain ⟨b, off, rfl, hc⟩ := H.out.at (by omega)
   have c0 := hc k hlt
   by_cases q : E k = x
   ·have Q : Hid (hasE n E x) := ⟨k, hlt, q⟩
    rw [q] at c0
    clear hc hno q
    go_wp2
    go_ret
    exact ⟨⟨k, rfl, .inl ⟨by omega, Q.out⟩⟩, rfl⟩
   ·have q0 : ¬ x = E k := fun e => q e.symm
    have qb : (x == E k) = false := by simp; exact q0
    have HN : Hid (∀ j, j < k + 1 → E j ≠ x) := fun j hj => by
     rcases Nat.lt_or_ge j k with z | z
     ·exact hno j z
     ·obtain rfl : j = k := by omega
      exact q
    clear hc hno q q0
    go_wp2
    go_roundw
    case rel => exact ⟨k + 1, by omega, by go_num, HN.out, trivial⟩
    case measure => simp [intOf]; omega
  ·have hlt' : ¬ (k : Int) < (n : Int) := by omega
   have Q : Hid (¬ hasE n E x) := fun ⟨i, hi, e⟩ => hno i (by omega) e
   clear hno
   go_wp2
   go_ret
   exact ⟨⟨-1, rfl, .inr ⟨rfl, Q.out⟩⟩, rfl⟩
set_option maxRecDepth 100000 in
theorem conInt_any (a : Option Addr) (n c : Nat) (E : Nat → Int) (x : Int) (hn : n ≤ 1048576) (z : Bool) (hz : z = sB (hasE n E x)) (w : World) (h : Num w a n E) :
  Calls Try.prog 107 #[.slice a n c, .int .i64 x] w fun e w' => e = .returned (.bool z) ∧ w = w' := by
 have IX : Hid (Calls Try.prog 112 #[.slice a n c, .int .i64 x] w fun e w' => (∃ y : Int, e = .returned (.int .i64 y) ∧ ((0 ≤ y ∧ hasE n E x) ∨ (y = -1 ∧ ¬ hasE n E x))) ∧ w = w') := ixInt_any a n c E x hn w h
 clear h
 go_enter Try.func107, Try.ntmps107
 go_wp2_with fail
 refine IX.out.mono ?_
 rintro e _ ⟨⟨y, rfl, hy⟩, rfl⟩
 clear IX
 rcases hy with ⟨y0, hh⟩ | ⟨rfl, hh⟩
 ·obtain rfl : z = true := by rw [hz]; exact sB_yes hh
  clear hz hh
  go_wp2
  go_ret
  exact ⟨rfl, rfl⟩
 ·obtain rfl : z = false := by rw [hz]; exact sB_no hh
  clear hz hh
  go_wp2
  go_ret
  exact ⟨rfl, rfl⟩
def RetJn (w : World) (B : Nat) (v : Value) (n : Nat) (E : Nat → Int) (x : Int) (e : Ending) (w' : World) : Prop := (∃ v', e = .returned v' ∧ IE w' B v' (addE n E x).1 (addE n E x).2 ∧ (v'.ownBlock = v.ownBlock ∨ ∃ g, v'.ownBlock = some g ∧ w.heap.size ≤ g)) ∧ w.grownBy w' v.ownBlock
set_option maxRecDepth 100000 in
set_option maxHeartbeats 1000000 in
theorem joined_any (N B : Nat) (a : Option Addr) (n c : Nat) (E : Nat → Int) (x : Int) (hE : idsOk N n E) (hn : n ≤ 100000) (w : World) (hB : B ≤ w.heap.size) (h : IE w B (.slice a n c) n E) :
  Calls Try.prog 105 #[.slice a n c, .int .i64 x] w fun e w' => RetJn w B (.slice a n c) n E x e w' := by
 have BS : Hid (∀ z : Bool, z = sB (hasE n E x) → Calls Try.prog 110 #[.slice a n c, .int .i64 x] w fun e w' => e = .returned (.tuple #[.int .i64 ((plcE x E n : Nat) : Int), .bool z]) ∧ w = w') := fun z hz => bsInt_any N a n c E x hE (by omega) z hz w (IE.num h)
 by_cases q : hasE n E x
 ·have B1H : Hid (Calls Try.prog 110 #[.slice a n c, .int .i64 x] w fun e w' => e = .returned (.tuple #[.int .i64 ((plcE x E n : Nat) : Int), .bool true]) ∧ w = w') := BS.out true (sB_yes q).symm
  have Q : Hid (RetJn w B (.slice a n c) n E x (.returned (.slice a n c)) w) := by
   refine ⟨⟨_, rfl, ?_, .inl rfl⟩, ⟨rfl, rfl, rfl, Nat.le_refl _, fun _ _ _ => rfl⟩⟩
   unfold addE
   rw [if_pos q]
   exact h
  clear BS h
  go_enter Try.func105, Try.ntmps105
  go_wp2_with fail
  refine B1H.out.mono ?_
  rintro e _ ⟨rfl, rfl⟩
  clear B1H
  go_wp2
  go_ret
  exact Q.out
 ·have B1H : Hid (Calls Try.prog 110 #[.slice a n c, .int .i64 x] w fun e w' => e = .returned (.tuple #[.int .i64 ((plcE x E n : Nat) : Int), .bool false]) ∧ w = w') := BS.out false (sB_no q).symm
  have hb : Below w.heap.size w (w.alloc (.cells #[.int .i64 x] 3)) := (Below.refl _ _).alloc (Nat.le_refl _) _
  have IN : Hid (Calls Try.prog 111 #[.slice a n c, .int .i64 ((plcE x E n : Nat) : Int), .slice (some ⟨w.heap.size, 0, none⟩) 1 1] (w.alloc (.cells #[.int .i64 x] 3)) fun e w' => InsIn (w.alloc (.cells #[.int .i64 x] 3)) B (.slice a n c) n (insE E (plcE x E n) x) e w') := insIn_any _ B a n c w.heap.size (plcE x E n) E x (plcE_le _ _ _) (Nat.le_trans hB hb.size) hn (EO.below h hb) (BoxN.made w x) (fun e => by have := (EO.ge h _ e).2; omega)
  have GO : Hid (∀ e w', InsIn (w.alloc (.cells #[.int .i64 x] 3)) B (.slice a n c) n (insE E (plcE x E n) x) e w' → RetJn w B (.slice a n c) n E x e w') := fun e w' ⟨⟨v', he, ho, hl⟩, hg⟩ => by
   refine ⟨⟨v', he, ?_, ?_⟩, ?_⟩
   ·unfold addE
    rw [if_neg q]
    exact ho
   ·rcases hl with hl | hl
    ·exact .inl hl
    ·exact .inr ⟨_, hl, hb.size⟩
   ·exact ⟨hg.os, hg.tape, hg.output, Nat.le_trans hb.size hg.size, fun b hbl hne => (hg.block b (Nat.lt_of_lt_of_le hbl hb.size) hne).trans (hb.block b hbl)⟩
  clear BS h hb
  generalize plcE x E n = k at *
  go_enter Try.func105, Try.ntmps105
  go_wp2_with fail
  refine B1H.out.mono ?_
  rintro e _ ⟨rfl, rfl⟩
  clear B1H
  go_wp2_with fail
  refine IN.out.mono ?_
  rintro e w' hr
  obtain ⟨⟨v', rfl, ho, hl⟩, hg⟩ := hr
  have Q : Hid (RetJn w B (.slice a n c) n E x (.returned v') w') := GO.out _ _ ⟨⟨v', rfl, ho, hl⟩, hg⟩
  clear IN GO ho hl hg
  go_wp2
  go_ret
  exact Q.out
set_option maxRecDepth 100000 in
theorem later_any (c t c' t' : Int) (w : World) : Calls Try.prog 104 #[.agg #[.int .i64 c, .int .i64 t], .agg #[.int .i64 c', .int .i64 t']] w fun e w' => e = .returned (.agg #[.int .i64 (ltr c t c' t').1, .int .i64 (ltr c t c' t').2]) ∧ Below w.heap.size w w' := by
 by_cases h : c < c'
 ·have e : ltr c t c' t' = (c', t') := by unfold ltr; rw [if_pos h]
  rw [e]
  go_enter Try.func104, Try.ntmps104
  go_wp2
  refine ret_cell (b := w.heap.size + 1 + 1) (v := .agg #[.int .i64 c', .int .i64 t']) Try.results104 rfl (by go_simp) ⟨rfl, ?_⟩
  exact (((Below.refl w.heap.size w).alloc (Nat.le_refl _) _).alloc (by simp) _).alloc (by simp; omega) _
 ·have e : ltr c t c' t' = (c, t) := by unfold ltr; rw [if_neg h]
  rw [e]
  go_enter Try.func104, Try.ntmps104
  go_wp2
  refine ret_cell (b := w.heap.size + 1 + 1) (v := .agg #[.int .i64 c, .int .i64 t]) Try.results104 rfl (by go_simp) ⟨rfl, ?_⟩
  exact (((Below.refl w.heap.size w).alloc (Nat.le_refl _) _).alloc (by simp) _).alloc (by simp; omega) _
end Go.Proofs.Ytedncfcmhaaobaa
