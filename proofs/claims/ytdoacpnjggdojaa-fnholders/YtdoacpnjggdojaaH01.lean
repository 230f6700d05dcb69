/-
  The quorum's lists of replicas in the program: found, joined; later marks, majorities.
-/
import Derived.Test.YtdoacpnjggdojaaQuM
import Derived.Test.YtdoacpnjggdojaaInsI
import Derived.Test.YtdoacpnjggdojaaQSize
namespace Go.Proofs.Ytdoacpnjggdojaa
open Go.ChangeShapes Go.WideShapes Go.ChangeAt Go.RowKit
set_option linter.unusedVariables false
theorem Num.at {w : World} {a : Option Addr} {n : Nat} {E : Nat → Int} (h : Num w a n E) (hn : 0 < n) : ∃ b off, a = some ⟨b, off, none⟩ ∧ ∀ i, i < n → w.cell? ⟨b, off + i, none⟩ = some (.int .i64 (E i)) := by
  obtain ⟨b, off, rfl, hc⟩ := Els.opened h hn
  refine ⟨b, off, rfl, fun i hi => ?_⟩
  have := hc i hi 0 (by omega)
  rwa [Nat.mul_one, Nat.add_zero] at this
theorem nanS_any (x : Int) (w : World) : Calls Try.prog 126 #[.int .i64 x] w fun e w' => e = .returned (.bool false) ∧ w = w' := by
  have e0 : (x != x) = false := by simp
  go_enter Try.func126, Try.ntmps126
  go_wp2
  go_ret
  exact ⟨rfl, rfl⟩
theorem nanC_any (x : Int) (w : World) : Calls Try.prog 129 #[.int .i64 x] w fun e w' => e = .returned (.bool false) ∧ w = w' := by
  have e0 : (x != x) = false := by simp
  go_enter Try.func129, Try.ntmps129
  go_wp2
  go_ret
  exact ⟨rfl, rfl⟩
set_option maxRecDepth 100000 in
theorem lessI_any (x y : Int) (z : Bool) (hz : z = sB (x < y)) (w : World) : Calls Try.prog 125 #[.int .i64 x, .int .i64 y] w fun e w' => e = .returned (.bool z) ∧ w = w' := by
  have N : Hid (∀ (u : Int) (w : World), Calls Try.prog 129 #[.int .i64 u] w fun e w' => e = .returned (.bool false) ∧ w = w') := nanC_any
  by_cases h : x < y
  · obtain rfl : z = true := by rw [hz]; exact sB_yes h
    have d : decide (x < y) = true := decide_eq_true h
    clear hz
    go_enter Try.func125, Try.ntmps125
    go_wp2_with fail
    refine (N.out _ _).mono ?_
    rintro e _ ⟨rfl, rfl⟩
    clear N
    go_wp2
    go_ret
    exact ⟨rfl, rfl⟩
  · obtain rfl : z = false := by rw [hz]; exact sB_no h
    clear hz
    go_enter Try.func125, Try.ntmps125
    go_wp2_with fail
    refine (N.out _ _).mono ?_
    rintro e _ ⟨rfl, rfl⟩
    clear N
    go_wp2
    go_ret
    refine ⟨?_, rfl⟩
    show Ending.returned (.bool (decide (x < y))) = _
    rw [decide_eq_false (by omega)]
set_option maxRecDepth 100000 in
set_option maxHeartbeats 2000000 in
theorem bsInt_any (N : Nat) (a : Option Addr) (n c : Nat) (E : Nat → Int) (x : Int) (hE : idsOk N n E) (hn : n ≤ 1048576) (z : Bool) (hz : z = sB (hasE n E x)) (w : World) (h : Num w a n E) :
    Calls Try.prog 121 #[.slice a n c, .int .i64 x] w fun e w' => e = .returned (.tuple #[.int .i64 ((plcE x E n : Nat) : Int), .bool z]) ∧ w = w' := by
  obtain ⟨k, hk⟩ : ∃ k, k = plcE x E n := ⟨_, rfl⟩
  have k1 : k ≤ n := by rw [hk]; exact plcE_le x n E
  have LT : Hid (∀ m, m < n → E m < x → m < k) := fun m hm hx => by
    rcases Nat.lt_or_ge m k with q | q
    · exact q
    · have h1 := plcE_at x n E (by omega)
      rw [← hk] at h1
      rcases Nat.lt_or_ge k m with q2 | q2
      · have := ids_lt hE m k q2 hm; omega
      · obtain rfl : k = m := by omega
        exact absurd hx h1
  have GE : Hid (∀ m, m < n → ¬ E m < x → k ≤ m) := fun m hm hx => by
    rcases Nat.lt_or_ge m k with q | q
    · rw [hk] at q
      exact absurd (plcE_lt x n E m q) hx
    · exact q
  have HZ : Hid (z = sB (k < n ∧ E k = x)) := by
    show _ = _
    rw [hz]
    by_cases q : hasE n E x
    · have := ids_has hE q
      rw [← hk] at this
      rw [sB_yes q, sB_yes this]
    · rw [sB_no q, sB_no (fun u => q ⟨k, u.1, u.2⟩)]
  have LS : Hid (∀ (u y : Int) (z : Bool) (w : World), z = sB (u < y) → Calls Try.prog 125 #[.int .i64 u, .int .i64 y] w fun e w' => e = .returned (.bool z) ∧ w = w') := fun u y z w hz => lessI_any u y z hz w
  have NS : Hid (∀ (u : Int) (w : World), Calls Try.prog 126 #[.int .i64 u] w fun e w' => e = .returned (.bool false) ∧ w = w') := nanS_any
  have H : Hid (Num w a n E) := h
  rw [← hk]
  clear hz hE h hk
  go_enter Try.func121, Try.ntmps121
  go_wp2
  go_loopw [7, 8] (fun i j wr => ∃ lo hi : Nat, i = .int .i64 lo ∧ j = .int .i64 hi ∧ lo ≤ k ∧ k ≤ hi ∧ hi ≤ n ∧ wr = w) (fun i j _ => (intOf j).toNat - (intOf i).toNat)
  case atStart => exact ⟨0, n, rfl, rfl, Nat.zero_le _, k1, Nat.le_refl _, rfl⟩
  case round =>
    obtain ⟨lo, hi, rfl, rfl, h1, h2, h3, rfl⟩ := hrel
    by_cases hlt : lo < hi
    · have hlt' : (lo : Int) < (hi : Int) := by omega
      obtain ⟨b, off, rfl, hc⟩ := H.out.at (by omega)
      obtain ⟨m, hm⟩ : ∃ m, m = (lo + hi) / 2 := ⟨_, rfl⟩
      have hm1 : lo ≤ m := by omega
      have hm2 : m < hi := by omega
      have em : ((lo : Int) + (hi : Int)) / 2 = (m : Int) := by omega
      have c0 := hc m (by omega)
      have hmn : (m : Int) < (n : Int) := by omega
      have L1 := LT.out m (by omega)
      have L2 := GE.out m (by omega)
      have MM : Hid (m = (lo + hi) / 2) := hm
      have LM := fun z => LS.out (E m) x z
      have LMH : Hid (∀ (z : Bool) (w : World), z = sB (E m < x) → Calls Try.prog 125 #[.int .i64 (E m), .int .i64 x] w fun e w' => e = .returned (.bool z) ∧ w = w') := LM
      clear hc hm LM
      by_cases hy0 : E m < x
      · have hk1 := L1 hy0
        have LH : Hid (∀ (w : World), Calls Try.prog 125 #[.int .i64 (E m), .int .i64 x] w fun e w' => e = .returned (.bool true) ∧ w = w') := fun w => LMH.out true w (sB_yes hy0).symm
        clear L1 L2 hy0 LMH
        go_wp2_with fail
        refine (LH.out _).mono ?_
        rintro e _ ⟨rfl, rfl⟩
        clear LH c0
        go_wp2
        go_roundw
        case rel => exact ⟨m + 1, hi, by go_num, rfl, by omega, h2, h3, trivial⟩
        case measure => simp [intOf]; omega
      · have hk1 := L2 (by omega)
        have LH : Hid (∀ (w : World), Calls Try.prog 125 #[.int .i64 (E m), .int .i64 x] w fun e w' => e = .returned (.bool false) ∧ w = w') := fun w => LMH.out false w (sB_no hy0).symm
        clear L1 L2 hy0 LMH
        go_wp2_with fail
        refine (LH.out _).mono ?_
        rintro e _ ⟨rfl, rfl⟩
        clear LH c0
        go_wp2
        go_roundw
        case rel => exact ⟨lo, m, rfl, by go_num, h1, by omega, by omega, trivial⟩
        case measure => simp [intOf]; omega
    · obtain rfl : hi = lo := by omega
      obtain rfl : k = hi := by omega
      have hlt' : ¬ (k : Int) < (k : Int) := by omega
      by_cases hkn : k < n
      · have hkn' : (k : Int) < (n : Int) := by omega
        obtain ⟨b, off, rfl, hc⟩ := H.out.at (by omega)
        have c0 := hc k hkn
        by_cases q : E k = x
        · obtain rfl : z = true := by rw [HZ.out]; exact sB_yes ⟨hkn, q⟩
          rw [q] at c0
          clear hc q LS NS LT GE
          go_wp2
          go_ret2
          exact ⟨rfl, rfl⟩
        · obtain rfl : z = false := by rw [HZ.out]; exact sB_no (fun u => q u.2)
          have NH : Hid (∀ (w : World), Calls Try.prog 126 #[.int .i64 (E k)] w fun e w' => e = .returned (.bool false) ∧ w = w') := NS.out (E k)
          have qb : (E k == x) = false := by simp; exact q
          clear hc LS NS LT GE
          go_wp2_with fail
          refine (NH.out _).mono ?_
          rintro e _ ⟨rfl, rfl⟩
          clear NH
          go_wp2
          go_ret2
          exact ⟨rfl, rfl⟩
      · have hkn' : ¬ (k : Int) < (n : Int) := by omega
        obtain rfl : z = false := by rw [HZ.out]; exact sB_no (fun u => hkn u.1)
        clear LS NS LT GE
        go_wp2
        go_ret2
        exact ⟨rfl, rfl⟩
set_option maxRecDepth 100000 in
set_option maxHeartbeats 1000000 in
theorem ixInt_any (a : Option Addr) (n c : Nat) (E : Nat → Int) (x : Int) (hn : n ≤ 1048576) (w : World) (h : Num w a n E) :
    Calls Try.prog 123 #[.slice a n c, .int .i64 x] w fun e w' => (∃ y : Int, e = .returned (.int .i64 y) ∧ ((0 ≤ y ∧ hasE n E x) ∨ (y = -1 ∧ ¬ hasE n E x))) ∧ w = w' := by
  have H : Hid (Num w a n E) := h
  clear h
  go_enter Try.func123, Try.ntmps123
  go_wp2
  go_loopw [8] (fun i wr => ∃ k : Nat, k ≤ n ∧ i = .int .i64 k ∧ (∀ j, j < k → E j ≠ x) ∧ wr = w) (fun i _ => n - (intOf i).toNat)
  case atStart => exact ⟨0, by omega, rfl, fun j hj => by omega, rfl⟩
  case round =>
    obtain ⟨k, hk, rfl, hno, rfl⟩ := hrel
    by_cases hlt : k < n
    · have hlt' : (k : Int) < (n : Int) := by omega
      obtain ⟨b, off, rfl, hc⟩ := H.out.at (by omega)
      have c0 := hc k hlt
      by_cases q : E k = x
      · have Q : Hid (hasE n E x) := ⟨k, hlt, q⟩
        rw [q] at c0
        clear hc hno q
        go_wp2
        go_ret
        exact ⟨⟨k, rfl, .inl ⟨by omega, Q.out⟩⟩, rfl⟩
      · have q0 : ¬ x = E k := fun e => q e.symm
        have qb : (x == E k) = false := by simp; exact q0
        have HN : Hid (∀ j, j < k + 1 → E j ≠ x) := fun j hj => by
          rcases Nat.lt_or_ge j k with z | z
          · exact hno j z
          · obtain rfl : j = k := by omega
            exact q
        clear hc hno q q0
        go_wp2
        go_roundw
        case rel => exact ⟨k + 1, by omega, by go_num, HN.out, trivial⟩
        case measure => simp [intOf]; omega
    · have hlt' : ¬ (k : Int) < (n : Int) := by omega
      have Q : Hid (¬ hasE n E x) := fun ⟨i, hi, e⟩ => hno i (by omega) e
      clear hno
      go_wp2
      go_ret
      exact ⟨⟨-1, rfl, .inr ⟨rfl, Q.out⟩⟩, rfl⟩
set_option maxRecDepth 100000 in
theorem conInt_any (a : Option Addr) (n c : Nat) (E : Nat → Int) (x : Int) (hn : n ≤ 1048576) (z : Bool) (hz : z = sB (hasE n E x)) (w : World) (h : Num w a n E) :
    Calls Try.prog 118 #[.slice a n c, .int .i64 x] w fun e w' => e = .returned (.bool z) ∧ w = w' := by
  have IX : Hid (Calls Try.prog 123 #[.slice a n c, .int .i64 x] w fun e w' => (∃ y : Int, e = .returned (.int .i64 y) ∧ ((0 ≤ y ∧ hasE n E x) ∨ (y = -1 ∧ ¬ hasE n E x))) ∧ w = w') := ixInt_any a n c E x hn w h
  clear h
  go_enter Try.func118, Try.ntmps118
  go_wp2_with fail
  refine IX.out.mono ?_
  rintro e _ ⟨⟨y, rfl, hy⟩, rfl⟩
  clear IX
  rcases hy with ⟨y0, hh⟩ | ⟨rfl, hh⟩
  · obtain rfl : z = true := by rw [hz]; exact sB_yes hh
    clear hz hh
    go_wp2
    go_ret
    exact ⟨rfl, rfl⟩
  · obtain rfl : z = false := by rw [hz]; exact sB_no hh
    clear hz hh
    go_wp2
    go_ret
    exact ⟨rfl, rfl⟩
/-- A list with x joined is handed back. -/
def RetJn (w : World) (B : Nat) (v : Value) (n : Nat) (E : Nat → Int) (x : Int) (e : Ending) (w' : World) : Prop := (∃ v', e = .returned v' ∧ IE w' B v' (addE n E x).1 (addE n E x).2 ∧ (v'.ownBlock = v.ownBlock ∨ ∃ g, v'.ownBlock = some g ∧ w.heap.size ≤ g)) ∧ w.grownBy w' v.ownBlock
set_option maxRecDepth 100000 in
set_option maxHeartbeats 1000000 in
theorem joined_any (N B : Nat) (a : Option Addr) (n c : Nat) (E : Nat → Int) (x : Int) (hE : idsOk N n E) (hn : n ≤ 100000) (w : World) (hB : B ≤ w.heap.size) (h : IE w B (.slice a n c) n E) :
    Calls Try.prog 116 #[.slice a n c, .int .i64 x] w fun e w' => RetJn w B (.slice a n c) n E x e w' := by
  have BS : Hid (∀ z : Bool, z = sB (hasE n E x) → Calls Try.prog 121 #[.slice a n c, .int .i64 x] w fun e w' => e = .returned (.tuple #[.int .i64 ((plcE x E n : Nat) : Int), .bool z]) ∧ w = w') := fun z hz => bsInt_any N a n c E x hE (by omega) z hz w (IE.num h)
  by_cases q : hasE n E x
  · have B1H : Hid (Calls Try.prog 121 #[.slice a n c, .int .i64 x] w fun e w' => e = .returned (.tuple #[.int .i64 ((plcE x E n : Nat) : Int), .bool true]) ∧ w = w') := BS.out true (sB_yes q).symm
    have Q : Hid (RetJn w B (.slice a n c) n E x (.returned (.slice a n c)) w) := by
      refine ⟨⟨_, rfl, ?_, .inl rfl⟩, ⟨rfl, rfl, rfl, Nat.le_refl _, fun _ _ _ => rfl⟩⟩
      unfold addE
      rw [if_pos q]
      exact h
    clear BS h
    go_enter Try.func116, Try.ntmps116
    go_wp2_with fail
    refine B1H.out.mono ?_
    rintro e _ ⟨rfl, rfl⟩
    clear B1H
    go_wp2
    go_ret
    exact Q.out
  · have B1H : Hid (Calls Try.prog 121 #[.slice a n c, .int .i64 x] w fun e w' => e = .returned (.tuple #[.int .i64 ((plcE x E n : Nat) : Int), .bool false]) ∧ w = w') := BS.out false (sB_no q).symm
    have hb : Below w.heap.size w (w.alloc (.cells #[.int .i64 x] 3)) := (Below.refl _ _).alloc (Nat.le_refl _) _
    have IN : Hid (Calls Try.prog 122 #[.slice a n c, .int .i64 ((plcE x E n : Nat) : Int), .slice (some ⟨w.heap.size, 0, none⟩) 1 1] (w.alloc (.cells #[.int .i64 x] 3)) fun e w' => InsIn (w.alloc (.cells #[.int .i64 x] 3)) B (.slice a n c) n (insE E (plcE x E n) x) e w') := insIn_any _ B a n c w.heap.size (plcE x E n) E x (plcE_le _ _ _) (Nat.le_trans hB hb.size) hn (EO.below h hb) (BoxN.made w x) (fun e => by have := (EO.ge h _ e).2; omega)
    have GO : Hid (∀ e w', InsIn (w.alloc (.cells #[.int .i64 x] 3)) B (.slice a n c) n (insE E (plcE x E n) x) e w' → RetJn w B (.slice a n c) n E x e w') := fun e w' ⟨⟨v', he, ho, hl⟩, hg⟩ => by
      refine ⟨⟨v', he, ?_, ?_⟩, ?_⟩
      · unfold addE
        rw [if_neg q]
        exact ho
      · rcases hl with hl | hl
        · exact .inl hl
        · exact .inr ⟨_, hl, hb.size⟩
      · exact ⟨hg.os, hg.tape, hg.output, Nat.le_trans hb.size hg.size, fun b hbl hne => (hg.block b (Nat.lt_of_lt_of_le hbl hb.size) hne).trans (hb.block b hbl)⟩
    clear BS h hb
    generalize plcE x E n = k at *
    go_enter Try.func116, Try.ntmps116
    go_wp2_with fail
    refine B1H.out.mono ?_
    rintro e _ ⟨rfl, rfl⟩
    clear B1H
    go_wp2_with fail
    refine IN.out.mono ?_
    rintro e w' hr
    obtain ⟨⟨v', rfl, ho, hl⟩, hg⟩ := hr
    have Q : Hid (RetJn w B (.slice a n c) n E x (.returned v') w') := GO.out _ _ ⟨⟨v', rfl, ho, hl⟩, hg⟩
    clear IN GO ho hl hg
    go_wp2
    go_ret
    exact Q.out
set_option maxRecDepth 100000 in
theorem later_any (c t c' t' : Int) (w : World) : Calls Try.prog 115 #[.agg #[.int .i64 c, .int .i64 t], .agg #[.int .i64 c', .int .i64 t']] w fun e w' => e = .returned (.agg #[.int .i64 (ltr c t c' t').1, .int .i64 (ltr c t c' t').2]) ∧ Below w.heap.size w w' := by
  by_cases h : c < c'
  · have e : ltr c t c' t' = (c', t') := by unfold ltr; rw [if_pos h]
    rw [e]
    go_enter Try.func115, Try.ntmps115
    go_wp2
    refine ret_cell (b := w.heap.size + 1 + 1) (v := .agg #[.int .i64 c', .int .i64 t']) Try.results115 rfl (by go_simp) ⟨rfl, ?_⟩
    exact (((Below.refl w.heap.size w).alloc (Nat.le_refl _) _).alloc (by simp) _).alloc (by simp; omega) _
  · have e : ltr c t c' t' = (c, t) := by unfold ltr; rw [if_neg h]
    rw [e]
    go_enter Try.func115, Try.ntmps115
    go_wp2
    refine ret_cell (b := w.heap.size + 1 + 1) (v := .agg #[.int .i64 c, .int .i64 t]) Try.results115 rfl (by go_simp) ⟨rfl, ?_⟩
    exact (((Below.refl w.heap.size w).alloc (Nat.le_refl _) _).alloc (by simp) _).alloc (by simp; omega) _
end Go.Proofs.Ytdoacpnjggdojaa

/-
  The quorum's lists of replicas in the model: has, later, without; the program's majority.
-/
namespace Go.Proofs.Ytdoacpnjggdojaa
open Go.ChangeShapes Go.WideShapes Go.ChangeAt Go.RowKit
set_option linter.unusedVariables false
set_option maxRecDepth 100000 in
theorem majority_v (ra : Option Addr) (n cr : Nat) (t vw vq : Value) (la : Option Addr) (m lc : Nat) (hn : 1 ≤ n ∧ n ≤ 7) (hm : m ≤ 1000000) (z : Bool) (hz : z = sB (majN n ≤ m)) (w : World) :
    Calls Try.prog 117 #[.agg #[.slice ra n cr, t, vw, vq], .slice la m lc] w fun e w' => e = .returned (.bool z) ∧ Below w.heap.size w w' := by
  have QS : Hid (∀ w : World, Calls Try.prog 16 #[.int .i64 (n : Int)] w fun e w' => e = .returned (.tuple #[.int .i64 ((majN n : Nat) : Int), .int .i64 0]) ∧ w = w') := fun w => by
    have h := implQs_yes (n : Int) (by omega) w
    rwa [show (n : Int) / 2 + 1 = ((majN n : Nat) : Int) by unfold majN; omega] at h
  have mj : majN n ≤ 4 := by unfold majN; omega
  generalize majN n = q at *
  have W1 : Hid (Below w.heap.size w (w.alloc (.cells #[.slice ra n cr, t, vw, vq] 30))) := (Below.refl w.heap.size w).alloc (Nat.le_refl _) _
  by_cases h : q ≤ m
  · obtain rfl : z = true := hz.trans (sB_yes h)
    have h' : (q : Int) ≤ (m : Int) := by omega
    clear hz
    go_enter Try.func117, Try.ntmps117
    go_wp2_with fail
    refine (QS.out _).mono ?_
    rintro e _ ⟨rfl, rfl⟩
    clear QS
    go_wp2
    go_ret
    exact ⟨rfl, W1.out⟩
  · obtain rfl : z = false := hz.trans (sB_no h)
    have h' : ¬ (q : Int) ≤ (m : Int) := by omega
    clear hz
    go_enter Try.func117, Try.ntmps117
    go_wp2_with fail
    refine (QS.out _).mono ?_
    rintro e _ ⟨rfl, rfl⟩
    clear QS
    go_wp2
    go_ret
    exact ⟨rfl, W1.out⟩
set_option maxRecDepth 100000 in
set_option maxHeartbeats 1000000 in
theorem l09Has_any (a : Option Addr) (n c : Nat) (E : Nat → Int) (x : Int) (hn : n ≤ 1048576) (z : Bool) (hz : z = sB (hasE n E x)) (w : World) (h : Num w a n E) :
    Calls Try.prog 108 #[.slice a n c, .int .i64 x] w fun e w' => e = .returned (.bool z) ∧ w = w' := by
  have H : Hid (Num w a n E) := h
  have HZ : Hid (z = sB (hasE n E x)) := hz
  clear h hz
  go_enter Try.func108, Try.ntmps108
  go_wp2
  go_loopw [5] (fun i wr => ∃ k : Nat, k ≤ n ∧ i = .int .i64 k ∧ (∀ j, j < k → E j ≠ x) ∧ wr = w) (fun i _ => n - (intOf i).toNat)
  case atStart => exact ⟨0, by omega, rfl, fun j hj => by omega, rfl⟩
  case round =>
    obtain ⟨k, hk, rfl, hno, rfl⟩ := hrel
    by_cases hlt : k < n
    · have hlt' : (k : Int) < (n : Int) := by omega
      obtain ⟨b, off, rfl, hc⟩ := H.out.at (by omega)
      have c0 := hc k hlt
      by_cases q : E k = x
      · obtain rfl : z = true := HZ.out.trans (sB_yes ⟨k, hlt, q⟩)
        rw [q] at c0
        clear hc hno q
        go_wp2
        go_ret
        exact ⟨rfl, rfl⟩
      · have qb : (E k == x) = false := by simp; exact q
        have HN : Hid (∀ j, j < k + 1 → E j ≠ x) := fun j hj => by
          rcases Nat.lt_or_ge j k with z | z
          · exact hno j z
          · obtain rfl : j = k := by omega
            exact q
        clear hc hno q
        go_wp2
        go_roundw
        case rel => exact ⟨k + 1, by omega, by go_num, HN.out, trivial⟩
        case measure => simp [intOf]; omega
    · have hlt' : ¬ (k : Int) < (n : Int) := by omega
      obtain rfl : z = false := HZ.out.trans (sB_no (fun ⟨i, hi, e⟩ => hno i (by omega) e))
      clear hno
      go_wp2
      go_ret
      exact ⟨rfl, rfl⟩
set_option maxRecDepth 100000 in
theorem l09Later_any (c t c' t' : Int) (w : World) : Calls Try.prog 110 #[.agg #[.int .i64 c, .int .i64 t], .agg #[.int .i64 c', .int .i64 t']] w fun e w' => e = .returned (.agg #[.int .i64 (ltr c t c' t').1, .int .i64 (ltr c t c' t').2]) ∧ Below w.heap.size w w' := by
  by_cases h : c < c'
  · have e : ltr c t c' t' = (c', t') := by unfold ltr; rw [if_pos h]
    rw [e]
    go_enter Try.func110, Try.ntmps110
    go_wp2
    refine ret_cell (b := w.heap.size + 1 + 1) (v := .agg #[.int .i64 c', .int .i64 t']) Try.results110 rfl (by go_simp) ⟨rfl, ?_⟩
    exact (((Below.refl w.heap.size w).alloc (Nat.le_refl _) _).alloc (by simp) _).alloc (by simp; omega) _
  · have e : ltr c t c' t' = (c, t) := by unfold ltr; rw [if_neg h]
    rw [e]
    go_enter Try.func110, Try.ntmps110
    go_wp2
    refine ret_cell (b := w.heap.size + 1 + 1) (v := .agg #[.int .i64 c, .int .i64 t]) Try.results110 rfl (by go_simp) ⟨rfl, ?_⟩
    exact (((Below.refl w.heap.size w).alloc (Nat.le_refl _) _).alloc (by simp) _).alloc (by simp; omega) _
theorem subE_miss {k : Nat} {E : Nat → Int} {x : Int} (h : ¬ hasE k E x) : subE k E x = (k, E) := by unfold subE; rw [if_neg h]
theorem subE_ne {n k : Nat} {E : Nat → Int} {x : Int} (h : idsOk n (k + 1) E) (hx : E k ≠ x) : (subE (k + 1) E x).1 = (subE k E x).1 + 1 ∧ ∀ i, i < (subE k E x).1 + 1 → updE (subE k E x).2 (subE k E x).1 (E k) i = (subE (k + 1) E x).2 i := by
  have h0 : idsOk n k E := fun i hi => h i (by omega)
  by_cases q : hasE k E x
  · have q1 : hasE (k + 1) E x := by obtain ⟨i, hi, e⟩ := q; exact ⟨i, by omega, e⟩
    obtain ⟨a, b⟩ := ids_has h0 q
    have ep : plcE x E (k + 1) = plcE x E k := plcE_is (by omega) (fun i hi => plcE_lt x k E i hi) (.inr (by omega))
    have e1 : subE k E x = (k - 1, delN (plcE x E k) E) := by unfold subE; rw [if_pos q]
    have e2 : subE (k + 1) E x = (k, delN (plcE x E k) E) := by unfold subE; rw [if_pos q1, ep]; rfl
    rw [e1, e2]
    refine ⟨by dsimp only; omega, fun i hi => ?_⟩
    dsimp only at hi ⊢
    unfold updE
    by_cases e : i = k - 1
    · rw [if_pos e]
      unfold delN
      rw [if_neg (by omega), show i + 1 = k by omega]
    · rw [if_neg e]
  · have q1 : ¬ hasE (k + 1) E x := fun ⟨i, hi, e⟩ => by
      rcases Nat.lt_or_ge i k with z | z
      · exact q ⟨i, z, e⟩
      · obtain rfl : i = k := by omega
        exact hx e
    rw [subE_miss q, subE_miss q1]
    refine ⟨rfl, fun i hi => ?_⟩
    unfold updE
    dsimp only
    by_cases e : i = k
    · rw [if_pos e, e]
    · rw [if_neg e]
theorem subE_eq {n k : Nat} {E : Nat → Int} (h : idsOk n (k + 1) E) : subE k E (E k) = (k, E) ∧ (subE (k + 1) E (E k)).1 = k ∧ ∀ i, i < k → (subE (k + 1) E (E k)).2 i = E i := by
  have q : ¬ hasE k E (E k) := fun ⟨i, hi, e⟩ => by have := ids_lt h k i hi (by omega); omega
  have q1 : hasE (k + 1) E (E k) := ⟨k, by omega, rfl⟩
  have ep : plcE (E k) E (k + 1) = k := plcE_is (by omega) (fun i hi => ids_lt h k i hi (by omega)) (.inr (by omega))
  have e2 : subE (k + 1) E (E k) = (k, delN k E) := by unfold subE; rw [if_pos q1, ep]; rfl
  refine ⟨subE_miss q, by rw [e2], fun i hi => ?_⟩
  rw [e2]
  show delN k E i = E i
  unfold delN
  rw [if_pos hi]
set_option maxRecDepth 100000 in
set_option maxHeartbeats 2000000 in
theorem l09Without_any (N : Nat) (a : Option Addr) (n c : Nat) (E : Nat → Int) (x : Int) (hE : idsOk N n E) (hn : n ≤ 1000) (w : World) (h : Num w a n E) :
    Calls Try.prog 107 #[.slice a n c, .int .i64 x] w fun e w' => (∃ b d, e = .returned (.slice b (subE n E x).1 d) ∧ IE w' w.heap.size (.slice b (subE n E x).1 d) (subE n E x).1 (subE n E x).2) ∧ Below w.heap.size w w' := by
  have H : Hid (Num w a n E) := h
  have HE : Hid (idsOk N n E) := hE
  have W1 : Hid (Below w.heap.size w (w.alloc (.cells #[] 3))) := (Below.refl _ _).alloc (Nat.le_refl _) _
  have L0 : Hid (IE (w.alloc (.cells #[] 3)) w.heap.size (.slice (some ⟨w.heap.size, 0, none⟩) 0 0) (subE 0 E x).1 (subE 0 E x).2) := by
    show IE _ _ _ _ _
    rw [subE_miss (fun ⟨i, hi, _⟩ => by omega)]
    exact IE.lit w _ (Nat.le_refl _) _
  clear h hE
  go_enter Try.func107, Try.ntmps107
  go_wp2
  generalize (w.alloc (.cells #[] 3)) = v at *
  generalize hv0 : Value.slice (some ⟨w.heap.size, 0, none⟩) 0 0 = v0 at *
  clear hv0
  go_loopw [5, 6] (fun l i wr => ∃ k : Nat, k ≤ n ∧ i = .int .i64 k ∧ IE wr w.heap.size l (subE k E x).1 (subE k E x).2 ∧ Below w.heap.size w wr) (fun _ i _ => n - (intOf i).toNat)
  case atStart => exact ⟨0, by omega, rfl, L0.out, W1.out⟩
  case round =>
    clear L0 W1
    obtain ⟨k, hk, rfl, L, hb⟩ := hrel
    obtain ⟨pa, pc, rfl⟩ := EO.form L
    have HB : Hid (Below w.heap.size w wr) := hb
    by_cases hlt : k < n
    · have hlt' : (k : Int) < (n : Int) := by omega
      obtain ⟨b, off, rfl, hc⟩ := (H.out.below hb).at (by omega)
      have c0 := hc k hlt
      have hE1 : idsOk N (k + 1) E := fun i hi => HE.out i (by omega)
      by_cases q : E k = x
      · have S1 := subE_eq hE1
        rw [q] at S1
        have LN : Hid (IE wr w.heap.size (.slice pa (subE k E x).1 pc) (subE (k + 1) E x).1 (subE (k + 1) E x).2) := by
          show IE _ _ _ _ _
          rw [S1.2.1]
          rw [S1.1] at L ⊢
          exact IE.congr L (fun i hi => (S1.2.2 i hi).symm)
        rw [q] at c0
        have qb : (x != x) = false := by simp
        clear hc L S1 hb q
        go_wp2
        go_roundw
        case rel => exact ⟨k + 1, by omega, by go_num, LN.out, HB.out⟩
        case measure => simp [intOf]; omega
      · obtain ⟨s1, s2⟩ := subE_ne hE1 q
        have qb : (E k != x) = true := by simp; exact q
        have hA : Below wr.heap.size wr (wr.alloc (.cells #[.int .i64 (E k)] 3)) := (Below.refl _ _).alloc (Nat.le_refl _) _
        have hsz := HB.out.size
        have hle : (subE k E x).1 ≤ 1000 := by
          have : (subE k E x).1 ≤ k := by unfold subE; split <;> (dsimp only; omega)
          omega
        obtain ⟨v9, w4, hr9, ho9, hg, -⟩ := appInI (wr.alloc (.cells #[.int .i64 (E k)] 3)) w.heap.size (.slice pa (subE k E x).1 pc) (subE k E x).1 wr.heap.size (subE k E x).2 (E k) (Nat.le_trans hsz hA.size) (by omega) (EO.below L hA) (fun j hj => by
          obtain rfl : j = 0 := by omega
          exact (BoxN.made wr (E k)).c0)
        have BW : Below w.heap.size w w4 := (HB.out.trans (hA.mono hsz)).trans ((Below.refl _ _).grown hg (Nat.le_trans hsz hA.size) (fun y hy => (EO.ge L y hy).1))
        have LN : Hid (IE w4 w.heap.size v9 (subE (k + 1) E x).1 (subE (k + 1) E x).2) := by
          show IE _ _ _ _ _
          rw [s1]
          exact IE.congr ho9 s2
        have BH : Hid (Below w.heap.size w w4) := BW
        have HAP : Hid _ := hr9
        generalize (subE k E x).1 = p at *
        clear hc L hb HB hA ho9 hg BW s1 s2 hr9 hsz hle
        go_wp2_with (at_builtin; refine Lib.wpList_append_run _ rfl (.tmp 20) (.tmp 25) _ _ rfl _ _ rfl rfl _ _ (HAP.out _) ?_)
        go_roundw
        case rel => exact ⟨k + 1, by omega, by go_num, LN.out, BH.out⟩
        case measure => simp [intOf]; omega
    · have hlt' : ¬ (k : Int) < (n : Int) := by omega
      obtain rfl : n = k := by omega
      have Q : Hid (∃ b d, (Ending.returned (.slice pa (subE n E x).1 pc)) = .returned (.slice b (subE n E x).1 d) ∧ IE wr w.heap.size (.slice b (subE n E x).1 d) (subE n E x).1 (subE n E x).2) := ⟨pa, pc, rfl, L⟩
      clear L hb
      go_wp2
      go_ret
      exact ⟨Q.out, HB.out⟩
end Go.Proofs.Ytdoacpnjggdojaa
