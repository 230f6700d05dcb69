/-
  Texts of the proof, joined: BankBs.
-/
import Derived.Test.YtpngjkhncfbnpaaDoorV19
import Derived.Test.YtpngjkhncfbnpaaDoorV22
import Derived.Test.YtpngjkhncfbnpaaDoorV14
namespace Go.Proofs.YtpngjkhncfbnpaaDoor
open Go.ChangeShapes Go.WideShapes Go.ChangeAt Go.RowKit
set_option linter.unusedVariables false
def Pos (f : Nat → Int) (n : Nat) (x : Int) (k : Nat) : Prop := k ≤ n ∧ (∀ i, i < k → f i < x) ∧ (∀ i, k ≤ i → i < n → x ≤ f i)
def posN (f : Nat → Int) (x : Int) : Nat → Nat
  | 0 => 0
  | n + 1 => if posN f x n < n then posN f x n else if f n < x then n + 1 else n
theorem posN_le (f : Nat → Int) (x : Int) : ∀ n, posN f x n ≤ n
  | 0 => Nat.le_refl _
  | n + 1 => by
    have := posN_le f x n
    unfold posN
    split
    · omega
    · split <;> omega
theorem posN_below (f : Nat → Int) (x : Int) : ∀ n, ∀ i, i < posN f x n → f i < x
  | 0, i, h => by simp [posN] at h
  | n + 1, i, h => by
    have h0 := posN_le f x n
    unfold posN at h
    split at h
    · exact posN_below f x n i h
    · split at h
      · rcases Nat.lt_or_ge i n with g | g
        · exact posN_below f x n i (by omega)
        · obtain rfl : i = n := by omega
          assumption
      · exact posN_below f x n i (by omega)
theorem posN_at (f : Nat → Int) (x : Int) : ∀ n, posN f x n < n → x ≤ f (posN f x n)
  | 0, h => by simp [posN] at h
  | n + 1, h => by
    have h0 := posN_le f x n
    unfold posN at h ⊢
    split
    · exact posN_at f x n (by assumption)
    · rename_i g
      rw [if_neg g] at h
      split
      · rename_i g2
        rw [if_pos g2] at h
        omega
      · omega
def Rises (f : Nat → Int) (n : Nat) : Prop := ∀ i j, i < j → j < n → f i < f j
theorem rises_of {f : Nat → Int} {n : Nat} (h : ∀ i, i < n → 0 < i → f (i - 1) < f i) : Rises f n := fun i j hij => by
  induction j with
  | zero => omega
  | succ j ih =>
    intro hj
    have h1 := h (j + 1) hj (by omega)
    rw [show j + 1 - 1 = j from by omega] at h1
    rcases Nat.lt_or_ge i j with g | g
    · have := ih g (by omega); omega
    · obtain rfl : i = j := by omega
      exact h1
theorem pos_of {f : Nat → Int} {n : Nat} (h : Rises f n) (x : Int) : Pos f n x (posN f x n) := ⟨posN_le f x n, posN_below f x n, fun i h1 h2 => by
  have h0 := posN_at f x n (by omega)
  rcases Nat.lt_or_ge (posN f x n) i with g | g
  · have := h _ _ g h2; omega
  · obtain rfl : i = posN f x n := by omega
    exact h0⟩
theorem Box3.loadrg {w : World} {b : Nat} {x y z : Value} (h : Box3 w b 54 x y z) : (loadVar 54 ⟨b, 0, none⟩).run Tryd.prog w = .ok (.agg #[x, y, z]) w := by
  have h0 := h.c0
  have h1 := h.c1
  have h2 := h.c2
  go_simp
theorem Box4.loadse {w : World} {b : Nat} {x y z m : Value} (h : Box4 w b 100 x y z m) : (loadVar 100 ⟨b, 0, none⟩).run Tryd.prog w = .ok (.agg #[x, y, z, m]) w := by
  have h0 := h.c0
  have h1 := h.c1
  have h2 := h.c2
  have h3 := h.c3
  go_simp
set_option maxRecDepth 100000 in
set_option maxHeartbeats 2000000 in
theorem searchRegister_any (a : Option Addr) (n c : Nat) (RG : Nat → Rg) (x : Int) (k : Nat) (hP : Pos (fun i => (RG i).v) n x k) (hn : n ≤ 1048576) (w : World) (h : Els w 3 a n (rgF RG)) (z : Bool) (hz : z = okB (k < n ∧ (RG k).v = x)) :
    Calls Tryd.prog 95 #[.slice a n c, .int .i64 x, .func (.func 58) #[] #[]] w fun e w' => e = .returned (.tuple #[.int .i64 k, .bool z]) ∧ Below w.heap.size w w' := by
  have HP : Hid (Pos (fun i => (RG i).v) n x k) := hP
  have HZ : Hid (z = okB (k < n ∧ (RG k).v = x)) := hz
  have H : Hid (Els w 3 a n (rgF RG)) := h
  have BV : Hid (∀ (i : Nat) (w : World), Calls Tryd.prog 58 #[.agg #[.int .i64 (RG i).v, .int .i64 (RG i).c, .string (RG i).r], .int .i64 x] w fun e w' => e = .returned (.int .i64 (cmpI (RG i).v x)) ∧ Below w.heap.size w w') := fun i w => byVolume_any _ _ _ _ w
  have hk := hP.1
  clear hP hz h
  go_enter Tryd.func95, Tryd.ntmps95
  go_wp2
  go_loopw [9, 10] (fun i j wr => ∃ lo hi : Nat, i = .int .i64 lo ∧ j = .int .i64 hi ∧ lo ≤ k ∧ k ≤ hi ∧ hi ≤ n ∧ Below w.heap.size w wr) (fun i j _ => (intOf j).toNat - (intOf i).toNat)
  case atStart => exact ⟨0, n, rfl, rfl, Nat.zero_le _, hk, Nat.le_refl _, Below.refl _ _⟩
  case round =>
    obtain ⟨lo, hi, rfl, rfl, h1, h2, h3, hb⟩ := hrel
    have HB : Hid (Below w.heap.size w wr) := hb
    by_cases hlt : lo < hi
    · have hlt' : (lo : Int) < (hi : Int) := by omega
      obtain ⟨b, off, rfl, hc⟩ := (H.out.below hb).opened (by omega)
      obtain ⟨m, hm⟩ : ∃ m, m = (lo + hi) / 2 := ⟨_, rfl⟩
      have hm1 : lo ≤ m := by omega
      have hm2 : m < hi := by omega
      have em : ((lo : Int) + (hi : Int)) / 2 = (m : Int) := by omega
      obtain ⟨c0, c1, c2⟩ := Els.rgC hc m (by omega)
      have BM := BV.out m
      have hmn : (m : Int) < (n : Int) := by omega
      have HC : Hid (∀ y, cmpI (RG m).v x = y → (y < 0 → m < k) ∧ (¬ y < 0 → k ≤ m)) := fun y hy => by
        constructor
        · intro q
          rcases Nat.lt_or_ge m k with g | g
          · exact g
          · have := HP.out.2.2 m g (by omega)
            dsimp only at this
            unfold cmpI at hy
            rw [if_neg (by omega)] at hy
            split at hy <;> omega
        · intro q
          rcases Nat.lt_or_ge m k with g | g
          · have := HP.out.2.1 m g
            dsimp only at this
            unfold cmpI at hy
            rw [if_pos this] at hy
            omega
          · exact g
      obtain ⟨y, hy⟩ : ∃ y, cmpI (RG m).v x = y := ⟨_, rfl⟩
      rw [hy] at BM
      have HY := HC.out y hy
      have MM : Hid (m = (lo + hi) / 2) := hm
      have BMH : Hid (∀ w : World, Calls Tryd.prog 58 #[.agg #[.int .i64 (RG m).v, .int .i64 (RG m).c, .string (RG m).r], .int .i64 x] w fun e w' => e = .returned (.int .i64 y) ∧ Below w.heap.size w w') := BM
      clear hc hb BM HC hy BV hm
      by_cases hy0 : y < 0
      · have hk1 := HY.1 hy0
        clear HY
        go_wp2_with fail
        refine (BMH.out _).mono ?_
        rintro e w1 ⟨rfl, hb⟩
        have B1 : Hid (Below w.heap.size w w1) := HB.out.trans (hb.mono HB.out.size)
        clear hb HB BMH c0 c1 c2
        go_wp2
        go_roundw
        case rel => exact ⟨m + 1, hi, by go_num, rfl, by omega, h2, h3, B1.out⟩
        case measure => simp [intOf]; omega
      · have hk1 := HY.2 hy0
        clear HY
        go_wp2_with fail
        refine (BMH.out _).mono ?_
        rintro e w1 ⟨rfl, hb⟩
        have B1 : Hid (Below w.heap.size w w1) := HB.out.trans (hb.mono HB.out.size)
        clear hb HB BMH c0 c1 c2
        go_wp2
        go_roundw
        case rel => exact ⟨lo, m, rfl, by go_num, h1, by omega, by omega, B1.out⟩
        case measure => simp [intOf]; omega
    · obtain rfl : hi = lo := by omega
      obtain rfl : k = hi := by omega
      have hlt' : ¬ (k : Int) < (k : Int) := by omega
      by_cases hkn : k < n
      · have hkn' : (k : Int) < (n : Int) := by omega
        obtain ⟨b, off, rfl, hc⟩ := (H.out.below hb).opened (by omega)
        obtain ⟨c0, c1, c2⟩ := Els.rgC hc k hkn
        have BM := BV.out k
        have HG := HP.out.2.2 k (Nat.le_refl _) hkn
        dsimp only at HG
        by_cases q : (RG k).v = x
        · rw [cmpI_eq q] at BM
          have BMH : Hid (∀ w : World, Calls Tryd.prog 58 #[.agg #[.int .i64 (RG k).v, .int .i64 (RG k).c, .string (RG k).r], .int .i64 x] w fun e w' => e = .returned (.int .i64 0) ∧ Below w.heap.size w w') := BM
          obtain rfl : z = true := by rw [HZ.out]; exact okB_yes ⟨hkn, q⟩
          clear hc hb BM BV q HG
          go_wp2_with fail
          refine (BMH.out _).mono ?_
          rintro e w1 ⟨rfl, hb⟩
          have B1 : Hid (Below w.heap.size w w1) := HB.out.trans (hb.mono HB.out.size)
          clear hb HB BMH c0 c1 c2
          go_wp2
          go_ret2
          exact ⟨rfl, B1.out⟩
        · rw [cmpI_gt (show x < (RG k).v by omega)] at BM
          have BMH : Hid (∀ w : World, Calls Tryd.prog 58 #[.agg #[.int .i64 (RG k).v, .int .i64 (RG k).c, .string (RG k).r], .int .i64 x] w fun e w' => e = .returned (.int .i64 1) ∧ Below w.heap.size w w') := BM
          obtain rfl : z = false := by rw [HZ.out]; exact okB_no (fun u => q u.2)
          clear hc hb BM BV q HG
          go_wp2_with fail
          refine (BMH.out _).mono ?_
          rintro e w1 ⟨rfl, hb⟩
          have B1 : Hid (Below w.heap.size w w1) := HB.out.trans (hb.mono HB.out.size)
          clear hb HB BMH c0 c1 c2
          go_wp2
          go_ret2
          exact ⟨rfl, B1.out⟩
      · have hkn' : ¬ (k : Int) < (n : Int) := by omega
        obtain rfl : z = false := by rw [HZ.out]; exact okB_no (fun u => hkn u.1)
        clear hb BV
        go_wp2
        go_ret2
        exact ⟨rfl, HB.out⟩
set_option maxRecDepth 100000 in
set_option maxHeartbeats 1000000 in
theorem findRegister_any (a : Option Addr) (n c : Nat) (RG : Nat → Rg) (x : Int) (k : Nat) (hP : Pos (fun i => (RG i).v) n x k) (hn : n ≤ 1048576) (w : World) (h : Els w 3 a n (rgF RG)) (y : Rg) (hy : (k < n ∧ (RG k).v = x ∧ y = RG k) ∨ (¬ (k < n ∧ (RG k).v = x) ∧ y = rgZ)) :
    Calls Tryd.prog 57 #[.slice a n c, .int .i64 x, .func (.func 58) #[] #[]] w fun e w' => e = .returned (.agg #[.int .i64 y.v, .int .i64 y.c, .string y.r]) ∧ Below w.heap.size w w' := by
  have QE : Hid (∀ (z : Bool) (w : World), Els w 3 a n (rgF RG) → z = okB (k < n ∧ (RG k).v = x) → Calls Tryd.prog 95 #[.slice a n c, .int .i64 x, .func (.func 58) #[] #[]] w fun e w' => e = .returned (.tuple #[.int .i64 k, .bool z]) ∧ Below w.heap.size w w') := fun z w h hz => searchRegister_any a n c RG x k hP hn w h z hz
  have H : Hid (Els w 3 a n (rgF RG)) := h
  have A1 : Hid (Below w.heap.size w (w.alloc (.cells #[.int .i64 0, .int .i64 0, .string ⟨#[]⟩] 54))) := (Below.refl _ _).alloc (Nat.le_refl _) _
  have X : Hid (Box3 (w.alloc (.cells #[.int .i64 0, .int .i64 0, .string ⟨#[]⟩] 54)) w.heap.size 54 (.int .i64 0) (.int .i64 0) (.string ⟨#[]⟩)) := Box3.madeAt rfl _ _ _ _
  clear h hP
  rcases hy with ⟨q1, q2, rfl⟩ | ⟨q, rfl⟩
  · have e1 : true = okB (k < n ∧ (RG k).v = x) := (okB_yes ⟨q1, q2⟩).symm
    have SH : Hid (∀ (w : World), Els w 3 a n (rgF RG) → Calls Tryd.prog 95 #[.slice a n c, .int .i64 x, .func (.func 58) #[] #[]] w fun e w' => e = .returned (.tuple #[.int .i64 k, .bool true]) ∧ Below w.heap.size w w') := fun w h => QE.out true w h e1
    clear QE e1 q2
    have q1' : (k : Int) < (n : Int) := by omega
    go_enter Tryd.func57, Tryd.ntmps57
    go_wp2_with fail
    generalize (w.alloc (.cells #[.int .i64 0, .int .i64 0, .string ⟨#[]⟩] 54)) = v at *
    refine (SH.out _ (H.out.below A1.out)).mono ?_
    rintro e w1 ⟨rfl, hb⟩
    replace A1 : Hid (Below w.heap.size w w1) := A1.out.trans (hb.mono A1.out.size)
    replace X : Hid (Box3 w1 w.heap.size 54 (.int .i64 0) (.int .i64 0) (.string ⟨#[]⟩)) := X.out.below hb
    obtain ⟨b, off, rfl, hc⟩ := (H.out.below A1.out).opened (by omega)
    obtain ⟨c0, c1, c2⟩ := Els.rgC hc k q1
    have u0 := X.out.c0
    have f0 := X.out.fr 0
    have u1 := X.out.c1
    have f1 := X.out.fr 1
    have u2 := X.out.c2
    have f2 := X.out.fr 2
    clear hb hc
    go_wp2
    exact ret_cell (b := w.heap.size) Tryd.results57 rfl (Box3.loadrg (((X.out.set0 _).set1 _).set2 _)) ⟨rfl, (((A1.out.setCell (by simp) _).setCell (by simp) _).setCell (by simp) _)⟩
  · have e1 : false = okB (k < n ∧ (RG k).v = x) := (okB_no q).symm
    have SH : Hid (∀ (w : World), Els w 3 a n (rgF RG) → Calls Tryd.prog 95 #[.slice a n c, .int .i64 x, .func (.func 58) #[] #[]] w fun e w' => e = .returned (.tuple #[.int .i64 k, .bool false]) ∧ Below w.heap.size w w') := fun w h => QE.out false w h e1
    clear QE e1 q
    go_enter Tryd.func57, Tryd.ntmps57
    go_wp2_with fail
    generalize (w.alloc (.cells #[.int .i64 0, .int .i64 0, .string ⟨#[]⟩] 54)) = v at *
    refine (SH.out _ (H.out.below A1.out)).mono ?_
    rintro e w1 ⟨rfl, hb⟩
    replace A1 : Hid (Below w.heap.size w w1) := A1.out.trans (hb.mono A1.out.size)
    replace X : Hid (Box3 w1 w.heap.size 54 (.int .i64 0) (.int .i64 0) (.string ⟨#[]⟩)) := X.out.below hb
    have lt := X.out.lt
    have u0 := X.out.c0
    have f0 := X.out.fr 0
    have u1 := X.out.c1
    have f1 := X.out.fr 1
    have u2 := X.out.c2
    have f2 := X.out.fr 2
    clear hb
    go_wp2
    exact ret_cell (b := w.heap.size) (v := .agg #[.int .i64 0, .int .i64 0, .string ⟨#[]⟩]) Tryd.results57 rfl (Box3.loadrg (Box3.alloc (((X.out.set0 _).set1 _).set2 _) _)) ⟨rfl, ((((A1.out.setCell (by simp) _).setCell (by simp) _).setCell (by simp) _)).alloc (by have := A1.out.size; simpa using this) _⟩
set_option maxRecDepth 100000 in
set_option maxHeartbeats 2000000 in
theorem searchSession_any (a : Option Addr) (n c : Nat) (SE : Nat → Se) (x : Int) (k : Nat) (hP : Pos (fun i => (SE i).id) n x k) (hn : n ≤ 1048576) (w : World) (h : Els w 4 a n (seF SE)) (z : Bool) (hz : z = okB (k < n ∧ (SE k).id = x)) :
    Calls Tryd.prog 109 #[.slice a n c, .int .i64 x, .func (.func 90) #[] #[]] w fun e w' => e = .returned (.tuple #[.int .i64 k, .bool z]) ∧ Below w.heap.size w w' := by
  have HP : Hid (Pos (fun i => (SE i).id) n x k) := hP
  have HZ : Hid (z = okB (k < n ∧ (SE k).id = x)) := hz
  have H : Hid (Els w 4 a n (seF SE)) := h
  have BV : Hid (∀ (i : Nat) (w : World), Calls Tryd.prog 90 #[.agg #[.int .i64 (SE i).id, .int .i64 (SE i).sq, .int .i64 (SE i).cd, .int .i64 (SE i).ma], .int .i64 x] w fun e w' => e = .returned (.int .i64 (cmpI (SE i).id x)) ∧ Below w.heap.size w w') := fun i w => byId_any _ _ _ _ _ w
  have hk := hP.1
  clear hP hz h
  go_enter Tryd.func109, Tryd.ntmps109
  go_wp2
  go_loopw [9, 10] (fun i j wr => ∃ lo hi : Nat, i = .int .i64 lo ∧ j = .int .i64 hi ∧ lo ≤ k ∧ k ≤ hi ∧ hi ≤ n ∧ Below w.heap.size w wr) (fun i j _ => (intOf j).toNat - (intOf i).toNat)
  case atStart => exact ⟨0, n, rfl, rfl, Nat.zero_le _, hk, Nat.le_refl _, Below.refl _ _⟩
  case round =>
    obtain ⟨lo, hi, rfl, rfl, h1, h2, h3, hb⟩ := hrel
    have HB : Hid (Below w.heap.size w wr) := hb
    by_cases hlt : lo < hi
    · have hlt' : (lo : Int) < (hi : Int) := by omega
      obtain ⟨b, off, rfl, hc⟩ := (H.out.below hb).opened (by omega)
      obtain ⟨m, hm⟩ : ∃ m, m = (lo + hi) / 2 := ⟨_, rfl⟩
      have hm1 : lo ≤ m := by omega
      have hm2 : m < hi := by omega
      have em : ((lo : Int) + (hi : Int)) / 2 = (m : Int) := by omega
      obtain ⟨c0, c1, c2, c3⟩ := Els.seC hc m (by omega)
      have BM := BV.out m
      have hmn : (m : Int) < (n : Int) := by omega
      have HC : Hid (∀ y, cmpI (SE m).id x = y → (y < 0 → m < k) ∧ (¬ y < 0 → k ≤ m)) := fun y hy => by
        constructor
        · intro q
          rcases Nat.lt_or_ge m k with g | g
          · exact g
          · have := HP.out.2.2 m g (by omega)
            dsimp only at this
            unfold cmpI at hy
            rw [if_neg (by omega)] at hy
            split at hy <;> omega
        · intro q
          rcases Nat.lt_or_ge m k with g | g
          · have := HP.out.2.1 m g
            dsimp only at this
            unfold cmpI at hy
            rw [if_pos this] at hy
            omega
          · exact g
      obtain ⟨y, hy⟩ : ∃ y, cmpI (SE m).id x = y := ⟨_, rfl⟩
      rw [hy] at BM
      have HY := HC.out y hy
      have MM : Hid (m = (lo + hi) / 2) := hm
      have BMH : Hid (∀ w : World, Calls Tryd.prog 90 #[.agg #[.int .i64 (SE m).id, .int .i64 (SE m).sq, .int .i64 (SE m).cd, .int .i64 (SE m).ma], .int .i64 x] w fun e w' => e = .returned (.int .i64 y) ∧ Below w.heap.size w w') := BM
      clear hc hb BM HC hy BV hm
      by_cases hy0 : y < 0
      · have hk1 := HY.1 hy0
        clear HY
        go_wp2_with fail
        refine (BMH.out _).mono ?_
        rintro e w1 ⟨rfl, hb⟩
        have B1 : Hid (Below w.heap.size w w1) := HB.out.trans (hb.mono HB.out.size)
        clear hb HB BMH c0 c1 c2 c3
        go_wp2
        go_roundw
        case rel => exact ⟨m + 1, hi, by go_num, rfl, by omega, h2, h3, B1.out⟩
        case measure => simp [intOf]; omega
      · have hk1 := HY.2 hy0
        clear HY
        go_wp2_with fail
        refine (BMH.out _).mono ?_
        rintro e w1 ⟨rfl, hb⟩
        have B1 : Hid (Below w.heap.size w w1) := HB.out.trans (hb.mono HB.out.size)
        clear hb HB BMH c0 c1 c2 c3
        go_wp2
        go_roundw
        case rel => exact ⟨lo, m, rfl, by go_num, h1, by omega, by omega, B1.out⟩
        case measure => simp [intOf]; omega
    · obtain rfl : hi = lo := by omega
      obtain rfl : k = hi := by omega
      have hlt' : ¬ (k : Int) < (k : Int) := by omega
      by_cases hkn : k < n
      · have hkn' : (k : Int) < (n : Int) := by omega
        obtain ⟨b, off, rfl, hc⟩ := (H.out.below hb).opened (by omega)
        obtain ⟨c0, c1, c2, c3⟩ := Els.seC hc k hkn
        have BM := BV.out k
        have HG := HP.out.2.2 k (Nat.le_refl _) hkn
        dsimp only at HG
        by_cases q : (SE k).id = x
        · rw [cmpI_eq q] at BM
          have BMH : Hid (∀ w : World, Calls Tryd.prog 90 #[.agg #[.int .i64 (SE k).id, .int .i64 (SE k).sq, .int .i64 (SE k).cd, .int .i64 (SE k).ma], .int .i64 x] w fun e w' => e = .returned (.int .i64 0) ∧ Below w.heap.size w w') := BM
          obtain rfl : z = true := by rw [HZ.out]; exact okB_yes ⟨hkn, q⟩
          clear hc hb BM BV q HG
          go_wp2_with fail
          refine (BMH.out _).mono ?_
          rintro e w1 ⟨rfl, hb⟩
          have B1 : Hid (Below w.heap.size w w1) := HB.out.trans (hb.mono HB.out.size)
          clear hb HB BMH c0 c1 c2 c3
          go_wp2
          go_ret2
          exact ⟨rfl, B1.out⟩
        · rw [cmpI_gt (show x < (SE k).id by omega)] at BM
          have BMH : Hid (∀ w : World, Calls Tryd.prog 90 #[.agg #[.int .i64 (SE k).id, .int .i64 (SE k).sq, .int .i64 (SE k).cd, .int .i64 (SE k).ma], .int .i64 x] w fun e w' => e = .returned (.int .i64 1) ∧ Below w.heap.size w w') := BM
          obtain rfl : z = false := by rw [HZ.out]; exact okB_no (fun u => q u.2)
          clear hc hb BM BV q HG
          go_wp2_with fail
          refine (BMH.out _).mono ?_
          rintro e w1 ⟨rfl, hb⟩
          have B1 : Hid (Below w.heap.size w w1) := HB.out.trans (hb.mono HB.out.size)
          clear hb HB BMH c0 c1 c2 c3
          go_wp2
          go_ret2
          exact ⟨rfl, B1.out⟩
      · have hkn' : ¬ (k : Int) < (n : Int) := by omega
        obtain rfl : z = false := by rw [HZ.out]; exact okB_no (fun u => hkn u.1)
        clear hb BV
        go_wp2
        go_ret2
        exact ⟨rfl, HB.out⟩
set_option maxRecDepth 100000 in
set_option maxHeartbeats 1000000 in
theorem findSession_any (a : Option Addr) (n c : Nat) (SE : Nat → Se) (x : Int) (k : Nat) (hP : Pos (fun i => (SE i).id) n x k) (hn : n ≤ 1048576) (w : World) (h : Els w 4 a n (seF SE)) (y : Se) (hy : (k < n ∧ (SE k).id = x ∧ y = SE k) ∨ (¬ (k < n ∧ (SE k).id = x) ∧ y = seZ)) :
    Calls Tryd.prog 89 #[.slice a n c, .int .i64 x, .func (.func 90) #[] #[]] w fun e w' => e = .returned (.agg #[.int .i64 y.id, .int .i64 y.sq, .int .i64 y.cd, .int .i64 y.ma]) ∧ Below w.heap.size w w' := by
  have QE : Hid (∀ (z : Bool) (w : World), Els w 4 a n (seF SE) → z = okB (k < n ∧ (SE k).id = x) → Calls Tryd.prog 109 #[.slice a n c, .int .i64 x, .func (.func 90) #[] #[]] w fun e w' => e = .returned (.tuple #[.int .i64 k, .bool z]) ∧ Below w.heap.size w w') := fun z w h hz => searchSession_any a n c SE x k hP hn w h z hz
  have H : Hid (Els w 4 a n (seF SE)) := h
  have A1 : Hid (Below w.heap.size w (w.alloc (.cells #[.int .i64 0, .int .i64 0, .int .i64 0, .int .i64 0] 100))) := (Below.refl _ _).alloc (Nat.le_refl _) _
  have X : Hid (Box4 (w.alloc (.cells #[.int .i64 0, .int .i64 0, .int .i64 0, .int .i64 0] 100)) w.heap.size 100 (.int .i64 0) (.int .i64 0) (.int .i64 0) (.int .i64 0)) := Box4.madeAt rfl _ _ _ _ _
  clear h hP
  rcases hy with ⟨q1, q2, rfl⟩ | ⟨q, rfl⟩
  · have e1 : true = okB (k < n ∧ (SE k).id = x) := (okB_yes ⟨q1, q2⟩).symm
    have SH : Hid (∀ (w : World), Els w 4 a n (seF SE) → Calls Tryd.prog 109 #[.slice a n c, .int .i64 x, .func (.func 90) #[] #[]] w fun e w' => e = .returned (.tuple #[.int .i64 k, .bool true]) ∧ Below w.heap.size w w') := fun w h => QE.out true w h e1
    clear QE e1 q2
    have q1' : (k : Int) < (n : Int) := by omega
    go_enter Tryd.func89, Tryd.ntmps89
    go_wp2_with fail
    generalize (w.alloc (.cells #[.int .i64 0, .int .i64 0, .int .i64 0, .int .i64 0] 100)) = v at *
    refine (SH.out _ (H.out.below A1.out)).mono ?_
    rintro e w1 ⟨rfl, hb⟩
    replace A1 : Hid (Below w.heap.size w w1) := A1.out.trans (hb.mono A1.out.size)
    replace X : Hid (Box4 w1 w.heap.size 100 (.int .i64 0) (.int .i64 0) (.int .i64 0) (.int .i64 0)) := X.out.below hb
    obtain ⟨b, off, rfl, hc⟩ := (H.out.below A1.out).opened (by omega)
    obtain ⟨c0, c1, c2, c3⟩ := Els.seC hc k q1
    have u0 := X.out.c0
    have f0 := X.out.fr 0
    have u1 := X.out.c1
    have f1 := X.out.fr 1
    have u2 := X.out.c2
    have f2 := X.out.fr 2
    have u3 := X.out.c3
    have f3 := X.out.fr 3
    clear hb hc
    go_wp2
    exact ret_cell (b := w.heap.size) Tryd.results89 rfl (Box4.loadse ((((X.out.set0 _).set1 _).set2 _).set3 _)) ⟨rfl, ((((A1.out.setCell (by simp) _).setCell (by simp) _).setCell (by simp) _).setCell (by simp) _)⟩
  · have e1 : false = okB (k < n ∧ (SE k).id = x) := (okB_no q).symm
    have SH : Hid (∀ (w : World), Els w 4 a n (seF SE) → Calls Tryd.prog 109 #[.slice a n c, .int .i64 x, .func (.func 90) #[] #[]] w fun e w' => e = .returned (.tuple #[.int .i64 k, .bool false]) ∧ Below w.heap.size w w') := fun w h => QE.out false w h e1
    clear QE e1 q
    go_enter Tryd.func89, Tryd.ntmps89
    go_wp2_with fail
    generalize (w.alloc (.cells #[.int .i64 0, .int .i64 0, .int .i64 0, .int .i64 0] 100)) = v at *
    refine (SH.out _ (H.out.below A1.out)).mono ?_
    rintro e w1 ⟨rfl, hb⟩
    replace A1 : Hid (Below w.heap.size w w1) := A1.out.trans (hb.mono A1.out.size)
    replace X : Hid (Box4 w1 w.heap.size 100 (.int .i64 0) (.int .i64 0) (.int .i64 0) (.int .i64 0)) := X.out.below hb
    have lt := X.out.lt
    have u0 := X.out.c0
    have f0 := X.out.fr 0
    have u1 := X.out.c1
    have f1 := X.out.fr 1
    have u2 := X.out.c2
    have f2 := X.out.fr 2
    have u3 := X.out.c3
    have f3 := X.out.fr 3
    clear hb
    go_wp2
    exact ret_cell (b := w.heap.size) (v := .agg #[.int .i64 0, .int .i64 0, .int .i64 0, .int .i64 0]) Tryd.results89 rfl (Box4.loadse (Box4.alloc ((((X.out.set0 _).set1 _).set2 _).set3 _) _)) ⟨rfl, (((((A1.out.setCell (by simp) _).setCell (by simp) _).setCell (by simp) _).setCell (by simp) _)).alloc (by have := A1.out.size; simpa using this) _⟩
end Go.Proofs.YtpngjkhncfbnpaaDoor
