/-
  Files that rise by path: binary search in them, and what is found (written by tools/mkfilef.py).
-/
import Derived.Test.YtgcdoabcopihlaaGreatOrdP
import Derived.Test.YtgcdoabcopihlaaGreatFileS
import Derived.Test.YtgcdoabcopihlaaGreatBox3
import Derived.Test.YtgcdoabcopihlaaGreatRetCell
namespace Go.Proofs.YtgcdoabcopihlaaGreat
open Go.ChangeShapes Go.WideShapes Go.ChangeAt Go.RowKit
set_option linter.unusedVariables false
set_option maxRecDepth 100000 in
theorem byPath_any (p : ByteArray) (d : Bool) (t q : ByteArray) (hp : p.size ≤ 40) (hq : q.size ≤ 40) (w : World) :
    Calls Tryz.prog 31 #[.agg #[.string p, .bool d, .string t], .string q] w fun e w' => e = .returned (.int .i64 (cmpI (ord p) (ord q))) ∧ Below w.heap.size w w' := by
  have HC : Hid (∀ w : World, Calls Tryz.prog 68 #[.string p, .string q] w fun e w' => e = .returned (.int .i64 (cmpI (ord p) (ord q))) ∧ w' = w) := compare_any p q hp hq
  have HB : Hid (Below w.heap.size w (w.alloc (.cells #[.string p, .bool d, .string t] 51))) := (Below.refl w.heap.size w).alloc (Nat.le_refl _) _
  generalize cmpI (ord p) (ord q) = y at *
  clear hp hq
  go_enter Tryz.func31, Tryz.ntmps31
  go_wp2_with fail
  refine (HC.out _).mono ?_
  rintro e w' ⟨rfl, rfl⟩
  clear HC
  go_wp2
  go_ret
  exact ⟨rfl, HB.out⟩
theorem Box3.loadfi {w : World} {b : Nat} {x y z : Value} (h : Box3 w b 51 x y z) : (loadVar 51 ⟨b, 0, none⟩).run Tryz.prog w = .ok (.agg #[x, y, z]) w := by
  have h0 := h.c0
  have h1 := h.c1
  have h2 := h.c2
  go_simp
set_option maxRecDepth 100000 in
set_option maxHeartbeats 2000000 in
/-- slices.BinarySearchFunc in elements that rise. -/
theorem searchFile_any (a : Option Addr) (n c : Nat) (FI : Nat → Fi) (P : ByteArray) (hS : (∀ i, i < n → (FI i).p.size ≤ 40) ∧ P.size ≤ 40) (k : Nat) (hP : Pos (fun i => ord (FI i).p) n (ord P) k) (hn : n ≤ 1048576) (w : World) (h : Els w 3 a n (fiF FI)) (z : Bool) (hz : z = okB (k < n ∧ ord (FI k).p = ord P)) :
    Calls Tryz.prog 103 #[.slice a n c, .string P, .func (.func 31) #[] #[]] w fun e w' => e = .returned (.tuple #[.int .i64 k, .bool z]) ∧ Below w.heap.size w w' := by
  have HP : Hid (Pos (fun i => ord (FI i).p) n (ord P) k) := hP
  have HZ : Hid (z = okB (k < n ∧ ord (FI k).p = ord P)) := hz
  have H : Hid (Els w 3 a n (fiF FI)) := h
  have BV : Hid (∀ (i : Nat), i < n → ∀ (w : World), Calls Tryz.prog 31 #[.agg #[.string (FI i).p, .bool (FI i).d, .string (FI i).t], .string P] w fun e w' => e = .returned (.int .i64 (cmpI (ord (FI i).p) (ord P))) ∧ Below w.heap.size w w') := fun i hi w => byPath_any _ _ _ _ (hS.1 i hi) hS.2 w
  have hk := hP.1
  clear hP hz h hS
  go_enter Tryz.func103, Tryz.ntmps103
  go_wp2
  go_loopw [9, 10] (fun i j wr => ∃ lo hi : Nat, i = .int .i64 lo ∧ j = .int .i64 hi ∧ lo ≤ k ∧ k ≤ hi ∧ hi ≤ n ∧ Below w.heap.size w wr) (fun i j _ => (intOf j).toNat - (intOf i).toNat)
  case atStart => exact ⟨0, n, rfl, rfl, Nat.zero_le _, hk, Nat.le_refl _, Below.refl _ _⟩
  case round =>
    obtain ⟨lo, hi, rfl, rfl, h1, h2, h3, hb⟩ := hrel
    have HB : Hid (Below w.heap.size w wr) := hb
    by_cases hlt : lo < hi
    · have hlt' : (lo : Int) < (hi : Int) := by omega
      obtain ⟨b, off, rfl, hc⟩ := (H.out.below hb).opened (by omega)
      obtain ⟨m, hm⟩ : ∃ m, m = (lo + hi) / 2 := ⟨_, rfl⟩
      have hm1 : lo ≤ m := by omega
      have hm2 : m < hi := by omega
      have em : ((lo : Int) + (hi : Int)) / 2 = (m : Int) := by omega
      obtain ⟨c0, c1, c2⟩ := Els.fiC hc m (by omega)
      have BM := BV.out m (by omega)
      have hmn : (m : Int) < (n : Int) := by omega
      have HC : Hid (∀ y, cmpI (ord (FI m).p) (ord P) = y → (y < 0 → m < k) ∧ (¬ y < 0 → k ≤ m)) := fun y hy => by
        constructor
        · intro q
          rcases Nat.lt_or_ge m k with g | g
          · exact g
          · have := HP.out.2.2 m g (by omega)
            dsimp only at this
            unfold cmpI at hy
            rw [if_neg (by omega)] at hy
            split at hy <;> omega
        · intro q
          rcases Nat.lt_or_ge m k with g | g
          · have := HP.out.2.1 m g
            dsimp only at this
            unfold cmpI at hy
            rw [if_pos this] at hy
            omega
          · exact g
      obtain ⟨y, hy⟩ : ∃ y, cmpI (ord (FI m).p) (ord P) = y := ⟨_, rfl⟩
      rw [hy] at BM
      have HY := HC.out y hy
      have MM : Hid (m = (lo + hi) / 2) := hm
      have BMH : Hid (∀ w : World, Calls Tryz.prog 31 #[.agg #[.string (FI m).p, .bool (FI m).d, .string (FI m).t], .string P] w fun e w' => e = .returned (.int .i64 y) ∧ Below w.heap.size w w') := BM
      clear hc hb BM HC hy BV hm
      by_cases hy0 : y < 0
      · have hk1 := HY.1 hy0
        clear HY
        go_wp2_with fail
        refine (BMH.out _).mono ?_
        rintro e w1 ⟨rfl, hb⟩
        have B1 : Hid (Below w.heap.size w w1) := HB.out.trans (hb.mono HB.out.size)
        clear hb HB BMH c0 c1 c2
        go_wp2
        go_roundw
        case rel => exact ⟨m + 1, hi, by go_num, rfl, by omega, h2, h3, B1.out⟩
        case measure => simp [intOf]; omega
      · have hk1 := HY.2 hy0
        clear HY
        go_wp2_with fail
        refine (BMH.out _).mono ?_
        rintro e w1 ⟨rfl, hb⟩
        have B1 : Hid (Below w.heap.size w w1) := HB.out.trans (hb.mono HB.out.size)
        clear hb HB BMH c0 c1 c2
        go_wp2
        go_roundw
        case rel => exact ⟨lo, m, rfl, by go_num, h1, by omega, by omega, B1.out⟩
        case measure => simp [intOf]; omega
    · obtain rfl : hi = lo := by omega
      obtain rfl : k = hi := by omega
      have hlt' : ¬ (k : Int) < (k : Int) := by omega
      by_cases hkn : k < n
      · have hkn' : (k : Int) < (n : Int) := by omega
        obtain ⟨b, off, rfl, hc⟩ := (H.out.below hb).opened (by omega)
        obtain ⟨c0, c1, c2⟩ := Els.fiC hc k hkn
        have BM := BV.out k hkn
        have HG := HP.out.2.2 k (Nat.le_refl _) hkn
        dsimp only at HG
        by_cases q : ord (FI k).p = ord P
        · rw [cmpI_eq q] at BM
          have BMH : Hid (∀ w : World, Calls Tryz.prog 31 #[.agg #[.string (FI k).p, .bool (FI k).d, .string (FI k).t], .string P] w fun e w' => e = .returned (.int .i64 0) ∧ Below w.heap.size w w') := BM
          obtain rfl : z = true := by rw [HZ.out]; exact okB_yes ⟨hkn, q⟩
          clear hc hb BM BV q HG
          go_wp2_with fail
          refine (BMH.out _).mono ?_
          rintro e w1 ⟨rfl, hb⟩
          have B1 : Hid (Below w.heap.size w w1) := HB.out.trans (hb.mono HB.out.size)
          clear hb HB BMH c0 c1 c2
          go_wp2
          go_ret2
          exact ⟨rfl, B1.out⟩
        · rw [cmpI_gt (show ord P < ord (FI k).p by omega)] at BM
          have BMH : Hid (∀ w : World, Calls Tryz.prog 31 #[.agg #[.string (FI k).p, .bool (FI k).d, .string (FI k).t], .string P] w fun e w' => e = .returned (.int .i64 1) ∧ Below w.heap.size w w') := BM
          obtain rfl : z = false := by rw [HZ.out]; exact okB_no (fun u => q u.2)
          clear hc hb BM BV q HG
          go_wp2_with fail
          refine (BMH.out _).mono ?_
          rintro e w1 ⟨rfl, hb⟩
          have B1 : Hid (Below w.heap.size w w1) := HB.out.trans (hb.mono HB.out.size)
          clear hb HB BMH c0 c1 c2
          go_wp2
          go_ret2
          exact ⟨rfl, B1.out⟩
      · have hkn' : ¬ (k : Int) < (n : Int) := by omega
        obtain rfl : z = false := by rw [HZ.out]; exact okB_no (fun u => hkn u.1)
        clear hb BV
        go_wp2
        go_ret2
        exact ⟨rfl, HB.out⟩
set_option maxRecDepth 100000 in
set_option maxHeartbeats 1000000 in
/-- find: what has the number, or the zero value. -/
theorem findFile_any (a : Option Addr) (n c : Nat) (FI : Nat → Fi) (P : ByteArray) (hS : (∀ i, i < n → (FI i).p.size ≤ 40) ∧ P.size ≤ 40) (k : Nat) (hP : Pos (fun i => ord (FI i).p) n (ord P) k) (hn : n ≤ 1048576) (w : World) (h : Els w 3 a n (fiF FI)) (y : Fi) (hy : (k < n ∧ ord (FI k).p = ord P ∧ y = FI k) ∨ (¬ (k < n ∧ ord (FI k).p = ord P) ∧ y = fiZ)) :
    Calls Tryz.prog 70 #[.slice a n c, .string P, .func (.func 31) #[] #[]] w fun e w' => e = .returned (.agg #[.string y.p, .bool y.d, .string y.t]) ∧ Below w.heap.size w w' := by
  have QE : Hid (∀ (z : Bool) (w : World), Els w 3 a n (fiF FI) → z = okB (k < n ∧ ord (FI k).p = ord P) → Calls Tryz.prog 103 #[.slice a n c, .string P, .func (.func 31) #[] #[]] w fun e w' => e = .returned (.tuple #[.int .i64 k, .bool z]) ∧ Below w.heap.size w w') := fun z w h hz => searchFile_any a n c FI P hS k hP hn w h z hz
  have H : Hid (Els w 3 a n (fiF FI)) := h
  have A1 : Hid (Below w.heap.size w (w.alloc (.cells #[.string ⟨#[]⟩, .bool false, .string ⟨#[]⟩] 51))) := (Below.refl _ _).alloc (Nat.le_refl _) _
  have X : Hid (Box3 (w.alloc (.cells #[.string ⟨#[]⟩, .bool false, .string ⟨#[]⟩] 51)) w.heap.size 51 (.string ⟨#[]⟩) (.bool false) (.string ⟨#[]⟩)) := Box3.madeAt rfl _ _ _ _
  clear h hP hS
  rcases hy with ⟨q1, q2, rfl⟩ | ⟨q, rfl⟩
  · have e1 : true = okB (k < n ∧ ord (FI k).p = ord P) := (okB_yes ⟨q1, q2⟩).symm
    have SH : Hid (∀ (w : World), Els w 3 a n (fiF FI) → Calls Tryz.prog 103 #[.slice a n c, .string P, .func (.func 31) #[] #[]] w fun e w' => e = .returned (.tuple #[.int .i64 k, .bool true]) ∧ Below w.heap.size w w') := fun w h => QE.out true w h e1
    clear QE e1 q2
    have q1' : (k : Int) < (n : Int) := by omega
    go_enter Tryz.func70, Tryz.ntmps70
    go_wp2_with fail
    generalize (w.alloc (.cells #[.string ⟨#[]⟩, .bool false, .string ⟨#[]⟩] 51)) = v at *
    refine (SH.out _ (H.out.below A1.out)).mono ?_
    rintro e w1 ⟨rfl, hb⟩
    replace A1 : Hid (Below w.heap.size w w1) := A1.out.trans (hb.mono A1.out.size)
    replace X : Hid (Box3 w1 w.heap.size 51 (.string ⟨#[]⟩) (.bool false) (.string ⟨#[]⟩)) := X.out.below hb
    obtain ⟨b, off, rfl, hc⟩ := (H.out.below A1.out).opened (by omega)
    obtain ⟨c0, c1, c2⟩ := Els.fiC hc k q1
    have u0 := X.out.c0
    have f0 := X.out.fr 0
    have u1 := X.out.c1
    have f1 := X.out.fr 1
    have u2 := X.out.c2
    have f2 := X.out.fr 2
    clear hb hc
    go_wp2
    exact ret_cell (b := w.heap.size) Tryz.results70 rfl (Box3.loadfi (((X.out.set0 _).set1 _).set2 _)) ⟨rfl, (((A1.out.setCell (by simp) _).setCell (by simp) _).setCell (by simp) _)⟩
  · have e1 : false = okB (k < n ∧ ord (FI k).p = ord P) := (okB_no q).symm
    have SH : Hid (∀ (w : World), Els w 3 a n (fiF FI) → Calls Tryz.prog 103 #[.slice a n c, .string P, .func (.func 31) #[] #[]] w fun e w' => e = .returned (.tuple #[.int .i64 k, .bool false]) ∧ Below w.heap.size w w') := fun w h => QE.out false w h e1
    clear QE e1 q
    go_enter Tryz.func70, Tryz.ntmps70
    go_wp2_with fail
    generalize (w.alloc (.cells #[.string ⟨#[]⟩, .bool false, .string ⟨#[]⟩] 51)) = v at *
    refine (SH.out _ (H.out.below A1.out)).mono ?_
    rintro e w1 ⟨rfl, hb⟩
    replace A1 : Hid (Below w.heap.size w w1) := A1.out.trans (hb.mono A1.out.size)
    replace X : Hid (Box3 w1 w.heap.size 51 (.string ⟨#[]⟩) (.bool false) (.string ⟨#[]⟩)) := X.out.below hb
    have lt := X.out.lt
    have u0 := X.out.c0
    have f0 := X.out.fr 0
    have u1 := X.out.c1
    have f1 := X.out.fr 1
    have u2 := X.out.c2
    have f2 := X.out.fr 2
    clear hb
    go_wp2
    exact ret_cell (b := w.heap.size) (v := .agg #[.string ⟨#[]⟩, .bool false, .string ⟨#[]⟩]) Tryz.results70 rfl (Box3.loadfi (Box3.alloc (((X.out.set0 _).set1 _).set2 _) _)) ⟨rfl, ((((A1.out.setCell (by simp) _).setCell (by simp) _).setCell (by simp) _)).alloc (by have := A1.out.size; simpa using this) _⟩
end Go.Proofs.YtgcdoabcopihlaaGreat
