/-
  Right leaves: wrongLeaf, LeavesOK and leavesFault of the program, l10Leaf and LeavesOK of the model.
-/
import Derived.Test.YtpljdlgjeeikkaaDoorLeafS
import Derived.Test.YtpljdlgjeeikkaaDoorInAny
namespace Go.Proofs.YtpljdlgjeeikkaaDoor
open Go.ChangeShapes Go.WideShapes Go.ChangeAt Go.RowKit
set_option linter.unusedVariables false
open Classical in
noncomputable def tB (P : Prop) : Bool := decide P
theorem tB_yes {P : Prop} (h : P) : tB P = true := by unfold tB; simp [h]
theorem tB_no {P : Prop} (h : ¬ P) : tB P = false := by unfold tB; simp [h]
theorem tB_iff {P : Prop} : tB P = true ↔ P := by unfold tB; simp
/-- A leaf is right. -/
def Lf.Ok (x : Lf) : Prop := (0 ≤ x.v ∧ x.v ≤ 4294967295) ∧ x.h.size = 32
/-- Leaves are right. -/
def LsOk (n : Nat) (LF : Nat → Lf) : Prop := n ≤ 32 ∧ ∀ i, i < n → (LF i).Ok
theorem isWord_t (x : Int) (r : Bool) (hr : r = decide (0 ≤ x ∧ x ≤ 4294967295)) (w : World) :
    Calls Tryd.prog 37 #[.int .i64 x] w fun e w' => e = .returned (.bool r) ∧ w = w' := by
  by_cases h1 : 0 ≤ x
  · by_cases h2 : x ≤ 4294967295
    · obtain rfl : r = true := by rw [hr]; simp; omega
      clear hr
      go_enter Tryd.func37, Tryd.ntmps37
      go_wp2
      go_ret
      exact ⟨rfl, rfl⟩
    · obtain rfl : r = false := by rw [hr]; simp; omega
      clear hr
      go_enter Tryd.func37, Tryd.ntmps37
      go_wp2
      go_ret
      exact ⟨rfl, rfl⟩
  · obtain rfl : r = false := by rw [hr]; simp; omega
    clear hr
    go_enter Tryd.func37, Tryd.ntmps37
    go_wp2
    go_ret
    exact ⟨rfl, rfl⟩
set_option maxRecDepth 100000 in
theorem wrongLeaf_any (x : Lf) (z : Bool) (hz : z = tB (¬ x.Ok)) (w : World) :
    Calls Tryd.prog 29 #[.agg #[.int .i64 x.v, .string x.h]] w fun e w' => e = .returned (.bool z) ∧ Below w.heap.size w w' := by
  obtain ⟨v, s⟩ := x
  by_cases h1 : 0 ≤ v ∧ v ≤ 4294967295
  · have IW : Hid (∀ w : World, Calls Tryd.prog 37 #[.int .i64 v] w fun e w' => e = .returned (.bool true) ∧ w = w') := fun w => isWord_t v true (by simp [h1]) w
    by_cases h2 : s.size = 32
    · obtain rfl : z = false := by rw [hz]; exact tB_no (fun q => q ⟨h1, h2⟩)
      have e2 : ((s.size : Int) != 32) = false := by simp; omega
      clear hz h1 h2
      go_enter Tryd.func29, Tryd.ntmps29
      go_wp2_with fail
      refine (IW.out _).mono ?_
      rintro e w1 ⟨rfl, rfl⟩
      go_wp2
      go_ret
      exact ⟨rfl, (Below.refl w.heap.size w).alloc (Nat.le_refl _) _⟩
    · obtain rfl : z = true := by rw [hz]; exact tB_yes (fun q => h2 q.2)
      have e2 : ((s.size : Int) != 32) = true := by simp; omega
      clear hz h1 h2
      go_enter Tryd.func29, Tryd.ntmps29
      go_wp2_with fail
      refine (IW.out _).mono ?_
      rintro e w1 ⟨rfl, rfl⟩
      go_wp2
      go_ret
      exact ⟨rfl, (Below.refl w.heap.size w).alloc (Nat.le_refl _) _⟩
  · have IW : Hid (∀ w : World, Calls Tryd.prog 37 #[.int .i64 v] w fun e w' => e = .returned (.bool false) ∧ w = w') := fun w => isWord_t v false (by simp; omega) w
    obtain rfl : z = true := by rw [hz]; exact tB_yes (fun q => h1 q.1)
    clear hz h1
    go_enter Tryd.func29, Tryd.ntmps29
    go_wp2_with fail
    refine (IW.out _).mono ?_
    rintro e w1 ⟨rfl, rfl⟩
    go_wp2
    go_ret
    exact ⟨rfl, (Below.refl w.heap.size w).alloc (Nat.le_refl _) _⟩
/-- The place of a wrong one, or -1. -/
def FoundB (n : Nat) (LF : Nat → Lf) (e : Ending) : Prop := ∃ r : Int, e = .returned (.int .i64 r) ∧ (0 ≤ r ∧ (∃ i, i < n ∧ ¬ (LF i).Ok) ∨ r = -1 ∧ ∀ i, i < n → (LF i).Ok)
set_option maxRecDepth 100000 in
set_option maxHeartbeats 1000000 in
theorem indexLf_any (a : Option Addr) (n c : Nat) (LF : Nat → Lf) (hn : n ≤ 1048576) (w : World) (h : Els w 2 a n (lfF LF)) :
    Calls Tryd.prog 49 #[.slice a n c, .func (.func 29) #[] #[]] w fun e w' => FoundB n LF e ∧ Below w.heap.size w w' := by
  have H : Hid (Els w 2 a n (lfF LF)) := h
  have WL : Hid (∀ (i : Nat) (w : World), Calls Tryd.prog 29 #[.agg #[.int .i64 (LF i).v, .string (LF i).h]] w fun e w' => e = .returned (.bool (tB (¬ (LF i).Ok))) ∧ Below w.heap.size w w') := fun i w => wrongLeaf_any _ _ rfl w
  clear h
  go_enter Tryd.func49, Tryd.ntmps49
  go_wp2
  go_loopw [8] (fun i wr => ∃ k : Nat, k ≤ n ∧ i = .int .i64 k ∧ (∀ j, j < k → (LF j).Ok) ∧ Below w.heap.size w wr) (fun i _ => n - (intOf i).toNat)
  case atStart => exact ⟨0, by omega, rfl, fun j hj => absurd hj (by omega), Below.refl _ _⟩
  case round =>
    obtain ⟨k, hk, rfl, hok, hb⟩ := hrel
    have HB : Hid (Below w.heap.size w wr) := hb
    have HK : Hid (∀ j, j < k → (LF j).Ok) := hok
    clear hok
    by_cases hlt : k < n
    · have hlt' : (k : Int) < (n : Int) := by omega
      obtain ⟨b, off, rfl, hc⟩ := (H.out.below hb).opened (by omega)
      obtain ⟨c0, c1⟩ := Els.lfC hc k hlt
      have WM := WL.out k
      by_cases ho : (LF k).Ok
      · rw [tB_no (fun q => q ho)] at WM
        have W1 : Hid _ := WM
        have HO : Hid ((LF k).Ok) := ho
        clear hc hb WM ho
        go_wp2_with fail
        refine (W1.out _).mono ?_
        rintro e w1 ⟨rfl, hb⟩
        have B1 : Hid (Below w.heap.size w w1) := HB.out.trans (hb.mono HB.out.size)
        clear hb HB W1 c0 c1
        go_wp2
        go_roundw
        case rel => exact ⟨k + 1, by omega, by go_num, fun j hj => by
          rcases Nat.lt_or_ge j k with q | q
          · exact HK.out j q
          · obtain rfl : j = k := by omega
            exact HO.out, B1.out⟩
        case measure => simp [intOf]; omega
      · rw [tB_yes ho] at WM
        have W1 : Hid _ := WM
        have HF : Hid (FoundB n LF (.returned (.int .i64 (k : Int)))) := ⟨k, rfl, .inl ⟨by omega, k, hlt, ho⟩⟩
        clear hc hb WM ho
        go_wp2_with fail
        refine (W1.out _).mono ?_
        rintro e w1 ⟨rfl, hb⟩
        have B1 : Hid (Below w.heap.size w w1) := HB.out.trans (hb.mono HB.out.size)
        clear hb HB W1 c0 c1
        go_wp2
        go_ret
        exact ⟨HF.out, B1.out⟩
    · have hlt' : ¬ (k : Int) < (n : Int) := by omega
      have HF : Hid (FoundB n LF (.returned (.int .i64 (-1)))) := ⟨-1, rfl, .inr ⟨rfl, fun j hj => HK.out j (by omega)⟩⟩
      clear hb
      go_wp2
      go_ret
      exact ⟨HF.out, HB.out⟩
set_option maxRecDepth 100000 in
theorem containsLf_any (a : Option Addr) (n c : Nat) (LF : Nat → Lf) (hn : n ≤ 1048576) (w : World) (h : Els w 2 a n (lfF LF)) (z : Bool) (hz : z = tB (∃ i, i < n ∧ ¬ (LF i).Ok)) :
    Calls Tryd.prog 34 #[.slice a n c, .func (.func 29) #[] #[]] w fun e w' => e = .returned (.bool z) ∧ Below w.heap.size w w' := by
  have IX : Hid (Calls Tryd.prog 49 #[.slice a n c, .func (.func 29) #[] #[]] w fun e w' => FoundB n LF e ∧ Below w.heap.size w w') := indexLf_any a n c LF hn w h
  have HZ : Hid (z = tB (∃ i, i < n ∧ ¬ (LF i).Ok)) := hz
  clear h hz
  go_enter Tryd.func34, Tryd.ntmps34
  go_wp2_with fail
  refine IX.out.mono ?_
  rintro e w1 ⟨⟨r, rfl, hr⟩, hb⟩
  have HB : Hid (Below w.heap.size w w1) := hb
  rcases hr with ⟨h0, h1⟩ | ⟨rfl, h1⟩
  · have HZ2 : Hid (z = true) := HZ.out.trans (tB_yes h1)
    clear h1 hb
    go_wp2
    go_ret
    exact ⟨by rw [HZ2.out]; rfl, HB.out⟩
  · have HZ2 : Hid (z = false) := HZ.out.trans (tB_no (fun ⟨i, hi, q⟩ => q (h1 i hi)))
    clear h1 hb
    go_wp2
    go_ret
    exact ⟨by rw [HZ2.out]; rfl, HB.out⟩
set_option maxRecDepth 100000 in
theorem implLeavesOK_any (a : Option Addr) (n c : Nat) (LF : Nat → Lf) (hn : n ≤ 1048576) (w : World) (h : Els w 2 a n (lfF LF)) (z : Bool) (hz : z = tB (LsOk n LF)) :
    Calls Tryd.prog 13 #[.slice a n c] w fun e w' => e = .returned (.bool z) ∧ Below w.heap.size w w' := by
  by_cases h1 : n ≤ 32
  · by_cases h2 : ∀ i, i < n → (LF i).Ok
    · have CF : Hid (Calls Tryd.prog 34 #[.slice a n c, .func (.func 29) #[] #[]] w fun e w' => e = .returned (.bool false) ∧ Below w.heap.size w w') := containsLf_any a n c LF hn w h false (tB_no (fun ⟨i, hi, q⟩ => q (h2 i hi))).symm
      have HZ : Hid (z = true) := hz.trans (tB_yes ⟨h1, h2⟩)
      have e1 : (n : Int) ≤ 32 := by omega
      clear h h2 hz
      go_enter Tryd.func13, Tryd.ntmps13
      go_wp2_with fail
      refine CF.out.mono ?_
      rintro e w1 ⟨rfl, hb⟩
      have HB : Hid (Below w.heap.size w w1) := hb
      clear hb
      go_wp2
      go_ret
      exact ⟨by rw [HZ.out]; rfl, HB.out⟩
    · have CF : Hid (Calls Tryd.prog 34 #[.slice a n c, .func (.func 29) #[] #[]] w fun e w' => e = .returned (.bool true) ∧ Below w.heap.size w w') := containsLf_any a n c LF hn w h true (tB_yes (Classical.byContradiction fun q => h2 fun i hi => Classical.byContradiction fun q2 => q ⟨i, hi, q2⟩)).symm
      have HZ : Hid (z = false) := hz.trans (tB_no (fun q => h2 q.2))
      have e1 : (n : Int) ≤ 32 := by omega
      clear h h2 hz
      go_enter Tryd.func13, Tryd.ntmps13
      go_wp2_with fail
      refine CF.out.mono ?_
      rintro e w1 ⟨rfl, hb⟩
      have HB : Hid (Below w.heap.size w w1) := hb
      clear hb
      go_wp2
      go_ret
      exact ⟨by rw [HZ.out]; rfl, HB.out⟩
  · have HZ : Hid (z = false) := hz.trans (tB_no (fun q => h1 q.1))
    have e1 : ¬ (n : Int) ≤ 32 := by omega
    clear h hz
    go_enter Tryd.func13, Tryd.ntmps13
    go_wp2
    go_ret
    exact ⟨by rw [HZ.out]; rfl, Below.refl _ _⟩
/-- The code of a list of leaves. -/
noncomputable def lsCode (n : Nat) (LF : Nat → Lf) : Int := if 4096 < n then 2 else if tB (LsOk n LF) then 0 else 1
set_option maxRecDepth 100000 in
theorem leavesFault_any (a : Option Addr) (n c : Nat) (LF : Nat → Lf) (hn : n ≤ 1048576) (w : World) (h : Els w 2 a n (lfF LF)) :
    Calls Tryd.prog 21 #[.slice a n c] w fun e w' => e = .returned (.int .i64 (lsCode n LF)) ∧ Below w.heap.size w w' := by
  by_cases h1 : 4096 < n
  · have HZ : Hid (lsCode n LF = 2) := by show lsCode n LF = 2; unfold lsCode; rw [if_pos h1]
    have e1 : (4096 : Int) < (n : Int) := by omega
    generalize lsCode n LF = cd at *
    clear h
    go_enter Tryd.func21, Tryd.ntmps21
    go_wp2
    go_ret
    exact ⟨by rw [HZ.out]; rfl, Below.refl _ _⟩
  · have LK : Hid (Calls Tryd.prog 13 #[.slice a n c] w fun e w' => e = .returned (.bool (tB (LsOk n LF))) ∧ Below w.heap.size w w') := implLeavesOK_any a n c LF hn w h _ rfl
    have HZ : Hid (lsCode n LF = if tB (LsOk n LF) then 0 else 1) := by show lsCode n LF = _; unfold lsCode; rw [if_neg h1]
    have e1 : ¬ (4096 : Int) < (n : Int) := by omega
    generalize lsCode n LF = cd at *
    generalize tB (LsOk n LF) = z at *
    clear h
    go_enter Tryd.func21, Tryd.ntmps21
    go_wp2_with fail
    refine LK.out.mono ?_
    rintro e w1 ⟨rfl, hb⟩
    have HB : Hid (Below w.heap.size w w1) := hb
    clear hb LK
    cases z with
    | true =>
      go_wp2
      go_ret
      exact ⟨by rw [HZ.out]; rfl, HB.out⟩
    | false =>
      go_wp2
      go_ret
      exact ⟨by rw [HZ.out]; rfl, HB.out⟩
set_option maxRecDepth 100000 in
theorem l10Leaf_any (x : Lf) (z : Bool) (hz : z = tB x.Ok) (w : World) :
    Calls Tryd.prog 44 #[.agg #[.int .i64 x.v, .string x.h]] w fun e w' => e = .returned (.bool z) ∧ Below w.heap.size w w' := by
  obtain ⟨v, s⟩ := x
  by_cases h1 : 0 ≤ v ∧ v ≤ 4294967295
  · have IW : Hid (∀ w : World, Calls Tryd.prog 27 #[.int .i64 v, .int .i64 0, .int .i64 4294967295] w fun e w' => e = .returned (.bool true) ∧ w = w') := fun w => in_any v 0 4294967295 true (by simp [h1]) w
    by_cases h2 : s.size = 32
    · obtain rfl : z = true := by rw [hz]; exact tB_yes ⟨h1, h2⟩
      have e2 : ((s.size : Int) == 32) = true := by simp; omega
      clear hz h1 h2
      go_enter Tryd.func44, Tryd.ntmps44
      go_wp2_with fail
      refine (IW.out _).mono ?_
      rintro e w1 ⟨rfl, rfl⟩
      go_wp2
      go_ret
      exact ⟨rfl, (Below.refl w.heap.size w).alloc (Nat.le_refl _) _⟩
    · obtain rfl : z = false := by rw [hz]; exact tB_no (fun q => h2 q.2)
      have e2 : ((s.size : Int) == 32) = false := by simp; omega
      clear hz h1 h2
      go_enter Tryd.func44, Tryd.ntmps44
      go_wp2_with fail
      refine (IW.out _).mono ?_
      rintro e w1 ⟨rfl, rfl⟩
      go_wp2
      go_ret
      exact ⟨rfl, (Below.refl w.heap.size w).alloc (Nat.le_refl _) _⟩
  · have IW : Hid (∀ w : World, Calls Tryd.prog 27 #[.int .i64 v, .int .i64 0, .int .i64 4294967295] w fun e w' => e = .returned (.bool false) ∧ w = w') := fun w => in_any v 0 4294967295 false (by simp; omega) w
    obtain rfl : z = false := by rw [hz]; exact tB_no (fun q => h1 q.1)
    clear hz h1
    go_enter Tryd.func44, Tryd.ntmps44
    go_wp2_with fail
    refine (IW.out _).mono ?_
    rintro e w1 ⟨rfl, rfl⟩
    go_wp2
    go_ret
    exact ⟨rfl, (Below.refl w.heap.size w).alloc (Nat.le_refl _) _⟩
set_option maxRecDepth 100000 in
set_option maxHeartbeats 1000000 in
theorem specLeavesOK_any (a : Option Addr) (n c : Nat) (LF : Nat → Lf) (hn : n ≤ 1048576) (w : World) (h : Els w 2 a n (lfF LF)) (z : Bool) (hz : z = tB (LsOk n LF)) :
    Calls Tryd.prog 23 #[.slice a n c] w fun e w' => e = .returned (.bool z) ∧ Below w.heap.size w w' := by
  have H : Hid (Els w 2 a n (lfF LF)) := h
  have HZ : Hid (z = tB (LsOk n LF)) := hz
  clear h hz
  by_cases h0 : 4096 < n
  · have e1 : (4096 : Int) < (n : Int) := by omega
    have HZ2 : Hid (z = false) := HZ.out.trans (tB_no (fun q => by have := q.1; omega))
    go_enter Tryd.func23, Tryd.ntmps23
    go_wp2
    go_ret
    exact ⟨by rw [HZ2.out]; rfl, Below.refl _ _⟩
  have e0 : ¬ (4096 : Int) < (n : Int) := by omega
  by_cases h1 : 32 < n
  · have e1 : (32 : Int) < (n : Int) := by omega
    have HZ2 : Hid (z = false) := HZ.out.trans (tB_no (fun q => by have := q.1; omega))
    go_enter Tryd.func23, Tryd.ntmps23
    go_wp2
    go_ret
    exact ⟨by rw [HZ2.out]; rfl, Below.refl _ _⟩
  have e1 : ¬ (32 : Int) < (n : Int) := by omega
  have LL : Hid (∀ (i : Nat) (w : World), Calls Tryd.prog 44 #[.agg #[.int .i64 (LF i).v, .string (LF i).h]] w fun e w' => e = .returned (.bool (tB (LF i).Ok)) ∧ Below w.heap.size w w') := fun i w => l10Leaf_any _ _ rfl w
  go_enter Tryd.func23, Tryd.ntmps23
  go_wp2
  go_loopw [3] (fun i wr => ∃ k : Nat, k ≤ n ∧ i = .int .i64 k ∧ (∀ j, j < k → (LF j).Ok) ∧ Below w.heap.size w wr) (fun i _ => n - (intOf i).toNat)
  case atStart => exact ⟨0, by omega, rfl, fun j hj => absurd hj (by omega), Below.refl _ _⟩
  case round =>
    obtain ⟨k, hk, rfl, hok, hb⟩ := hrel
    have HB : Hid (Below w.heap.size w wr) := hb
    have HK : Hid (∀ j, j < k → (LF j).Ok) := hok
    clear hok
    by_cases hlt : k < n
    · have hlt' : (k : Int) < (n : Int) := by omega
      obtain ⟨b, off, rfl, hc⟩ := (H.out.below hb).opened (by omega)
      obtain ⟨c0, c1⟩ := Els.lfC hc k hlt
      have WM := LL.out k
      by_cases ho : (LF k).Ok
      · rw [tB_yes ho] at WM
        have W1 : Hid _ := WM
        have HO : Hid ((LF k).Ok) := ho
        clear hc hb WM ho
        go_wp2_with fail
        refine (W1.out _).mono ?_
        rintro e w1 ⟨rfl, hb⟩
        have B1 : Hid (Below w.heap.size w w1) := HB.out.trans (hb.mono HB.out.size)
        clear hb HB W1 c0 c1
        go_wp2
        go_roundw
        case rel => exact ⟨k + 1, by omega, by go_num, fun j hj => by
          rcases Nat.lt_or_ge j k with q | q
          · exact HK.out j q
          · obtain rfl : j = k := by omega
            exact HO.out, B1.out⟩
        case measure => simp [intOf]; omega
      · rw [tB_no ho] at WM
        have W1 : Hid _ := WM
        have HZ2 : Hid (z = false) := HZ.out.trans (tB_no (fun q => ho (q.2 k hlt)))
        clear hc hb WM ho
        go_wp2_with fail
        refine (W1.out _).mono ?_
        rintro e w1 ⟨rfl, hb⟩
        have B1 : Hid (Below w.heap.size w w1) := HB.out.trans (hb.mono HB.out.size)
        clear hb HB W1 c0 c1
        go_wp2
        go_ret
        exact ⟨by rw [HZ2.out]; rfl, B1.out⟩
    · have hlt' : ¬ (k : Int) < (n : Int) := by omega
      have HZ2 : Hid (z = true) := HZ.out.trans (tB_yes ⟨by omega, fun j hj => HK.out j (by omega)⟩)
      clear hb
      go_wp2
      go_ret
      exact ⟨by rw [HZ2.out]; rfl, HB.out⟩
end Go.Proofs.YtpljdlgjeeikkaaDoor
