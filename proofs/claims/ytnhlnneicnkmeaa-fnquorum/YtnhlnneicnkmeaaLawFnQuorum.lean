/-
  The law FnQuorum: any two majorities have a replica in common.
-/
import Derived.Test.YtnhlnneicnkmeaaIntE
import Derived.Test.YtnhlnneicnkmeaaQSize
import Derived.Test.YtnhlnneicnkmeaaAtIs
namespace Go.Proofs.Ytnhlnneicnkmeaa
open Go.ChangeShapes Go.WideShapes Go.ChangeAt Go.RowKit
set_option linter.unusedVariables false
/-- No more than n different numbers are below n. -/
theorem pigeon : ∀ (n m : Nat) (f : Nat → Nat), (∀ i, i < m → f i < n) → (∀ i j, i < m → j < m → f i = f j → i = j) → m ≤ n
  | 0, m, f, h, _ => by
    rcases Nat.eq_zero_or_pos m with q | q
    · omega
    · exact absurd (h 0 q) (by omega)
  | n + 1, 0, f, h, hi => by omega
  | n + 1, m + 1, f, h, hi => by
    have := pigeon n m (fun i => if f i = n then f m else f i) (fun i hm => by
      have h1 := h i (by omega)
      have h2 := h m (by omega)
      by_cases e : f i = n
      · rw [if_pos e]
        have : f m ≠ n := fun q => by
          have := hi i m (by omega) (by omega) (e.trans q.symm)
          omega
        omega
      · rw [if_neg e]; omega) (fun i j h1 h2 e => by
      by_cases e1 : f i = n <;> by_cases e2 : f j = n
      · exact hi i j (by omega) (by omega) (e1.trans e2.symm)
      · rw [if_pos e1, if_neg e2] at e
        have := hi m j (by omega) (by omega) e
        omega
      · rw [if_neg e1, if_pos e2] at e
        have := hi i m (by omega) (by omega) e
        omega
      · rw [if_neg e1, if_neg e2] at e
        exact hi i j (by omega) (by omega) e)
    omega
/-- q different numbers from 0 to n - 1. -/
def Some_ (n q : Nat) (C : Nat → Int) : Prop := (∀ i, i < q → 0 ≤ C i ∧ C i < n) ∧ ∀ i j, i < q → j < q → C i = C j → i = j
theorem Some_.snoc {n q : Nat} {C : Nat → Int} {x : Int} (h : Some_ n q C) (hx : 0 ≤ x ∧ x < n) (hn : ¬ ∃ j, j < q ∧ C j = x) : Some_ n (q + 1) (updE C q x) := by
  have e0 : ∀ i, i < q → updE C q x i = C i := fun i hi => by unfold updE; rw [if_neg (by omega)]
  have e1 : updE C q x q = x := by unfold updE; rw [if_pos rfl]
  refine ⟨fun i hi => ?_, fun i j hi hj e => ?_⟩
  · rcases (show i < q ∨ i = q by omega) with g | rfl
    · rw [e0 i g]; exact h.1 i g
    · rw [e1]; exact hx
  · rcases (show i < q ∨ i = q by omega) with g | g <;> rcases (show j < q ∨ j = q by omega) with k | k
    · rw [e0 i g, e0 j k] at e; exact h.2 i j g k e
    · rw [e0 i g, k, e1] at e; exact absurd ⟨i, g, e⟩ hn
    · rw [e0 j k, g, e1] at e; exact absurd ⟨j, k, e.symm⟩ hn
    · omega
theorem two_meet {n q : Nat} {C D : Nat → Int} (h1 : Some_ n q C) (h2 : Some_ n q D) (hq : n < 2 * q) : ∃ i, i < q ∧ ∃ j, j < q ∧ D j = C i := by
  apply Classical.byContradiction
  intro hno
  have := pigeon n (2 * q) (fun i => if i < q then (C i).toNat else (D (i - q)).toNat) (fun i hi => by
    by_cases e : i < q
    · rw [if_pos e]; have := h1.1 i e; omega
    · rw [if_neg e]; have := h2.1 (i - q) (by omega); omega) (fun i j hi hj e => by
    by_cases e1 : i < q <;> by_cases e2 : j < q
    · rw [if_pos e1, if_pos e2] at e
      have a := h1.1 i e1
      have b := h1.1 j e2
      exact h1.2 i j e1 e2 (by omega)
    · rw [if_pos e1, if_neg e2] at e
      have a := h1.1 i e1
      have b := h2.1 (j - q) (by omega)
      exact absurd ⟨i, e1, j - q, by omega, by omega⟩ hno
    · rw [if_neg e1, if_pos e2] at e
      have a := h1.1 j e2
      have b := h2.1 (i - q) (by omega)
      exact absurd ⟨j, e2, i - q, by omega, by omega⟩ hno
    · rw [if_neg e1, if_neg e2] at e
      have a := h2.1 (i - q) (by omega)
      have b := h2.1 (j - q) (by omega)
      have := h2.2 (i - q) (j - q) (by omega) (by omega) (by omega)
      omega)
  omega
theorem below_drewQ (w : World) (q : Nat) : Below w.heap.size w (w.drewN q) := ⟨rfl, rfl, rfl, Nat.le_refl _, fun _ _ => rfl⟩
/-- Some number below n is handed back. -/
def SomeAt (n : Nat) (e : Ending) : Prop := ∃ r : Nat, r < n ∧ e = .returned (.int .i64 (r : Int))
theorem at_ex (a : Option Addr) (len cap : Nat) (zs : List Int) (w : World) (hr : IsRow .u8 w a len cap zs) (i n : Nat) (hi' : i ≤ 100000) (hn : 1 ≤ n) (hn' : n ≤ 100000) :
    Calls Try.prog 9 #[.slice a len cap, .int .i64 (i : Int), .int .i64 (n : Int)] w fun e w' => SomeAt n e ∧ Below w.heap.size w w' := by
  by_cases h1 : n = 1
  · subst h1
    clear hr
    go_enter Try.func9, Try.ntmps9
    go_wp2
    go_ret
    exact ⟨⟨0, by omega, rfl⟩, Below.refl _ _⟩
  · exact (at_is a len cap zs w hr i n hi' (by omega) hn').mono fun e w' h => ⟨⟨_, atN_lt len zs i n (by omega), h.1⟩, by obtain ⟨q, rfl⟩ := h.2; exact below_drewQ w q⟩
set_option maxRecDepth 100000 in
set_option maxHeartbeats 4000000 in
theorem law_fnQuorum (a0 a1 : Option Addr) (n0 c0 n1 c1 : Nat) (z0 z1 : List Int) (w : World) (h0 : IsRow .u8 w a0 n0 c0 z0) (h1 : IsRow .u8 w a1 n1 c1 z1) (m0 : n0 ≤ maxLen) (m1 : n1 ≤ maxLen) :
    Calls Try.prog 3 #[.slice a0 n0 c0, .slice a1 n1 c1] w fun e w' => e = .returned (.bool true) ∧ Below w.heap.size w w' := by
  have AT0 : Hid (∀ (u : World) (i n : Nat), Below w.heap.size w u → i ≤ 1000 → 1 ≤ n → n ≤ 1000 → Calls Try.prog 9 #[.slice a0 n0 c0, .int .i64 (i : Int), .int .i64 (n : Int)] u fun e u' => SomeAt n e ∧ Below u.heap.size u u') := fun u i n hb h2 h3 h4 => at_ex _ _ _ _ _ (h0.below hb) i n (by omega) h3 (by omega)
  have AT1 : Hid (∀ (u : World) (i n : Nat), Below w.heap.size w u → i ≤ 1000 → 1 ≤ n → n ≤ 1000 → Calls Try.prog 9 #[.slice a1 n1 c1, .int .i64 (i : Int), .int .i64 (n : Int)] u fun e u' => SomeAt n e ∧ Below u.heap.size u u') := fun u i n hb h2 h3 h4 => at_ex _ _ _ _ _ (h1.below hb) i n (by omega) h3 (by omega)
  clear h0 h1
  unfold maxLen at m0 m1
  by_cases g0 : 1048576 < n0
  · have g0' : decide (1048576 < (n0 : Int)) = true := by simp; omega
    go_enter Try.func3, Try.ntmps3
    go_wp2
    go_ret
    exact ⟨rfl, Below.refl _ _⟩
  have g0' : decide (1048576 < (n0 : Int)) = false := by simp; omega
  by_cases g1 : 1048576 < n1
  · have g1' : decide (1048576 < (n1 : Int)) = true := by simp; omega
    go_enter Try.func3, Try.ntmps3
    go_wp2
    go_ret
    exact ⟨rfl, Below.refl _ _⟩
  have g1' : decide (1048576 < (n1 : Int)) = false := by simp; omega
  go_enter Try.func3, Try.ntmps3
  go_wp2_with fail
  clear g0 g1 g0' g1' m0 m1
  go_loop [5] (fun t => ∃ k : Nat, 1 ≤ k ∧ k ≤ 8 ∧ t = .int .i64 (k : Int)) (fun t => 8 - (intOf t).toNat)
  case atStart => exact ⟨1, by omega, by omega, rfl⟩
  case round =>
    obtain ⟨k, hk1, hk2, rfl⟩ := hrel
    by_cases hlt : k ≤ 7
    · have hlt' : (k : Int) ≤ 7 := by omega
      have e1 : ¬ 2 * ((k : Int) / 2 + 1) ≤ (k : Int) := by omega
      have e2 : ¬ (k : Int) < 2 * ((k : Int) / 2) := by omega
      go_wp2_with fail
      refine (implQs_yes _ (by omega) _).mono ?_
      rintro e w' ⟨rfl, rfl⟩
      go_wp2_with fail
      refine (specQs_yes _ (by omega) _).mono ?_
      rintro e w' ⟨rfl, rfl⟩
      go_wp2
      go_round
      case rel => exact ⟨k + 1, by omega, by omega, by go_num⟩
      case measure => simp [intOf]; omega
    · have hlt' : ¬ (k : Int) ≤ 7 := by omega
      clear hk1 hk2 hlt
      go_wp2_with fail
      refine (AT1.out _ 0 7 (Below.refl _ _) (by omega) (by omega) (by omega)).mono ?_
      rintro e w1 ⟨⟨r, hr, rfl⟩, hb1⟩
      have A1 : Hid (Below w.heap.size w w1) := hb1
      clear hb1 hlt'
      obtain ⟨n, hn1, hn7, hnr⟩ : ∃ n : Nat, 1 ≤ n ∧ n ≤ 7 ∧ (1 + (r : Int)) = (n : Int) := ⟨1 + r, by omega, by omega, by omega⟩
      go_wp2_with fail
      clear hnr hr
      obtain ⟨q, hq, hq2⟩ : ∃ q : Nat, (n : Int) / 2 + 1 = (q : Int) ∧ n < 2 * q := ⟨n / 2 + 1, by omega, by omega⟩
      have hq8 : q ≤ 4 := by omega
      refine (implQs_yes _ (by omega) _).mono ?_
      rw [hq]
      rintro e w' ⟨rfl, rfl⟩
      clear hq
      have EA : Hid (IE ((w1.alloc (.cells #[] 3)).alloc (.cells #[] 3)) w.heap.size (.slice (some ⟨w1.heap.size, 0, none⟩) 0 0) 0 (fun _ => 0)) := (IE.lit w1 _ A1.out.size _).below ((Below.refl _ _).alloc (Nat.le_refl _) _)
      have EB : Hid (IE ((w1.alloc (.cells #[] 3)).alloc (.cells #[] 3)) w.heap.size (.slice (some ⟨w1.heap.size + 1, 0, none⟩) 0 0) 0 (fun _ => 0)) := by
        have := IE.lit (w1.alloc (.cells #[] 3)) w.heap.size (by have := A1.out.size; simp; omega) (fun _ => 0)
        simp at this
        exact this
      have A2 : Hid (Below w.heap.size w ((w1.alloc (.cells #[] 3)).alloc (.cells #[] 3))) := (A1.out.alloc A1.out.size _).alloc (by have := A1.out.size; simp; omega) _
      have Z2 : Hid (w.heap.size ≤ w1.heap.size) := A1.out.size
      clear A1
      go_wp2_with fail
      generalize ((w1.alloc (.cells #[] 3)).alloc (.cells #[] 3)) = w2 at *
      go_loopw [13, 15] (fun av iv wr => ∃ (k m g c : Nat) (C : Nat → Int), k ≤ 200 ∧ m ≤ q ∧ iv = .int .i64 (k : Int) ∧ av = .slice (some ⟨g, 0, none⟩) m c ∧ Some_ n m C ∧ IE wr w.heap.size (.slice (some ⟨g, 0, none⟩) m c) m C ∧ IE wr w.heap.size (.slice (some ⟨w1.heap.size + 1, 0, none⟩) 0 0) 0 (fun _ => 0) ∧ g ≠ w1.heap.size + 1 ∧ Below w.heap.size w wr) (fun _ iv _ => 200 - (intOf iv).toNat)
      case atStart => exact ⟨0, 0, w1.heap.size, 0, fun _ => 0, by omega, by omega, rfl, rfl, ⟨fun i hi => absurd hi (by omega), fun i j hi => absurd hi (by omega)⟩, EA.out, EB.out, by omega, A2.out⟩
      case round =>
        clear EA EB A2
        obtain ⟨k, m, g, c, C, hk, hm, rfl, rfl, hS, ha, hb, hg, hbw⟩ := hrel
        have S1 : Hid (Some_ n m C) := hS
        have EA : Hid (IE wr w.heap.size (.slice (some ⟨g, 0, none⟩) m c) m C) := ha
        have EB : Hid (IE wr w.heap.size (.slice (some ⟨w1.heap.size + 1, 0, none⟩) 0 0) 0 (fun _ => 0)) := hb
        have A1 : Hid (Below w.heap.size w wr) := hbw
        have GN : Hid (g ≠ w1.heap.size + 1) := hg
        clear hS ha hb hbw hg
        by_cases hlt : k < 200 ∧ m < q
        · obtain ⟨l1, l2⟩ := hlt
          have l1' : (k : Int) < 200 := by omega
          have l2' : (m : Int) < (q : Int) := by omega
          go_wp2_with fail
          refine (AT0.out _ k n A1.out (by omega) (by omega) (by omega)).mono ?_
          rintro e u1 ⟨⟨r, hr, rfl⟩, hb1⟩
          replace A1 : Hid (Below w.heap.size w u1) := A1.out.trans (hb1.mono A1.out.size)
          replace EA : Hid (IE u1 w.heap.size (.slice (some ⟨g, 0, none⟩) m c) m C) := EO.below EA.out hb1
          replace EB : Hid (IE u1 w.heap.size (.slice (some ⟨w1.heap.size + 1, 0, none⟩) 0 0) 0 (fun _ => 0)) := EO.below EB.out hb1
          clear hb1
          go_wp2_with fail
          by_cases hh : ∃ j, j < m ∧ C j = (r : Int)
          · refine (lawHas_any _ m c C (r : Int) true (by simp [hh]) (by omega) u1 EA.out.num).mono ?_
            clear hh
            rintro e u2 ⟨rfl, rfl⟩
            go_wp2_with fail
            go_roundw
            case rel => exact ⟨k + 1, m, g, c, C, by omega, by omega, by go_num, rfl, S1.out, EA.out, EB.out, GN.out, A1.out⟩
            case measure => simp [intOf]; omega
          · refine (lawHas_any _ m c C (r : Int) false (by simpa using hh) (by omega) u1 EA.out.num).mono ?_
            rintro e u2 ⟨rfl, rfl⟩
            have hbA : Below u1.heap.size u1 (u1.alloc (.cells #[.int .i64 (r : Int)] 3)) := (Below.refl _ _).alloc (Nat.le_refl _) _
            obtain ⟨v', u3, hrun, ho, hgr, hloc⟩ := IE.app (u1.alloc (.cells #[.int .i64 (r : Int)] 3)) w.heap.size _ m u1.heap.size C (r : Int) (by have := A1.out.size; simp; omega) (by omega) (EO.below EA.out hbA) (by simp)
            have HS : Hid (Some_ n (m + 1) (updE C m (r : Int))) := S1.out.snoc (by omega) hh
            obtain ⟨g2, c2, rfl, hg2⟩ : ∃ g2 c2, v' = .slice (some ⟨g2, 0, none⟩) (m + 1) c2 ∧ (g2 = g ∨ g2 = u1.heap.size + 1) := by
              obtain ⟨hl, ⟨_, h0⟩ | ⟨g', cap, cur, hv, _⟩⟩ := ho
              · omega
              · subst hv
                refine ⟨g', _, rfl, ?_⟩
                simpa [Value.ownBlock] using hloc
            have EA3 : Hid (IE u3 w.heap.size (.slice (some ⟨g2, 0, none⟩) (m + 1) c2) (m + 1) (updE C m (r : Int))) := ho
            have hlt1 : w1.heap.size + 1 < u1.heap.size := (EO.ge EB.out _ rfl).2
            have EB3 : Hid (IE u3 w.heap.size (.slice (some ⟨w1.heap.size + 1, 0, none⟩) 0 0) 0 (fun _ => 0)) := EO.keep (EO.below EB.out hbA) (fun p e => by
              cases e
              exact hgr.block _ (by simp; omega) (fun e => GN.out (by cases e; rfl)))
            have A3 : Hid (Below w.heap.size w u3) := (A1.out.trans (hbA.mono A1.out.size)).grown hgr (by have := A1.out.size; simp; omega) (fun p e => by cases e; exact (EO.ge EA.out _ rfl).1)
            have GN3 : Hid (g2 ≠ w1.heap.size + 1) := by
              have := GN.out
              rcases hg2 with rfl | rfl
              · exact this
              · exact (show u1.heap.size + 1 ≠ w1.heap.size + 1 by omega)
            clear hh EA EB A1 GN hbA ho hgr hloc hg2 S1 hlt1
            go_wp2_with (at_builtin; refine Lib.wpList_append_run _ rfl (.tmp 90) (.tmp 92) 26 26 rfl (.slice (some ⟨g, 0, none⟩) m c) (.slice (some ⟨u1.heap.size, 0, none⟩) 1 1) rfl rfl _ _ (hrun _) ?_)
            go_roundw
            case rel => exact ⟨k + 1, m + 1, g2, c2, _, by omega, by omega, by go_num, rfl, HS.out, EA3.out, EB3.out, GN3.out, A3.out⟩
            case measure => simp [intOf]; omega
        · have HQ : Hid (m ≤ q) := hm
          obtain ⟨g, rfl⟩ : ∃ g', g' = g := ⟨g, rfl⟩
          have LAST : Hid (¬ (k < 200 ∧ m < q)) := hlt
          by_cases l2 : m < q
          all_goals
            first
              | (have l1' : ¬ (k : Int) < 200 := by have := LAST.out; omega
                 have l2' : (m : Int) < (q : Int) := by omega)
              | (have l2' : ¬ (m : Int) < (q : Int) := by omega)
            clear hlt
            go_wp2_with fail
            go_loopw [14, 17] (fun av iv wr => ∃ (k2 m2 g2 c2 : Nat) (D : Nat → Int), k2 ≤ 200 ∧ m2 ≤ q ∧ iv = .int .i64 (k2 : Int) ∧ av = .slice (some ⟨g2, 0, none⟩) m2 c2 ∧ Some_ n m2 D ∧ IE wr w.heap.size (.slice (some ⟨g2, 0, none⟩) m2 c2) m2 D ∧ IE wr w.heap.size (.slice (some ⟨g, 0, none⟩) m c) m C ∧ g ≠ g2 ∧ Below w.heap.size w wr) (fun _ iv _ => 200 - (intOf iv).toNat)
            case atStart => exact ⟨0, 0, w1.heap.size + 1, 0, fun _ => 0, by omega, by omega, rfl, rfl, ⟨fun i hi => absurd hi (by omega), fun i j hi => absurd hi (by omega)⟩, EB.out, EA.out, GN.out, A1.out⟩
            case round =>
              clear EA EB A1 GN
              obtain ⟨k2, m2, g2, c2, D, hk2, hm2, rfl, rfl, hS, ha, hb, hg, hbw⟩ := hrel
              have S2 : Hid (Some_ n m2 D) := hS
              have EB : Hid (IE wr w.heap.size (.slice (some ⟨g2, 0, none⟩) m2 c2) m2 D) := ha
              have EA : Hid (IE wr w.heap.size (.slice (some ⟨g, 0, none⟩) m c) m C) := hb
              have A1 : Hid (Below w.heap.size w wr) := hbw
              have GN : Hid (g ≠ g2) := hg
              clear hS ha hb hbw hg
              by_cases hlt : k2 < 200 ∧ m2 < q
              · obtain ⟨t1, t2⟩ := hlt
                have t1' : (k2 : Int) < 200 := by omega
                have t2' : (m2 : Int) < (q : Int) := by omega
                go_wp2_with fail
                refine (AT1.out _ k2 n A1.out (by omega) (by omega) (by omega)).mono ?_
                rintro e u1 ⟨⟨r, hr, rfl⟩, hb1⟩
                replace A1 : Hid (Below w.heap.size w u1) := A1.out.trans (hb1.mono A1.out.size)
                replace EA : Hid (IE u1 w.heap.size (.slice (some ⟨g, 0, none⟩) m c) m C) := EO.below EA.out hb1
                replace EB : Hid (IE u1 w.heap.size (.slice (some ⟨g2, 0, none⟩) m2 c2) m2 D) := EO.below EB.out hb1
                clear hb1
                go_wp2_with fail
                by_cases hh : ∃ j, j < m2 ∧ D j = (r : Int)
                · refine (lawHas_any _ m2 c2 D (r : Int) true (by simp [hh]) (by omega) u1 EB.out.num).mono ?_
                  clear hh
                  rintro e u2 ⟨rfl, rfl⟩
                  go_wp2_with fail
                  go_roundw
                  case rel => exact ⟨k2 + 1, m2, g2, c2, D, by omega, by omega, by go_num, rfl, S2.out, EB.out, EA.out, GN.out, A1.out⟩
                  case measure => simp [intOf]; omega
                · refine (lawHas_any _ m2 c2 D (r : Int) false (by simpa using hh) (by omega) u1 EB.out.num).mono ?_
                  rintro e u2 ⟨rfl, rfl⟩
                  have hbA : Below u1.heap.size u1 (u1.alloc (.cells #[.int .i64 (r : Int)] 3)) := (Below.refl _ _).alloc (Nat.le_refl _) _
                  obtain ⟨v', u3, hrun, ho, hgr, hloc⟩ := IE.app (u1.alloc (.cells #[.int .i64 (r : Int)] 3)) w.heap.size _ m2 u1.heap.size D (r : Int) (by have := A1.out.size; simp; omega) (by omega) (EO.below EB.out hbA) (by simp)
                  have HS : Hid (Some_ n (m2 + 1) (updE D m2 (r : Int))) := S2.out.snoc (by omega) hh
                  obtain ⟨g3, c3, rfl, hg3⟩ : ∃ g3 c3, v' = .slice (some ⟨g3, 0, none⟩) (m2 + 1) c3 ∧ (g3 = g2 ∨ g3 = u1.heap.size + 1) := by
                    obtain ⟨hl, ⟨_, h0⟩ | ⟨g', cap, cur, hv, _⟩⟩ := ho
                    · omega
                    · subst hv
                      refine ⟨g', _, rfl, ?_⟩
                      simpa [Value.ownBlock] using hloc
                  have EB3 : Hid (IE u3 w.heap.size (.slice (some ⟨g3, 0, none⟩) (m2 + 1) c3) (m2 + 1) (updE D m2 (r : Int))) := ho
                  have hlt1 : g < u1.heap.size := (EO.ge EA.out _ rfl).2
                  have EA3 : Hid (IE u3 w.heap.size (.slice (some ⟨g, 0, none⟩) m c) m C) := EO.keep (EO.below EA.out hbA) (fun p e => by
                    cases e
                    exact hgr.block _ (by simp; omega) (fun e => GN.out (by cases e; rfl)))
                  have A3 : Hid (Below w.heap.size w u3) := (A1.out.trans (hbA.mono A1.out.size)).grown hgr (by have := A1.out.size; simp; omega) (fun p e => by cases e; exact (EO.ge EB.out _ rfl).1)
                  have GN3 : Hid (g ≠ g3) := by
                    have := GN.out
                    rcases hg3 with rfl | rfl
                    · exact this
                    · exact (show g ≠ u1.heap.size + 1 by omega)
                  clear hh EA EB A1 GN hbA ho hgr hloc hg3 S2 hlt1
                  go_wp2_with (at_builtin; refine Lib.wpList_append_run _ rfl (.tmp 112) (.tmp 114) 26 26 rfl (.slice (some ⟨g2, 0, none⟩) m2 c2) (.slice (some ⟨u1.heap.size, 0, none⟩) 1 1) rfl rfl _ _ (hrun _) ?_)
                  go_roundw
                  case rel => exact ⟨k2 + 1, m2 + 1, g3, c3, _, by omega, by omega, by go_num, rfl, HS.out, EB3.out, EA3.out, GN3.out, A3.out⟩
                  case measure => simp [intOf]; omega
              · have LAST2 : Hid (¬ (k2 < 200 ∧ m2 < q)) := hlt
                clear hlt
                by_cases t2 : m2 < q
                · have t1' : ¬ (k2 : Int) < 200 := by have := LAST2.out; omega
                  have t2' : (m2 : Int) < (q : Int) := by omega
                  go_wp2
                  go_ret
                  exact ⟨rfl, A1.out⟩
                · have t2' : ¬ (m2 : Int) < (q : Int) := by omega
                  first
                    | (have : m < q := l2
                       go_wp2
                       go_ret
                       exact ⟨rfl, A1.out⟩)
                    | (obtain rfl : m = q := by omega
                       obtain rfl : m2 = m := by omega
                       have MT : Hid (∃ i, i < m2 ∧ ∃ j, j < m2 ∧ D j = C i) := two_meet S1.out S2.out hq2
                       clear l2 l2' t2 t2' S1 S2 LAST LAST2
                       go_wp2_with fail
                       go_loopw [19] (fun iv wx => ∃ k4 : Nat, k4 ≤ m2 ∧ iv = .int .i64 (k4 : Int) ∧ (∀ i, i < k4 → ¬ ∃ j, j < m2 ∧ D j = C i) ∧ wx = wr) (fun iv _ => m2 - (intOf iv).toNat)
                       case atStart => exact ⟨0, by omega, rfl, fun i hi => absurd hi (by omega), rfl⟩
                       case round =>
                         obtain ⟨k4, hk4, rfl, hno, rfl⟩ := hrel
                         have NO : Hid (∀ i, i < k4 → ¬ ∃ j, j < m2 ∧ D j = C i) := hno
                         clear hno
                         have hlt : k4 < m2 := by
                           obtain ⟨i, hi, hj⟩ := MT.out
                           rcases Nat.lt_or_ge i k4 with q1 | q1
                           · exact absurd hj (NO.out i q1)
                           · omega
                         have hlt' : (k4 : Int) < (m2 : Int) := by omega
                         have hk0 : (0 : Int) ≤ (k4 : Int) := by omega
                         obtain ⟨bb, off, hbb, hcc⟩ := EA.out.num.opened (by omega)
                         cases hbb
                         have hc4 := hcc k4 hlt
                         rw [Nat.zero_add] at hc4
                         clear hcc
                         go_wp2_with fail
                         by_cases hh : ∃ j, j < m2 ∧ D j = C k4
                         · refine (lawHas_any _ m2 c2 D _ true (by simp [hh]) (by omega) _ EB.out.num).mono ?_
                           clear hh
                           rintro e u2 ⟨rfl, rfl⟩
                           go_wp2
                           go_ret
                           exact ⟨rfl, A1.out⟩
                         · refine (lawHas_any _ m2 c2 D _ false (by simpa using hh) (by omega) _ EB.out.num).mono ?_
                           have HH : Hid (¬ ∃ j, j < m2 ∧ D j = C k4) := hh
                           clear hh
                           rintro e u2 ⟨rfl, rfl⟩
                           go_wp2_with fail
                           go_roundw
                           case rel => exact ⟨k4 + 1, by omega, by go_num, fun i hi => by
                             rcases (show i < k4 ∨ i = k4 by omega) with q1 | q1
                             · exact NO.out i q1
                             · rw [q1]; exact HH.out, trivial⟩
                           case measure => simp [intOf]; omega)
end Go.Proofs.Ytnhlnneicnkmeaa
