/-
  Files compared: slices.Equal, l11Same; SameFiles of the program and of the model (written by tools/mksame.py).
-/
import Derived.Test.YtbdoablokoghbaaFileOkI
import Derived.Test.YtbdoablokoghbaaFileOkS
namespace Go.Proofs.Ytbdoablokoghbaa
open Go.ChangeShapes Go.WideShapes Go.ChangeAt Go.RowKit
set_option linter.unusedVariables false
/-- The same files. -/
def SameF (n m : Nat) (F G : Nat → Fi) : Prop := n = m ∧ ∀ i, i < n → F i = G i
set_option maxRecDepth 100000 in
set_option maxHeartbeats 2000000 in
theorem equalF_any (a b : Option Addr) (n m c d : Nat) (F G : Nat → Fi) (hn : n ≤ 1048576) (hm : m ≤ 1048576) (w : World) (h : Els w 3 a n (fiF F)) (h' : Els w 3 b m (fiF G)) :
    Calls Try.prog 52 #[.slice a n c, .slice b m d] w fun e w' => Says e (SameF n m F G) ∧ Below w.heap.size w w' := by
  by_cases hnm : n = m
  · subst hnm
    have H : Hid (Els w 3 a n (fiF F)) := h
    have H' : Hid (Els w 3 b n (fiF G)) := h'
    have hne : ((n : Int) != (n : Int)) = false := by simp
    clear h h'
    go_enter Try.func52, Try.ntmps52
    go_wp2
    go_loopw [13] (fun i wr => ∃ k : Nat, k ≤ n ∧ i = .int .i64 k ∧ (∀ j, j < k → F j = G j) ∧ Below w.heap.size w wr) (fun i _ => n - (intOf i).toNat)
    case atStart => exact ⟨0, by omega, rfl, fun j hj => absurd hj (by omega), Below.refl _ _⟩
    case round =>
      obtain ⟨k, hk, rfl, hI, hb⟩ := hrel
      have HI : Hid (∀ j, j < k → F j = G j) := hI
      have HB : Hid (Below w.heap.size w wr) := hb
      clear hI
      by_cases hlt : k < n
      · have hlt' : (k : Int) < (n : Int) := by omega
        obtain ⟨b1, o1, rfl, hc⟩ := (H.out.below hb).opened (by omega)
        obtain ⟨b2, o2, rfl, hc'⟩ := (H'.out.below hb).opened (by omega)
        obtain ⟨c0, c1, c2⟩ := Els.fiC hc k hlt
        obtain ⟨d0, d1, d2⟩ := Els.fiC hc' k hlt
        clear hc hc' hb
        by_cases he : F k = G k
        · have HE : Hid (F k = G k) := he
          rw [← he] at d0 d1 d2
          have g1 : ((F k).p.toList == (F k).p.toList) = true := by simp
          have g2 : ((F k).t.toList == (F k).t.toList) = true := by simp
          have g3 : ((F k).d == (F k).d) = true := by simp
          have g4 : ((F k).d != (F k).d) = false := by simp
          clear he
          go_wp2_with fail
          go_quiet (fail)
          clear c0 c1 c2 d0 d1 d2
          go_wp2
          go_roundw
          case rel => exact ⟨k + 1, by omega, by go_num, fun j hj => by
            by_cases e : j = k
            · subst e; exact HE.out
            · exact HI.out j (by omega), below_drewN HB.out _⟩
          case measure => simp [intOf]; omega
        · have HN : Hid (¬ SameF n n F G) := fun q => he (q.2 k hlt)
          generalize F k = y at *
          generalize G k = z at *
          obtain ⟨p, d, t⟩ := y
          obtain ⟨p', d', t'⟩ := z
          dsimp only at *
          have key : (p.toList == p'.toList) = false ∨ ((p = p') ∧ d ≠ d') ∨ (p = p' ∧ d = d' ∧ (t.toList == t'.toList) = false) := by
            by_cases e1 : p = p'
            · by_cases e2 : d = d'
              · refine .inr (.inr ⟨e1, e2, textNe (fun e3 => he ?_)⟩)
                subst e1; subst e2; subst e3; rfl
              · exact .inr (.inl ⟨e1, e2⟩)
            · exact .inl (textNe e1)
          clear he
          rcases key with g1 | ⟨rfl, g1⟩ | ⟨rfl, rfl, g1⟩
          · go_wp2_with fail
            go_quiet (fail)
            clear c0 c1 c2 d0 d1 d2
            go_wp2
            go_ret
            exact ⟨⟨false, rfl, by simpa using HN.out⟩, below_drewN HB.out _⟩
          · have g0 : (p.toList == p.toList) = true := by simp
            have g2 : (d == d') = false := by simpa using g1
            have g3 : (d != d') = true := by simpa using g1
            cases d <;> cases d' <;> first | (exact absurd rfl g1) | skip
            all_goals
              clear g1
              go_wp2_with fail
              go_quiet (fail)
              clear c0 c1 c2 d0 d1 d2
              go_wp2
              go_ret
              exact ⟨⟨false, rfl, by simpa using HN.out⟩, below_drewN HB.out _⟩
          · have g0 : (p.toList == p.toList) = true := by simp
            have g2 : (d == d) = true := by simp
            go_wp2_with fail
            go_quiet (fail)
            clear c0 c1 c2 d0 d1 d2
            go_wp2
            go_ret
            exact ⟨⟨false, rfl, by simpa using HN.out⟩, below_drewN HB.out _⟩
      · obtain rfl : k = n := by omega
        have HY : Hid (SameF k k F G) := ⟨rfl, HI.out⟩
        clear hb
        go_wp2
        go_ret
        exact ⟨⟨true, rfl, by simpa using HY.out⟩, HB.out⟩
  · have g : ((n : Int) != (m : Int)) = true := by simp; omega
    have HN : Hid (¬ SameF n m F G) := fun q => hnm q.1
    clear h h' hnm
    go_enter Try.func52, Try.ntmps52
    go_wp2
    go_ret
    exact ⟨⟨false, rfl, by simpa using HN.out⟩, Below.refl _ _⟩
/-- What SameFiles answers. -/
def SmIs (n m : Nat) (F G : Nat → Fi) (b : Bool) (c : Int) : Prop :=
  ((4096 < n ∨ 4096 < m) ∧ b = false ∧ c = 2) ∨ (¬ (4096 < n ∨ 4096 < m) ∧ ((¬ (FsOk n F ∧ FsOk m G) ∧ b = false ∧ c = 1) ∨ ((FsOk n F ∧ FsOk m G) ∧ (b = true ↔ SameF n m F G) ∧ c = 0)))
def SmRet (n m : Nat) (F G : Nat → Fi) (e : Ending) : Prop := ∃ z cd, SmIs n m F G z cd ∧ e = .returned (.tuple #[.bool z, .int .i64 cd])
theorem SmIs.uniq {n m : Nat} {F G : Nat → Fi} {b b' : Bool} {c c' : Int} (h : SmIs n m F G b c) (h' : SmIs n m F G b' c') : b = b' ∧ c = c' := by
  rcases h with ⟨a, rfl, rfl⟩ | ⟨a, ⟨e, rfl, rfl⟩ | ⟨e, f, rfl⟩⟩ <;> rcases h' with ⟨a', rfl, rfl⟩ | ⟨a', ⟨e', rfl, rfl⟩ | ⟨e', f', rfl⟩⟩ <;> first | exact ⟨rfl, rfl⟩ | exact absurd a a' | exact absurd a' a | exact absurd e e' | exact absurd e' e | exact ⟨by rw [Bool.eq_iff_iff, f, f'], rfl⟩
set_option maxRecDepth 100000 in
set_option maxHeartbeats 2000000 in
theorem implSame_any (a b : Option Addr) (n m c d : Nat) (F G : Nat → Fi) (hF : ∀ i, i < n → (F i).p.size ≤ 1048576) (hG : ∀ i, i < m → (G i).p.size ≤ 1048576) (hn : n ≤ 1048576) (hm : m ≤ 1048576) (hs : SlP a n c) (hs' : SlP b m d) (w : World) (h : Els w 3 a n (fiF F)) (h' : Els w 3 b m (fiF G)) :
    Calls Try.prog 22 #[.slice a n c, .slice b m d] w fun e w' => SmRet n m F G e ∧ Below w.heap.size w w' := by
  by_cases hl : 4096 < n ∨ 4096 < m
  · have HX : Hid (SmIs n m F G false 2) := .inl ⟨hl, rfl, rfl⟩
    by_cases h0 : 4096 < n
    · have g0 : (4096 : Int) < (n : Int) := by omega
      clear h h' hF hG hl
      go_enter Try.func22, Try.ntmps22
      go_wp2
      go_ret2
      exact ⟨⟨_, _, HX.out, rfl⟩, Below.refl _ _⟩
    · have g0 : ¬ (4096 : Int) < (n : Int) := by omega
      have g1 : (4096 : Int) < (m : Int) := by rcases hl with q | q <;> omega
      clear h h' hF hG hl
      go_enter Try.func22, Try.ntmps22
      go_wp2
      go_ret2
      exact ⟨⟨_, _, HX.out, rfl⟩, Below.refl _ _⟩
  · have g0 : ¬ (4096 : Int) < (n : Int) := fun q => hl (.inl (by omega))
    have g1 : ¬ (4096 : Int) < (m : Int) := fun q => hl (.inr (by omega))
    have HL : Hid (¬ (4096 < n ∨ 4096 < m)) := hl
    have F1 : Hid (∀ w' : World, Below w.heap.size w w' → Calls Try.prog 13 #[.slice a n c] w' fun e w'' => Says e (FsOk n F) ∧ Below w'.heap.size w' w'') := fun w' hb => implFilesOK_any a n c F hF hs w' (h.below hb)
    have F2 : Hid (∀ w' : World, Below w.heap.size w w' → Calls Try.prog 13 #[.slice b m d] w' fun e w'' => Says e (FsOk m G) ∧ Below w'.heap.size w' w'') := fun w' hb => implFilesOK_any b m d G hG hs' w' (h'.below hb)
    have CM : Hid (∀ w' : World, Below w.heap.size w w' → Calls Try.prog 52 #[.slice a n c, .slice b m d] w' fun e w'' => Says e (SameF n m F G) ∧ Below w'.heap.size w' w'') := fun w' hb => equalF_any a b n m c d F G hn hm w' (h.below hb) (h'.below hb)
    have B0 : Hid (Below w.heap.size w w) := Below.refl _ _
    clear h h' hF hG hl
    go_enter Try.func22, Try.ntmps22
    go_wp2_with fail
    refine (F1.out _ B0.out).mono ?_
    rintro e v1 ⟨⟨y, rfl, hy⟩, hb⟩
    have B1 : Hid (Below w.heap.size w v1) := hb
    have HY : Hid (y = true ↔ FsOk n F) := hy
    clear hy hb F1
    cases y with
    | false =>
      have HX : Hid (SmIs n m F G false 1) := .inr ⟨HL.out, .inl ⟨(fun q => by have := HY.out.2 q.1; cases this), rfl, rfl⟩⟩
      clear HY
      go_wp2
      go_ret2
      exact ⟨⟨_, _, HX.out, rfl⟩, B1.out⟩
    | true =>
      have HO : Hid (FsOk n F) := HY.out.1 rfl
      clear HY
      go_wp2_with fail
      refine (F2.out _ B1.out).mono ?_
      rintro e v2 ⟨⟨y, rfl, hy⟩, hb⟩
      have B2 : Hid (Below w.heap.size w v2) := B1.out.trans (hb.mono B1.out.size)
      have HY : Hid (y = true ↔ FsOk m G) := hy
      clear hy hb F2
      cases y with
      | false =>
        have HX : Hid (SmIs n m F G false 1) := .inr ⟨HL.out, .inl ⟨(fun q => by have := HY.out.2 q.2; cases this), rfl, rfl⟩⟩
        clear HY
        go_wp2
        go_ret2
        exact ⟨⟨_, _, HX.out, rfl⟩, B2.out⟩
      | true =>
        have HO2 : Hid (FsOk m G) := HY.out.1 rfl
        clear HY
        go_wp2_with fail
        refine (CM.out _ B2.out).mono ?_
        rintro e v3 ⟨⟨y, rfl, hy⟩, hb⟩
        have B3 : Hid (Below w.heap.size w v3) := B2.out.trans (hb.mono B2.out.size)
        have HX : Hid (SmIs n m F G y 0) := .inr ⟨HL.out, .inr ⟨⟨HO.out, HO2.out⟩, hy, rfl⟩⟩
        clear hy hb CM
        go_wp2
        go_ret2
        exact ⟨⟨_, _, HX.out, rfl⟩, B3.out⟩
end Go.Proofs.Ytbdoablokoghbaa

/-
  Files compared by the laws (sameFiles).
-/
namespace Go.Proofs.Ytbdoablokoghbaa
open Go.ChangeShapes Go.WideShapes Go.ChangeAt Go.RowKit
set_option linter.unusedVariables false
set_option maxRecDepth 100000 in
set_option maxHeartbeats 2000000 in
theorem sameFiles_any (a b : Option Addr) (n m c d : Nat) (F G : Nat → Fi) (hn : n ≤ 1048576) (hm : m ≤ 1048576) (w : World) (h : Els w 3 a n (fiF F)) (h' : Els w 3 b m (fiF G)) :
    Calls Try.prog 12 #[.slice a n c, .slice b m d] w fun e w' => Says e (SameF n m F G) ∧ Below w.heap.size w w' := by
  by_cases hnm : n = m
  · subst hnm
    have H : Hid (Els w 3 a n (fiF F)) := h
    have H' : Hid (Els w 3 b n (fiF G)) := h'
    have hne : ((n : Int) != (n : Int)) = false := by simp
    clear h h'
    go_enter Try.func12, Try.ntmps12
    go_wp2
    go_loopw [5] (fun i wr => ∃ k : Nat, k ≤ n ∧ i = .int .i64 k ∧ (∀ j, j < k → F j = G j) ∧ Below w.heap.size w wr) (fun i _ => n - (intOf i).toNat)
    case atStart => exact ⟨0, by omega, rfl, fun j hj => absurd hj (by omega), Below.refl _ _⟩
    case round =>
      obtain ⟨k, hk, rfl, hI, hb⟩ := hrel
      have HI : Hid (∀ j, j < k → F j = G j) := hI
      have HB : Hid (Below w.heap.size w wr) := hb
      clear hI
      by_cases hlt : k < n
      · have hlt' : (k : Int) < (n : Int) := by omega
        obtain ⟨b1, o1, rfl, hc⟩ := (H.out.below hb).opened (by omega)
        obtain ⟨b2, o2, rfl, hc'⟩ := (H'.out.below hb).opened (by omega)
        obtain ⟨c0, c1, c2⟩ := Els.fiC hc k hlt
        obtain ⟨d0, d1, d2⟩ := Els.fiC hc' k hlt
        clear hc hc' hb
        by_cases he : F k = G k
        · have HE : Hid (F k = G k) := he
          rw [← he] at d0 d1 d2
          have g1 : ((F k).p.toList == (F k).p.toList) = true := by simp
          have g2 : ((F k).t.toList == (F k).t.toList) = true := by simp
          have g3 : ((F k).d == (F k).d) = true := by simp
          have g4 : ((F k).d != (F k).d) = false := by simp
          clear he
          go_wp2_with fail
          go_quiet (fail)
          clear c0 c1 c2 d0 d1 d2
          go_wp2
          go_roundw
          case rel => exact ⟨k + 1, by omega, by go_num, fun j hj => by
            by_cases e : j = k
            · subst e; exact HE.out
            · exact HI.out j (by omega), below_drewN HB.out _⟩
          case measure => simp [intOf]; omega
        · have HN : Hid (¬ SameF n n F G) := fun q => he (q.2 k hlt)
          generalize F k = y at *
          generalize G k = z at *
          obtain ⟨p, d, t⟩ := y
          obtain ⟨p', d', t'⟩ := z
          dsimp only at *
          have key : (p.toList == p'.toList) = false ∨ ((p = p') ∧ d ≠ d') ∨ (p = p' ∧ d = d' ∧ (t.toList == t'.toList) = false) := by
            by_cases e1 : p = p'
            · by_cases e2 : d = d'
              · refine .inr (.inr ⟨e1, e2, textNe (fun e3 => he ?_)⟩)
                subst e1; subst e2; subst e3; rfl
              · exact .inr (.inl ⟨e1, e2⟩)
            · exact .inl (textNe e1)
          clear he
          rcases key with g1 | ⟨rfl, g1⟩ | ⟨rfl, rfl, g1⟩
          · go_wp2_with fail
            go_quiet (fail)
            clear c0 c1 c2 d0 d1 d2
            go_wp2
            go_ret
            exact ⟨⟨false, rfl, by simpa using HN.out⟩, below_drewN HB.out _⟩
          · have g0 : (p.toList == p.toList) = true := by simp
            have g2 : (d == d') = false := by simpa using g1
            have g3 : (d != d') = true := by simpa using g1
            cases d <;> cases d' <;> first | (exact absurd rfl g1) | skip
            all_goals
              clear g1
              go_wp2_with fail
              go_quiet (fail)
              clear c0 c1 c2 d0 d1 d2
              go_wp2
              go_ret
              exact ⟨⟨false, rfl, by simpa using HN.out⟩, below_drewN HB.out _⟩
          · have g0 : (p.toList == p.toList) = true := by simp
            have g2 : (d == d) = true := by simp
            go_wp2_with fail
            go_quiet (fail)
            clear c0 c1 c2 d0 d1 d2
            go_wp2
            go_ret
            exact ⟨⟨false, rfl, by simpa using HN.out⟩, below_drewN HB.out _⟩
      · obtain rfl : k = n := by omega
        have HY : Hid (SameF k k F G) := ⟨rfl, HI.out⟩
        clear hb
        go_wp2
        go_ret
        exact ⟨⟨true, rfl, by simpa using HY.out⟩, HB.out⟩
  · have g : ((n : Int) != (m : Int)) = true := by simp; omega
    have HN : Hid (¬ SameF n m F G) := fun q => hnm q.1
    clear h h' hnm
    go_enter Try.func12, Try.ntmps12
    go_wp2
    go_ret
    exact ⟨⟨false, rfl, by simpa using HN.out⟩, Below.refl _ _⟩
end Go.Proofs.Ytbdoablokoghbaa
