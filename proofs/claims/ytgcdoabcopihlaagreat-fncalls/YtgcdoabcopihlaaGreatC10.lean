/-
  Files compared: slices.Equal, l11Same; SameFiles of the program and of the model (written by tools/mksame.py).
-/
import Derived.Test.YtgcdoabcopihlaaGreatFileOkI
import Derived.Test.YtgcdoabcopihlaaGreatFileOkS
namespace Go.Proofs.YtgcdoabcopihlaaGreat
open Go.ChangeShapes Go.WideShapes Go.ChangeAt Go.RowKit
set_option linter.unusedVariables false
/-- The same files. -/
def SameF (n m : Nat) (F G : Nat → Fi) : Prop := n = m ∧ ∀ i, i < n → F i = G i
end Go.Proofs.YtgcdoabcopihlaaGreat

/-
  Files compared by the laws (sameFiles).
-/
namespace Go.Proofs.YtgcdoabcopihlaaGreat
open Go.ChangeShapes Go.WideShapes Go.ChangeAt Go.RowKit
set_option linter.unusedVariables false
set_option maxRecDepth 100000 in
set_option maxHeartbeats 2000000 in
theorem sameFiles_any (a b : Option Addr) (n m c d : Nat) (F G : Nat → Fi) (hn : n ≤ 1048576) (hm : m ≤ 1048576) (w : World) (h : Els w 3 a n (fiF F)) (h' : Els w 3 b m (fiF G)) :
    Calls Tryz.prog 9 #[.slice a n c, .slice b m d] w fun e w' => Says e (SameF n m F G) ∧ Below w.heap.size w w' := by
  by_cases hnm : n = m
  · subst hnm
    have H : Hid (Els w 3 a n (fiF F)) := h
    have H' : Hid (Els w 3 b n (fiF G)) := h'
    have hne : ((n : Int) != (n : Int)) = false := by simp
    clear h h'
    go_enter Tryz.func9, Tryz.ntmps9
    go_wp2
    go_loopw [5] (fun i wr => ∃ k : Nat, k ≤ n ∧ i = .int .i64 k ∧ (∀ j, j < k → F j = G j) ∧ Below w.heap.size w wr) (fun i _ => n - (intOf i).toNat)
    case atStart => exact ⟨0, by omega, rfl, fun j hj => absurd hj (by omega), Below.refl _ _⟩
    case round =>
      obtain ⟨k, hk, rfl, hI, hb⟩ := hrel
      have HI : Hid (∀ j, j < k → F j = G j) := hI
      have HB : Hid (Below w.heap.size w wr) := hb
      clear hI
      by_cases hlt : k < n
      · have hlt' : (k : Int) < (n : Int) := by omega
        obtain ⟨b1, o1, rfl, hc⟩ := (H.out.below hb).opened (by omega)
        obtain ⟨b2, o2, rfl, hc'⟩ := (H'.out.below hb).opened (by omega)
        obtain ⟨c0, c1, c2⟩ := Els.fiC hc k hlt
        obtain ⟨d0, d1, d2⟩ := Els.fiC hc' k hlt
        clear hc hc' hb
        by_cases he : F k = G k
        · have HE : Hid (F k = G k) := he
          rw [← he] at d0 d1 d2
          have g1 : ((F k).p.toList == (F k).p.toList) = true := by simp
          have g2 : ((F k).t.toList == (F k).t.toList) = true := by simp
          have g3 : ((F k).d == (F k).d) = true := by simp
          have g4 : ((F k).d != (F k).d) = false := by simp
          clear he
          go_wp2_with fail
          go_quiet (fail)
          clear c0 c1 c2 d0 d1 d2
          go_wp2
          go_roundw
          case rel => exact ⟨k + 1, by omega, by go_num, fun j hj => by
            by_cases e : j = k
            · subst e; exact HE.out
            · exact HI.out j (by omega), below_drewN HB.out _⟩
          case measure => simp [intOf]; omega
        · have HN : Hid (¬ SameF n n F G) := fun q => he (q.2 k hlt)
          generalize F k = y at *
          generalize G k = z at *
          obtain ⟨p, d, t⟩ := y
          obtain ⟨p', d', t'⟩ := z
          dsimp only at *
          have key : (p.toList == p'.toList) = false ∨ ((p = p') ∧ d ≠ d') ∨ (p = p' ∧ d = d' ∧ (t.toList == t'.toList) = false) := by
            by_cases e1 : p = p'
            · by_cases e2 : d = d'
              · refine .inr (.inr ⟨e1, e2, textNe (fun e3 => he ?_)⟩)
                subst e1; subst e2; subst e3; rfl
              · exact .inr (.inl ⟨e1, e2⟩)
            · exact .inl (textNe e1)
          clear he
          rcases key with g1 | ⟨rfl, g1⟩ | ⟨rfl, rfl, g1⟩
          · go_wp2_with fail
            go_quiet (fail)
            clear c0 c1 c2 d0 d1 d2
            go_wp2
            go_ret
            exact ⟨⟨false, rfl, by simpa using HN.out⟩, below_drewN HB.out _⟩
          · have g0 : (p.toList == p.toList) = true := by simp
            have g2 : (d == d') = false := by simpa using g1
            have g3 : (d != d') = true := by simpa using g1
            cases d <;> cases d' <;> first | (exact absurd rfl g1) | skip
            all_goals
              clear g1
              go_wp2_with fail
              go_quiet (fail)
              clear c0 c1 c2 d0 d1 d2
              go_wp2
              go_ret
              exact ⟨⟨false, rfl, by simpa using HN.out⟩, below_drewN HB.out _⟩
          · have g0 : (p.toList == p.toList) = true := by simp
            have g2 : (d == d) = true := by simp
            go_wp2_with fail
            go_quiet (fail)
            clear c0 c1 c2 d0 d1 d2
            go_wp2
            go_ret
            exact ⟨⟨false, rfl, by simpa using HN.out⟩, below_drewN HB.out _⟩
      · obtain rfl : k = n := by omega
        have HY : Hid (SameF k k F G) := ⟨rfl, HI.out⟩
        clear hb
        go_wp2
        go_ret
        exact ⟨⟨true, rfl, by simpa using HY.out⟩, HB.out⟩
  · have g : ((n : Int) != (m : Int)) = true := by simp; omega
    have HN : Hid (¬ SameF n m F G) := fun q => hnm q.1
    clear h h' hnm
    go_enter Tryz.func9, Tryz.ntmps9
    go_wp2
    go_ret
    exact ⟨⟨false, rfl, by simpa using HN.out⟩, Below.refl _ _⟩
end Go.Proofs.YtgcdoabcopihlaaGreat
