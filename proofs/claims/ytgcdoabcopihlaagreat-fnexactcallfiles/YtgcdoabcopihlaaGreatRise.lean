/-
  Numbers that rise: comparing, and the place of one among them.
-/
import Derived.Test.YtgcdoabcopihlaaGreatRows
import Derived.WalkKit
namespace Go.Proofs.YtgcdoabcopihlaaGreat
open Go.RowKit
set_option linter.unusedVariables false
open Classical in
noncomputable def okB (P : Prop) : Bool := decide P
theorem okB_yes {P : Prop} (h : P) : okB P = true := by unfold okB; simp [h]
theorem okB_no {P : Prop} (h : ¬ P) : okB P = false := by unfold okB; simp [h]
def cmpI (x y : Int) : Int := if x < y then -1 else if y < x then 1 else 0
theorem cmpI_lt {x y : Int} (h : x < y) : cmpI x y = -1 := if_pos h
theorem cmpI_gt {x y : Int} (h : y < x) : cmpI x y = 1 := by unfold cmpI; rw [if_neg (by omega), if_pos h]
theorem cmpI_eq {x y : Int} (h : x = y) : cmpI x y = 0 := by unfold cmpI; rw [if_neg (by omega), if_neg (by omega)]
/-- What is below x stands ahead of place k. -/
def Pos (f : Nat → Int) (n : Nat) (x : Int) (k : Nat) : Prop := k ≤ n ∧ (∀ i, i < k → f i < x) ∧ (∀ i, k ≤ i → i < n → x ≤ f i)
/-- The place of x among the first n. -/
def posN (f : Nat → Int) (x : Int) : Nat → Nat
  | 0 => 0
  | n + 1 => if posN f x n < n then posN f x n else if f n < x then n + 1 else n
theorem posN_le (f : Nat → Int) (x : Int) : ∀ n, posN f x n ≤ n
  | 0 => Nat.le_refl _
  | n + 1 => by
    have := posN_le f x n
    unfold posN
    split
    · omega
    · split <;> omega
theorem posN_below (f : Nat → Int) (x : Int) : ∀ n, ∀ i, i < posN f x n → f i < x
  | 0, i, h => by simp [posN] at h
  | n + 1, i, h => by
    have h0 := posN_le f x n
    unfold posN at h
    split at h
    · exact posN_below f x n i h
    · split at h
      · rcases Nat.lt_or_ge i n with g | g
        · exact posN_below f x n i (by omega)
        · obtain rfl : i = n := by omega
          assumption
      · exact posN_below f x n i (by omega)
theorem posN_at (f : Nat → Int) (x : Int) : ∀ n, posN f x n < n → x ≤ f (posN f x n)
  | 0, h => by simp [posN] at h
  | n + 1, h => by
    have h0 := posN_le f x n
    unfold posN at h ⊢
    split
    · exact posN_at f x n (by assumption)
    · rename_i g
      rw [if_neg g] at h
      split
      · rename_i g2
        rw [if_pos g2] at h
        omega
      · omega
def Rises (f : Nat → Int) (n : Nat) : Prop := ∀ i j, i < j → j < n → f i < f j
theorem rises_of {f : Nat → Int} {n : Nat} (h : ∀ i, i < n → 0 < i → f (i - 1) < f i) : Rises f n := fun i j hij => by
  induction j with
  | zero => omega
  | succ j ih =>
    intro hj
    have h1 := h (j + 1) hj (by omega)
    rw [show j + 1 - 1 = j from by omega] at h1
    rcases Nat.lt_or_ge i j with g | g
    · have := ih g (by omega); omega
    · obtain rfl : i = j := by omega
      exact h1
theorem pos_of {f : Nat → Int} {n : Nat} (h : Rises f n) (x : Int) : Pos f n x (posN f x n) := ⟨posN_le f x n, posN_below f x n, fun i h1 h2 => by
  have h0 := posN_at f x n (by omega)
  rcases Nat.lt_or_ge (posN f x n) i with g | g
  · have := h _ _ g h2; omega
  · obtain rfl : i = posN f x n := by omega
    exact h0⟩
end Go.Proofs.YtgcdoabcopihlaaGreat
