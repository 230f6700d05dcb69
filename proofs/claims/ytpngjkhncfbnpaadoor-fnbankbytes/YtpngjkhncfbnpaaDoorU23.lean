/-
  Texts of the proof, joined: BankBs.
-/
import Derived.Test.YtpngjkhncfbnpaaDoorU18
import Derived.Test.YtpngjkhncfbnpaaDoorU20
import Derived.Test.YtpngjkhncfbnpaaDoorU11
namespace Go.Proofs.YtpngjkhncfbnpaaDoor
open Go.ChangeShapes Go.WideShapes Go.ChangeAt Go.RowKit
set_option linter.unusedVariables false
def Pos (f : Nat → Int) (n : Nat) (x : Int) (k : Nat) : Prop := k ≤ n ∧ (∀ i, i < k → f i < x) ∧ (∀ i, k ≤ i → i < n → x ≤ f i)
def posN (f : Nat → Int) (x : Int) : Nat → Nat
  | 0 => 0
  | n + 1 => if posN f x n < n then posN f x n else if f n < x then n + 1 else n
theorem posN_le (f : Nat → Int) (x : Int) : ∀ n, posN f x n ≤ n
  | 0 => Nat.le_refl _
  | n + 1 => by
    have := posN_le f x n
    unfold posN
    split
    · omega
    · split <;> omega
theorem posN_below (f : Nat → Int) (x : Int) : ∀ n, ∀ i, i < posN f x n → f i < x
  | 0, i, h => by simp [posN] at h
  | n + 1, i, h => by
    have h0 := posN_le f x n
    unfold posN at h
    split at h
    · exact posN_below f x n i h
    · split at h
      · rcases Nat.lt_or_ge i n with g | g
        · exact posN_below f x n i (by omega)
        · obtain rfl : i = n := by omega
          assumption
      · exact posN_below f x n i (by omega)
theorem posN_at (f : Nat → Int) (x : Int) : ∀ n, posN f x n < n → x ≤ f (posN f x n)
  | 0, h => by simp [posN] at h
  | n + 1, h => by
    have h0 := posN_le f x n
    unfold posN at h ⊢
    split
    · exact posN_at f x n (by assumption)
    · rename_i g
      rw [if_neg g] at h
      split
      · rename_i g2
        rw [if_pos g2] at h
        omega
      · omega
def Rises (f : Nat → Int) (n : Nat) : Prop := ∀ i j, i < j → j < n → f i < f j
theorem rises_of {f : Nat → Int} {n : Nat} (h : ∀ i, i < n → 0 < i → f (i - 1) < f i) : Rises f n := fun i j hij => by
  induction j with
  | zero => omega
  | succ j ih =>
    intro hj
    have h1 := h (j + 1) hj (by omega)
    rw [show j + 1 - 1 = j from by omega] at h1
    rcases Nat.lt_or_ge i j with g | g
    · have := ih g (by omega); omega
    · obtain rfl : i = j := by omega
      exact h1
theorem pos_of {f : Nat → Int} {n : Nat} (h : Rises f n) (x : Int) : Pos f n x (posN f x n) := ⟨posN_le f x n, posN_below f x n, fun i h1 h2 => by
  have h0 := posN_at f x n (by omega)
  rcases Nat.lt_or_ge (posN f x n) i with g | g
  · have := h _ _ g h2; omega
  · obtain rfl : i = posN f x n := by omega
    exact h0⟩
end Go.Proofs.YtpngjkhncfbnpaaDoor
