/-
  Plain mathematics of the powers of 3 and of the tables of substitutes that are made out of them: a table made so holds the substitute of each byte, and the one made backwards that whose substitute it is.
-/
import Derived.Test.YtbhlgcenfanicaaSub
namespace Go.Proofs.Ytbhlgcenfanicaa.Gf

def pw : Nat → Nat
  | 0 => 1
  | k + 1 => pw k ^^^ dbl (pw k)
theorem pw_succ (k : Nat) : pw (k + 1) = pw k ^^^ dbl (pw k) := rfl
theorem pw_lt (k : Nat) : pw k < 256 := by
  induction k with
  | zero => decide
  | succ k ih => exact xor_lt ih (dbl_lt _ ih)
def lgL : List Nat := [0, 0, 25, 1, 50, 2, 26, 198, 75, 199, 27, 104, 51, 238, 223, 3, 100, 4, 224, 14, 52, 141, 129, 239, 76, 113, 8, 200, 248, 105, 28, 193, 125, 194, 29, 181, 249, 185, 39, 106, 77, 228, 166, 114, 154, 201, 9, 120, 101, 47, 138, 5, 33, 15, 225, 36, 18, 240, 130, 69, 53, 147, 218, 142, 150, 143, 219, 189, 54, 208, 206, 148, 19, 92, 210, 241, 64, 70, 131, 56, 102, 221, 253, 48, 191, 6, 139, 98, 179, 37, 226, 152, 34, 136, 145, 16, 126, 110, 72, 195, 163, 182, 30, 66, 58, 107, 40, 84, 250, 133, 61, 186, 43, 121, 10, 21, 155, 159, 94, 202, 78, 212, 172, 229, 243, 115, 167, 87, 175, 88, 168, 80, 244, 234, 214, 116, 79, 174, 233, 213, 231, 230, 173, 232, 44, 215, 117, 122, 235, 22, 11, 245, 89, 203, 95, 176, 156, 169, 81, 160, 127, 12, 246, 111, 23, 196, 73, 236, 216, 67, 31, 45, 164, 118, 123, 183, 204, 187, 62, 90, 251, 96, 177, 134, 59, 82, 161, 108, 170, 85, 41, 157, 151, 178, 135, 144, 97, 190, 220, 252, 188, 149, 207, 205, 55, 63, 91, 209, 83, 57, 132, 60, 65, 162, 109, 71, 20, 42, 158, 93, 86, 242, 211, 171, 68, 17, 146, 217, 35, 32, 46, 137, 180, 124, 184, 38, 119, 153, 227, 165, 103, 74, 237, 222, 197, 49, 254, 24, 13, 99, 140, 128, 192, 247, 112, 7]
theorem lg_all : ∀ j, j < 256 → j = 0 ∨ (lgL.getD j 0 < 255 ∧ pw (lgL.getD j 0) = j) := by decide +kernel
theorem pw_sub : ∀ k, k < 255 → pw k ≠ 0 ∧ spread (pw ((255 - k) % 255)) = sub (pw k) := by decide +kernel
/-- The table after k rounds. -/
def tabTo : Nat → Nat → Nat
  | 0, j => if j = 0 then 99 else 0
  | k + 1, j => if j = pw k then spread (pw ((255 - k) % 255)) else tabTo k j
theorem tabTo_hit (k i : Nat) (hi : i < k) (hk : k ≤ 255) : tabTo k (pw i) = sub (pw i) := by
  induction k with
  | zero => omega
  | succ k ih =>
    show (if pw i = pw k then spread (pw ((255 - k) % 255)) else tabTo k (pw i)) = _
    split
    · rename_i h; rw [h]; exact (pw_sub k (by omega)).2
    · rename_i h
      refine ih ?_ (by omega)
      rcases Nat.lt_or_ge i k with g | g
      · exact g
      · exact absurd (by rw [show i = k from by omega]) h
theorem tabTo_zero (k : Nat) (hk : k ≤ 255) : tabTo k 0 = 99 := by
  induction k with
  | zero => rfl
  | succ k ih =>
    show (if 0 = pw k then spread (pw ((255 - k) % 255)) else tabTo k 0) = _
    rw [if_neg (fun h => (pw_sub k (by omega)).1 h.symm)]
    exact ih (by omega)
theorem sub_zero : sub 0 = 99 := by decide +kernel
theorem tab_last (j : Nat) (hj : j < 256) : tabTo 255 j = sub j := by
  rcases lg_all j hj with h | ⟨h, e⟩
  · rw [h, tabTo_zero 255 (by omega), sub_zero]
  · have := tabTo_hit 255 _ h (by omega)
    rw [e] at this
    exact this
theorem unsub_sub : ∀ a, a < 256 → unsub (sub a) = a := by decide +kernel
theorem sub_unsub : ∀ a, a < 256 → sub (unsub a) = a := by decide +kernel
/-- The table backwards after k rounds. -/
def backTo : Nat → Nat → Nat
  | 0, _ => 0
  | k + 1, j => if j = sub k then k else backTo k j
theorem backTo_hit (k i : Nat) (hi : i < k) (hk : k ≤ 256) : backTo k (sub i) = i := by
  induction k with
  | zero => omega
  | succ k ih =>
    show (if sub i = sub k then k else backTo k (sub i)) = _
    split
    · rename_i h
      have := unsub_sub i (by omega)
      rw [h, unsub_sub k (by omega)] at this
      exact this
    · rename_i h
      refine ih ?_ (by omega)
      rcases Nat.lt_or_ge i k with g | g
      · exact g
      · exact absurd (by rw [show i = k from by omega]) h
theorem back_last (j : Nat) (hj : j < 256) : backTo 256 j = unsub j := by
  have := backTo_hit 256 (unsub j) (unsub_lt j hj) (by omega)
  rw [sub_unsub j hj] at this
  exact this
end Go.Proofs.Ytbhlgcenfanicaa.Gf
