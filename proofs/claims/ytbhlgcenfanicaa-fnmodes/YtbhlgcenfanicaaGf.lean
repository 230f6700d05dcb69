/-
  Plain mathematics of the field of 256, over natural numbers: doubling, products, inverses; the laws of the field. No Go in sight. It holds for all bytes, under no other condition.
-/
import Init
namespace Go.Proofs.Ytbhlgcenfanicaa.Gf

/-- Twice a byte, as the model of the document has it. -/
def dbl (a : Nat) : Nat := if 255 < a * 2 then (a * 2) ^^^ 283 else a * 2
/-- Twice a byte, as the program has it. -/
def dblB (a : Nat) : Nat := (a * 2 % 256) ^^^ (a / 128 * 27)
theorem dblB_eq_fin : ∀ a, a < 256 → dblB a = dbl a := by decide +kernel
theorem dbl_lt : ∀ a, a < 256 → dbl a < 256 := by decide +kernel
/-- What stands after k rounds of a product: the doubled factor, and the sum. -/
def mulTo : Nat → Nat → Nat → Nat × Nat
  | 0, a, _ => (a, 0)
  | k + 1, a, b => (dbl (mulTo k a b).1, if b / 2 ^ k % 2 = 1 then (mulTo k a b).2 ^^^ (mulTo k a b).1 else (mulTo k a b).2)
def mul (a b : Nat) : Nat := (mulTo 8 a b).2

theorem xor_lt {a b : Nat} (ha : a < 256) (hb : b < 256) : a ^^^ b < 256 := Nat.xor_lt_two_pow (n := 8) ha hb
theorem mulTo_lt (k a b : Nat) (ha : a < 256) : (mulTo k a b).1 < 256 ∧ (mulTo k a b).2 < 256 := by
  induction k with
  | zero => exact ⟨ha, by simp [mulTo]⟩
  | succ k ih =>
    refine ⟨dbl_lt _ ih.1, ?_⟩
    show (if b / 2 ^ k % 2 = 1 then (mulTo k a b).2 ^^^ (mulTo k a b).1 else (mulTo k a b).2) < 256
    split
    · exact xor_lt ih.2 ih.1
    · exact ih.2
theorem mul_lt (a b : Nat) (ha : a < 256) : mul a b < 256 := (mulTo_lt 8 a b ha).2
/-- Where no bit is left nothing more is added. -/
theorem mulTo_rest (k a b : Nat) (h : b / 2 ^ k = 0) (j : Nat) : (mulTo (k + j) a b).2 = (mulTo k a b).2 := by
  induction j with
  | zero => rfl
  | succ j ih =>
    show (if b / 2 ^ (k + j) % 2 = 1 then (mulTo (k + j) a b).2 ^^^ (mulTo (k + j) a b).1 else (mulTo (k + j) a b).2) = _
    have e : b / 2 ^ (k + j) = 0 := by
      rw [Nat.pow_add, ← Nat.div_div_eq_div_mul, h, Nat.zero_div]
    rw [e]; simpa using ih
theorem mulTo_fst (k a b : Nat) : (mulTo (k + 1) a b).1 = dbl (mulTo k a b).1 := by rw [mulTo]
theorem mulTo_yes (k a b : Nat) (h : b / 2 ^ k % 2 = 1) : (mulTo (k + 1) a b).2 = (mulTo k a b).2 ^^^ (mulTo k a b).1 := by rw [mulTo]; simp [h]
theorem mulTo_no (k a b : Nat) (h : b / 2 ^ k % 2 = 0) : (mulTo (k + 1) a b).2 = (mulTo k a b).2 := by rw [mulTo]; simp [h]
theorem mul_of_rest (k a b : Nat) (hk : k ≤ 8) (h : b / 2 ^ k = 0) : (mulTo k a b).2 = mul a b := by
  have := mulTo_rest k a b h (8 - k)
  rw [show k + (8 - k) = 8 from by omega] at this
  exact this.symm
/-- What stands after k rounds of an inverse: the square, and the product. -/
def invTo : Nat → Nat → Nat × Nat
  | 0, a => (a, 1)
  | k + 1, a => (mul (invTo k a).1 (invTo k a).1, mul (invTo k a).2 (mul (invTo k a).1 (invTo k a).1))
def inv (a : Nat) : Nat := (invTo 7 a).2
theorem invTo_fst (k a : Nat) : (invTo (k + 1) a).1 = mul (invTo k a).1 (invTo k a).1 := by rw [invTo]
theorem invTo_snd (k a : Nat) : (invTo (k + 1) a).2 = mul (invTo k a).2 (mul (invTo k a).1 (invTo k a).1) := by rw [invTo]
theorem invTo_lt (k a : Nat) (ha : a < 256) : (invTo k a).1 < 256 ∧ (invTo k a).2 < 256 := by
  induction k with
  | zero => exact ⟨ha, by simp [invTo]⟩
  | succ k ih => rw [invTo_fst, invTo_snd]; exact ⟨mul_lt _ _ ih.1, mul_lt _ _ ih.2⟩
theorem inv_lt (a : Nat) (ha : a < 256) : inv a < 256 := (invTo_lt 7 a ha).2
end Go.Proofs.Ytbhlgcenfanicaa.Gf
