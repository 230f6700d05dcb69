/-
  Plain mathematics: products of bytes are the same in any order, parted over sums, and what is not nought has an inverse; for all bytes.
-/
import Derived.Test.YtbhlgcenfanicaaGf
namespace Go.Proofs.Ytbhlgcenfanicaa.Gf

theorem xor4 (a b c d : Nat) : (a ^^^ b) ^^^ (c ^^^ d) = (a ^^^ c) ^^^ (b ^^^ d) := by
  rw [Nat.xor_assoc, Nat.xor_assoc, ← Nat.xor_assoc b c d, Nat.xor_comm b c, Nat.xor_assoc c b d]
theorem bit27 : ∀ p, p < 2 → ∀ q, q < 2 → (p ^^^ q) * 27 = (p * 27) ^^^ (q * 27) := by decide
theorem xor_double (a b : Nat) : (a ^^^ b) * 2 % 256 = (a * 2 % 256) ^^^ (b * 2 % 256) := by
  have e : ∀ n : Nat, n * 2 = n <<< 1 := fun n => by rw [Nat.shiftLeft_eq]
  rw [e, e, e, Nat.shiftLeft_xor_distrib]
  exact Nat.xor_mod_two_pow (n := 8)
theorem xor_high (a b : Nat) : (a ^^^ b) / 128 = (a / 128) ^^^ (b / 128) := by
  have e : ∀ n : Nat, n / 128 = n >>> 7 := fun n => by rw [Nat.shiftRight_eq_div_pow]
  rw [e, e, e, Nat.shiftRight_xor_distrib]
theorem dbl_xor_fin (a : Nat) (ha : a < 256) (b : Nat) (hb : b < 256) : dbl (a ^^^ b) = dbl a ^^^ dbl b := by
  rw [← dblB_eq_fin _ (xor_lt ha hb), ← dblB_eq_fin _ ha, ← dblB_eq_fin _ hb]
  unfold dblB
  rw [xor_double, xor_high, bit27 _ (by omega) _ (by omega), xor4]
theorem bit_xor (b c k : Nat) : (b ^^^ c) / 2 ^ k % 2 = (b / 2 ^ k % 2 + c / 2 ^ k % 2) % 2 := by
  have e : ∀ n, n / 2 ^ k % 2 = (n.testBit k).toNat := fun n => by
    rw [Nat.testBit_eq_decide_div_mod_eq]
    rcases Nat.mod_two_eq_zero_or_one (n / 2 ^ k) with h | h <;> simp [h]
  rw [e, e, e, Nat.testBit_xor]
  cases b.testBit k <;> cases c.testBit k <;> rfl
theorem mulTo_fst_same (k a b c : Nat) : (mulTo k a b).1 = (mulTo k a c).1 := by
  induction k with
  | zero => rfl
  | succ k ih => rw [mulTo_fst, mulTo_fst, ih]
/-- Parted over sums of the second factor. -/
theorem mulTo_xor (k a b c : Nat) : (mulTo k a (b ^^^ c)).2 = (mulTo k a b).2 ^^^ (mulTo k a c).2 := by
  induction k with
  | zero => simp [mulTo]
  | succ k ih =>
    have hx := bit_xor b c k
    have f1 := mulTo_fst_same k a (b ^^^ c) c
    have f2 := mulTo_fst_same k a b c
    rcases Nat.mod_two_eq_zero_or_one (b / 2 ^ k) with h | h <;> rcases Nat.mod_two_eq_zero_or_one (c / 2 ^ k) with g | g <;> rw [h, g] at hx
    · rw [mulTo_no k a _ hx, mulTo_no k a _ h, mulTo_no k a _ g, ih]
    · rw [mulTo_yes k a _ hx, mulTo_no k a _ h, mulTo_yes k a _ g, ih, f1, Nat.xor_assoc]
    · rw [mulTo_yes k a _ hx, mulTo_yes k a _ h, mulTo_no k a _ g, ih, f1, f2, Nat.xor_assoc, Nat.xor_assoc, Nat.xor_comm (mulTo k a c).2]
    · rw [mulTo_no k a _ hx, mulTo_yes k a _ h, mulTo_yes k a _ g, ih, f2, xor4, Nat.xor_self, Nat.xor_zero]
theorem mul_xor (a b c : Nat) : mul a (b ^^^ c) = mul a b ^^^ mul a c := mulTo_xor 8 a b c
/-- Parted over sums of the first factor. -/
theorem mulTo_xorL (k a b c : Nat) (ha : a < 256) (hb : b < 256) : (mulTo k (a ^^^ b) c).1 = (mulTo k a c).1 ^^^ (mulTo k b c).1 ∧ (mulTo k (a ^^^ b) c).2 = (mulTo k a c).2 ^^^ (mulTo k b c).2 := by
  induction k with
  | zero => simp [mulTo]
  | succ k ih =>
    have l1 := mulTo_lt k a c ha
    have l2 := mulTo_lt k b c hb
    refine ⟨by rw [mulTo_fst, mulTo_fst, mulTo_fst, ih.1]; exact dbl_xor_fin _ l1.1 _ l2.1, ?_⟩
    rcases Nat.mod_two_eq_zero_or_one (c / 2 ^ k) with g | g
    · rw [mulTo_no k _ _ g, mulTo_no k _ _ g, mulTo_no k _ _ g, ih.2]
    · rw [mulTo_yes k _ _ g, mulTo_yes k _ _ g, mulTo_yes k _ _ g, ih.1, ih.2, xor4]
theorem mul_xorL (a b c : Nat) (ha : a < 256) (hb : b < 256) : mul (a ^^^ b) c = mul a c ^^^ mul b c := (mulTo_xorL 8 a b c ha hb).2
/-- A byte is the sum of its bits. -/
def bitOf (x k : Nat) : Nat := if x / 2 ^ k % 2 = 1 then 2 ^ k else 0
def sumBits (x : Nat) : Nat := ((((((bitOf x 0 ^^^ bitOf x 1) ^^^ bitOf x 2) ^^^ bitOf x 3) ^^^ bitOf x 4) ^^^ bitOf x 5) ^^^ bitOf x 6) ^^^ bitOf x 7
theorem sumBits_eq : ∀ x, x < 256 → sumBits x = x := by decide +kernel
theorem bitOf_lt (x k : Nat) (h : k < 8) : bitOf x k < 256 := by
  unfold bitOf
  split
  · exact Nat.pow_lt_pow_right (by omega) (show k < 8 from h)
  · omega
/-- Two functions that go over sums are the same on bytes if they are on single bits and at nought. -/
theorem lin_ext (f g : Nat → Nat) (hf : ∀ x y, x < 256 → y < 256 → f (x ^^^ y) = f x ^^^ f y) (hg : ∀ x y, x < 256 → y < 256 → g (x ^^^ y) = g x ^^^ g y)
    (h0 : f 0 = g 0) (h : ∀ k, k < 8 → f (2 ^ k) = g (2 ^ k)) (x : Nat) (hx : x < 256) : f x = g x := by
  have hb : ∀ k, k < 8 → f (bitOf x k) = g (bitOf x k) := fun k hk => by
    unfold bitOf; split
    · exact h k hk
    · exact h0
  have l := fun k (hk : k < 8) => bitOf_lt x k hk
  have p0 := l 0 (by omega); have p1 := l 1 (by omega); have p2 := l 2 (by omega); have p3 := l 3 (by omega)
  have p4 := l 4 (by omega); have p5 := l 5 (by omega); have p6 := l 6 (by omega); have p7 := l 7 (by omega)
  have q1 := xor_lt p0 p1; have q2 := xor_lt q1 p2; have q3 := xor_lt q2 p3; have q4 := xor_lt q3 p4; have q5 := xor_lt q4 p5; have q6 := xor_lt q5 p6
  rw [← sumBits_eq x hx]
  unfold sumBits
  rw [hf _ _ q6 p7, hf _ _ q5 p6, hf _ _ q4 p5, hf _ _ q3 p4, hf _ _ q2 p3, hf _ _ q1 p2, hf _ _ p0 p1]
  rw [hg _ _ q6 p7, hg _ _ q5 p6, hg _ _ q4 p5, hg _ _ q3 p4, hg _ _ q2 p3, hg _ _ q1 p2, hg _ _ p0 p1]
  rw [hb 0 (by omega), hb 1 (by omega), hb 2 (by omega), hb 3 (by omega), hb 4 (by omega), hb 5 (by omega), hb 6 (by omega), hb 7 (by omega)]
theorem pow_lt8 (k : Nat) (h : k < 8) : 2 ^ k < 256 := Nat.pow_lt_pow_right (by omega) (show k < 8 from h)
theorem comm_bits : ∀ j, j < 8 → ∀ k, k < 8 → mul (2 ^ j) (2 ^ k) = mul (2 ^ k) (2 ^ j) := by decide +kernel
theorem mul_zero (a : Nat) : mul a 0 = 0 := by
  have := mul_of_rest 0 a 0 (by omega) (by simp)
  rw [← this]; rfl
theorem zero_mul_fin : ∀ k, k < 8 → mul 0 (2 ^ k) = 0 := by decide +kernel
theorem zero_mul (b : Nat) (hb : b < 256) : mul 0 b = 0 :=
  lin_ext (fun b => mul 0 b) (fun _ => 0) (fun x y _ _ => mul_xor 0 x y) (fun _ _ _ _ => rfl) (mul_zero 0) (fun k hk => zero_mul_fin k hk) b hb
/-- In any order. -/
theorem mul_comm (a b : Nat) (ha : a < 256) (hb : b < 256) : mul a b = mul b a := by
  refine lin_ext (fun a => mul a b) (fun a => mul b a) (fun x y hx hy => mul_xorL x y b hx hy) (fun x y _ _ => mul_xor b x y) ?_ (fun j hj => ?_) a ha
  · show mul 0 b = mul b 0
    rw [zero_mul b hb, mul_zero]
  · show mul (2 ^ j) b = mul b (2 ^ j)
    refine lin_ext (fun b => mul (2 ^ j) b) (fun b => mul b (2 ^ j)) (fun x y _ _ => mul_xor _ x y) (fun x y hx hy => mul_xorL x y _ hx hy) ?_ (fun k hk => comm_bits j hj k hk) b hb
    show mul (2 ^ j) 0 = mul 0 (2 ^ j)
    rw [zero_mul _ (pow_lt8 j hj), mul_zero]
/-- A doubled factor doubles the product. -/
theorem mulTo_dbl (k a b : Nat) (ha : a < 256) : (mulTo k (dbl a) b).1 = dbl (mulTo k a b).1 ∧ (mulTo k (dbl a) b).2 = dbl (mulTo k a b).2 := by
  induction k with
  | zero => exact ⟨rfl, rfl⟩
  | succ k ih =>
    have l := mulTo_lt k a b ha
    refine ⟨by rw [mulTo_fst, mulTo_fst, ih.1], ?_⟩
    rcases Nat.mod_two_eq_zero_or_one (b / 2 ^ k) with g | g
    · rw [mulTo_no k _ _ g, mulTo_no k _ _ g, ih.2]
    · rw [mulTo_yes k _ _ g, mulTo_yes k _ _ g, ih.1, ih.2]; exact (dbl_xor_fin _ l.2 _ l.1).symm
theorem mul_dbl (a b : Nat) (ha : a < 256) (hb : b < 256) : mul a (dbl b) = dbl (mul a b) := by
  rw [mul_comm a (dbl b) ha (dbl_lt b hb), mul_comm a b ha hb]
  exact (mulTo_dbl 8 b a hb).2
theorem mulTo_mul (k a b c : Nat) (ha : a < 256) (hb : b < 256) : mul a (mulTo k b c).1 = (mulTo k (mul a b) c).1 ∧ mul a (mulTo k b c).2 = (mulTo k (mul a b) c).2 := by
  induction k with
  | zero => exact ⟨rfl, mul_zero a⟩
  | succ k ih =>
    have l := mulTo_lt k b c hb
    refine ⟨by rw [mulTo_fst, mulTo_fst, mul_dbl a _ ha l.1, ih.1], ?_⟩
    rcases Nat.mod_two_eq_zero_or_one (c / 2 ^ k) with g | g
    · rw [mulTo_no k _ _ g, mulTo_no k _ _ g, ih.2]
    · rw [mulTo_yes k _ _ g, mulTo_yes k _ _ g, mul_xor, ih.1, ih.2]
/-- In any brackets. -/
theorem mul_assoc (a b c : Nat) (ha : a < 256) (hb : b < 256) : mul a (mul b c) = mul (mul a b) c := (mulTo_mul 8 a b c ha hb).2
theorem mul_inv_fin : ∀ a, a < 256 → a = 0 ∨ mul a (inv a) = 1 := by decide +kernel
theorem mul_inv (a : Nat) (h0 : 0 < a) (ha : a < 256) : mul a (inv a) = 1 := by
  rcases mul_inv_fin a ha with h | h
  · omega
  · exact h
end Go.Proofs.Ytbhlgcenfanicaa.Gf
