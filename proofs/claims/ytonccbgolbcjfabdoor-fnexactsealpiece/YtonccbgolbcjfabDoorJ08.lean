/-
  Plain mathematics: products of bytes are the same in any order, parted over sums, and what is not nought has an inverse; for all bytes.
-/
import Derived.Test.YtonccbgolbcjfabDoorGf
import Derived.Test.YtonccbgolbcjfabDoorJ05
import Derived.OwnWalk
import Derived.Laws.OwnMore
import Derived.Test.YtonccbgolbcjfabDoorJ03
import Derived.Test.YtonccbgolbcjfabDoorJ04
import Derived.Test.YtonccbgolbcjfabDoorPadMath
import Derived.WalkKit
import Derived.WalkMore
import Derived.ScopeJumps
namespace Go.Proofs.YtonccbgolbcjfabDoor.Gf

theorem xor4 (a b c d : Nat) : (a ^^^ b) ^^^ (c ^^^ d) = (a ^^^ c) ^^^ (b ^^^ d) := by
  rw [Nat.xor_assoc, Nat.xor_assoc, ← Nat.xor_assoc b c d, Nat.xor_comm b c, Nat.xor_assoc c b d]
theorem bit27 : ∀ p, p < 2 → ∀ q, q < 2 → (p ^^^ q) * 27 = (p * 27) ^^^ (q * 27) := by decide
theorem xor_double (a b : Nat) : (a ^^^ b) * 2 % 256 = (a * 2 % 256) ^^^ (b * 2 % 256) := by
  have e : ∀ n : Nat, n * 2 = n <<< 1 := fun n => by rw [Nat.shiftLeft_eq]
  rw [e, e, e, Nat.shiftLeft_xor_distrib]
  exact Nat.xor_mod_two_pow (n := 8)
theorem xor_high (a b : Nat) : (a ^^^ b) / 128 = (a / 128) ^^^ (b / 128) := by
  have e : ∀ n : Nat, n / 128 = n >>> 7 := fun n => by rw [Nat.shiftRight_eq_div_pow]
  rw [e, e, e, Nat.shiftRight_xor_distrib]
theorem dbl_xor_fin (a : Nat) (ha : a < 256) (b : Nat) (hb : b < 256) : dbl (a ^^^ b) = dbl a ^^^ dbl b := by
  rw [← dblB_eq_fin _ (xor_lt ha hb), ← dblB_eq_fin _ ha, ← dblB_eq_fin _ hb]
  unfold dblB
  rw [xor_double, xor_high, bit27 _ (by omega) _ (by omega), xor4]
theorem bit_xor (b c k : Nat) : (b ^^^ c) / 2 ^ k % 2 = (b / 2 ^ k % 2 + c / 2 ^ k % 2) % 2 := by
  have e : ∀ n, n / 2 ^ k % 2 = (n.testBit k).toNat := fun n => by
    rw [Nat.testBit_eq_decide_div_mod_eq]
    rcases Nat.mod_two_eq_zero_or_one (n / 2 ^ k) with h | h <;> simp [h]
  rw [e, e, e, Nat.testBit_xor]
  cases b.testBit k <;> cases c.testBit k <;> rfl
theorem mulTo_fst_same (k a b c : Nat) : (mulTo k a b).1 = (mulTo k a c).1 := by
  induction k with
  | zero => rfl
  | succ k ih => rw [mulTo_fst, mulTo_fst, ih]
/-- Parted over sums of the second factor. -/
theorem mulTo_xor (k a b c : Nat) : (mulTo k a (b ^^^ c)).2 = (mulTo k a b).2 ^^^ (mulTo k a c).2 := by
  induction k with
  | zero => simp [mulTo]
  | succ k ih =>
    have hx := bit_xor b c k
    have f1 := mulTo_fst_same k a (b ^^^ c) c
    have f2 := mulTo_fst_same k a b c
    rcases Nat.mod_two_eq_zero_or_one (b / 2 ^ k) with h | h <;> rcases Nat.mod_two_eq_zero_or_one (c / 2 ^ k) with g | g <;> rw [h, g] at hx
    · rw [mulTo_no k a _ hx, mulTo_no k a _ h, mulTo_no k a _ g, ih]
    · rw [mulTo_yes k a _ hx, mulTo_no k a _ h, mulTo_yes k a _ g, ih, f1, Nat.xor_assoc]
    · rw [mulTo_yes k a _ hx, mulTo_yes k a _ h, mulTo_no k a _ g, ih, f1, f2, Nat.xor_assoc, Nat.xor_assoc, Nat.xor_comm (mulTo k a c).2]
    · rw [mulTo_no k a _ hx, mulTo_yes k a _ h, mulTo_yes k a _ g, ih, f2, xor4, Nat.xor_self, Nat.xor_zero]
theorem mul_xor (a b c : Nat) : mul a (b ^^^ c) = mul a b ^^^ mul a c := mulTo_xor 8 a b c
/-- Parted over sums of the first factor. -/
theorem mulTo_xorL (k a b c : Nat) (ha : a < 256) (hb : b < 256) : (mulTo k (a ^^^ b) c).1 = (mulTo k a c).1 ^^^ (mulTo k b c).1 ∧ (mulTo k (a ^^^ b) c).2 = (mulTo k a c).2 ^^^ (mulTo k b c).2 := by
  induction k with
  | zero => simp [mulTo]
  | succ k ih =>
    have l1 := mulTo_lt k a c ha
    have l2 := mulTo_lt k b c hb
    refine ⟨by rw [mulTo_fst, mulTo_fst, mulTo_fst, ih.1]; exact dbl_xor_fin _ l1.1 _ l2.1, ?_⟩
    rcases Nat.mod_two_eq_zero_or_one (c / 2 ^ k) with g | g
    · rw [mulTo_no k _ _ g, mulTo_no k _ _ g, mulTo_no k _ _ g, ih.2]
    · rw [mulTo_yes k _ _ g, mulTo_yes k _ _ g, mulTo_yes k _ _ g, ih.1, ih.2, xor4]
theorem mul_xorL (a b c : Nat) (ha : a < 256) (hb : b < 256) : mul (a ^^^ b) c = mul a c ^^^ mul b c := (mulTo_xorL 8 a b c ha hb).2
/-- A byte is the sum of its bits. -/
def bitOf (x k : Nat) : Nat := if x / 2 ^ k % 2 = 1 then 2 ^ k else 0
def sumBits (x : Nat) : Nat := ((((((bitOf x 0 ^^^ bitOf x 1) ^^^ bitOf x 2) ^^^ bitOf x 3) ^^^ bitOf x 4) ^^^ bitOf x 5) ^^^ bitOf x 6) ^^^ bitOf x 7
theorem sumBits_eq : ∀ x, x < 256 → sumBits x = x := by decide +kernel
theorem bitOf_lt (x k : Nat) (h : k < 8) : bitOf x k < 256 := by
  unfold bitOf
  split
  · exact Nat.pow_lt_pow_right (by omega) (show k < 8 from h)
  · omega
/-- Two functions that go over sums are the same on bytes if they are on single bits and at nought. -/
theorem lin_ext (f g : Nat → Nat) (hf : ∀ x y, x < 256 → y < 256 → f (x ^^^ y) = f x ^^^ f y) (hg : ∀ x y, x < 256 → y < 256 → g (x ^^^ y) = g x ^^^ g y)
    (h0 : f 0 = g 0) (h : ∀ k, k < 8 → f (2 ^ k) = g (2 ^ k)) (x : Nat) (hx : x < 256) : f x = g x := by
  have hb : ∀ k, k < 8 → f (bitOf x k) = g (bitOf x k) := fun k hk => by
    unfold bitOf; split
    · exact h k hk
    · exact h0
  have l := fun k (hk : k < 8) => bitOf_lt x k hk
  have p0 := l 0 (by omega); have p1 := l 1 (by omega); have p2 := l 2 (by omega); have p3 := l 3 (by omega)
  have p4 := l 4 (by omega); have p5 := l 5 (by omega); have p6 := l 6 (by omega); have p7 := l 7 (by omega)
  have q1 := xor_lt p0 p1; have q2 := xor_lt q1 p2; have q3 := xor_lt q2 p3; have q4 := xor_lt q3 p4; have q5 := xor_lt q4 p5; have q6 := xor_lt q5 p6
  rw [← sumBits_eq x hx]
  unfold sumBits
  rw [hf _ _ q6 p7, hf _ _ q5 p6, hf _ _ q4 p5, hf _ _ q3 p4, hf _ _ q2 p3, hf _ _ q1 p2, hf _ _ p0 p1]
  rw [hg _ _ q6 p7, hg _ _ q5 p6, hg _ _ q4 p5, hg _ _ q3 p4, hg _ _ q2 p3, hg _ _ q1 p2, hg _ _ p0 p1]
  rw [hb 0 (by omega), hb 1 (by omega), hb 2 (by omega), hb 3 (by omega), hb 4 (by omega), hb 5 (by omega), hb 6 (by omega), hb 7 (by omega)]
theorem pow_lt8 (k : Nat) (h : k < 8) : 2 ^ k < 256 := Nat.pow_lt_pow_right (by omega) (show k < 8 from h)
theorem comm_bits : ∀ j, j < 8 → ∀ k, k < 8 → mul (2 ^ j) (2 ^ k) = mul (2 ^ k) (2 ^ j) := by decide +kernel
theorem mul_zero (a : Nat) : mul a 0 = 0 := by
  have := mul_of_rest 0 a 0 (by omega) (by simp)
  rw [← this]; rfl
theorem zero_mul_fin : ∀ k, k < 8 → mul 0 (2 ^ k) = 0 := by decide +kernel
theorem zero_mul (b : Nat) (hb : b < 256) : mul 0 b = 0 :=
  lin_ext (fun b => mul 0 b) (fun _ => 0) (fun x y _ _ => mul_xor 0 x y) (fun _ _ _ _ => rfl) (mul_zero 0) (fun k hk => zero_mul_fin k hk) b hb
/-- In any order. -/
theorem mul_comm (a b : Nat) (ha : a < 256) (hb : b < 256) : mul a b = mul b a := by
  refine lin_ext (fun a => mul a b) (fun a => mul b a) (fun x y hx hy => mul_xorL x y b hx hy) (fun x y _ _ => mul_xor b x y) ?_ (fun j hj => ?_) a ha
  · show mul 0 b = mul b 0
    rw [zero_mul b hb, mul_zero]
  · show mul (2 ^ j) b = mul b (2 ^ j)
    refine lin_ext (fun b => mul (2 ^ j) b) (fun b => mul b (2 ^ j)) (fun x y _ _ => mul_xor _ x y) (fun x y hx hy => mul_xorL x y _ hx hy) ?_ (fun k hk => comm_bits j hj k hk) b hb
    show mul (2 ^ j) 0 = mul 0 (2 ^ j)
    rw [zero_mul _ (pow_lt8 j hj), mul_zero]
/-- A doubled factor doubles the product. -/
theorem mulTo_dbl (k a b : Nat) (ha : a < 256) : (mulTo k (dbl a) b).1 = dbl (mulTo k a b).1 ∧ (mulTo k (dbl a) b).2 = dbl (mulTo k a b).2 := by
  induction k with
  | zero => exact ⟨rfl, rfl⟩
  | succ k ih =>
    have l := mulTo_lt k a b ha
    refine ⟨by rw [mulTo_fst, mulTo_fst, ih.1], ?_⟩
    rcases Nat.mod_two_eq_zero_or_one (b / 2 ^ k) with g | g
    · rw [mulTo_no k _ _ g, mulTo_no k _ _ g, ih.2]
    · rw [mulTo_yes k _ _ g, mulTo_yes k _ _ g, ih.1, ih.2]; exact (dbl_xor_fin _ l.2 _ l.1).symm
theorem mul_dbl (a b : Nat) (ha : a < 256) (hb : b < 256) : mul a (dbl b) = dbl (mul a b) := by
  rw [mul_comm a (dbl b) ha (dbl_lt b hb), mul_comm a b ha hb]
  exact (mulTo_dbl 8 b a hb).2
theorem mulTo_mul (k a b c : Nat) (ha : a < 256) (hb : b < 256) : mul a (mulTo k b c).1 = (mulTo k (mul a b) c).1 ∧ mul a (mulTo k b c).2 = (mulTo k (mul a b) c).2 := by
  induction k with
  | zero => exact ⟨rfl, mul_zero a⟩
  | succ k ih =>
    have l := mulTo_lt k b c hb
    refine ⟨by rw [mulTo_fst, mulTo_fst, mul_dbl a _ ha l.1, ih.1], ?_⟩
    rcases Nat.mod_two_eq_zero_or_one (c / 2 ^ k) with g | g
    · rw [mulTo_no k _ _ g, mulTo_no k _ _ g, ih.2]
    · rw [mulTo_yes k _ _ g, mulTo_yes k _ _ g, mul_xor, ih.1, ih.2]
/-- In any brackets. -/
theorem mul_assoc (a b c : Nat) (ha : a < 256) (hb : b < 256) : mul a (mul b c) = mul (mul a b) c := (mulTo_mul 8 a b c ha hb).2
theorem mul_inv_fin : ∀ a, a < 256 → a = 0 ∨ mul a (inv a) = 1 := by decide +kernel
theorem mul_inv (a : Nat) (h0 : 0 < a) (ha : a < 256) : mul a (inv a) = 1 := by
  rcases mul_inv_fin a ha with h | h
  · omega
  · exact h
end Go.Proofs.YtonccbgolbcjfabDoor.Gf

/-
  Plain mathematics: mixing a column goes over sums, four times it is nothing, and three times it is the product with 14, 11, 13 and 9; for all bytes.
-/
namespace Go.Proofs.YtonccbgolbcjfabDoor.Gf
def mixc (a b c d x y : Nat) : Nat := (((((a ^^^ b) ^^^ c) ^^^ d)) ^^^ x) ^^^ dbl (x ^^^ y)
theorem xor_shuffle (a b c d x a' b' c' d' x' p q : Nat) :
    (((((a ^^^ a') ^^^ (b ^^^ b')) ^^^ (c ^^^ c')) ^^^ (d ^^^ d')) ^^^ (x ^^^ x')) ^^^ (p ^^^ q) = ((((((a ^^^ b) ^^^ c) ^^^ d)) ^^^ x) ^^^ p) ^^^ ((((((a' ^^^ b') ^^^ c') ^^^ d')) ^^^ x') ^^^ q) := by
  rw [xor4 a a' b b', xor4 (a ^^^ b) (a' ^^^ b') c c', xor4 ((a ^^^ b) ^^^ c) ((a' ^^^ b') ^^^ c') d d', xor4 _ _ x x', xor4 _ _ p q]
theorem mixc_xor (a b c d x y a' b' c' d' x' y' : Nat) (hx : x < 256) (hy : y < 256) (hx' : x' < 256) (hy' : y' < 256) :
    mixc (a ^^^ a') (b ^^^ b') (c ^^^ c') (d ^^^ d') (x ^^^ x') (y ^^^ y') = mixc a b c d x y ^^^ mixc a' b' c' d' x' y' := by
  unfold mixc
  rw [xor4 x x' y y', dbl_xor_fin _ (xor_lt hx hy) _ (xor_lt hx' hy')]
  exact xor_shuffle _ _ _ _ _ _ _ _ _ _ _ _
theorem mixc_lt {a b c d x y : Nat} (ha : a < 256) (hb : b < 256) (hc : c < 256) (hd : d < 256) (hx : x < 256) (hy : y < 256) : mixc a b c d x y < 256 :=
  xor_lt (xor_lt (xor_lt (xor_lt (xor_lt ha hb) hc) hd) hx) (dbl_lt _ (xor_lt hx hy))
/-- A column. -/
structure Col where
  a : Nat
  b : Nat
  c : Nat
  d : Nat
deriving DecidableEq
def Col.ok (v : Col) : Prop := v.a < 256 ∧ v.b < 256 ∧ v.c < 256 ∧ v.d < 256
def Col.add (u v : Col) : Col := ⟨u.a ^^^ v.a, u.b ^^^ v.b, u.c ^^^ v.c, u.d ^^^ v.d⟩
def Col.mix (v : Col) : Col := ⟨mixc v.a v.b v.c v.d v.a v.b, mixc v.a v.b v.c v.d v.b v.c, mixc v.a v.b v.c v.d v.c v.d, mixc v.a v.b v.c v.d v.d v.a⟩
theorem Col.add_ok {u v : Col} (hu : u.ok) (hv : v.ok) : (u.add v).ok := ⟨xor_lt hu.1 hv.1, xor_lt hu.2.1 hv.2.1, xor_lt hu.2.2.1 hv.2.2.1, xor_lt hu.2.2.2 hv.2.2.2⟩
theorem Col.mix_ok {v : Col} (h : v.ok) : v.mix.ok :=
  ⟨mixc_lt h.1 h.2.1 h.2.2.1 h.2.2.2 h.1 h.2.1, mixc_lt h.1 h.2.1 h.2.2.1 h.2.2.2 h.2.1 h.2.2.1, mixc_lt h.1 h.2.1 h.2.2.1 h.2.2.2 h.2.2.1 h.2.2.2, mixc_lt h.1 h.2.1 h.2.2.1 h.2.2.2 h.2.2.2 h.1⟩
theorem Col.mix_add {u v : Col} (hu : u.ok) (hv : v.ok) : (u.add v).mix = u.mix.add v.mix := by
  obtain ⟨a, b, c, d⟩ := u
  obtain ⟨a', b', c', d'⟩ := v
  obtain ⟨h1, h2, h3, h4⟩ := hu
  obtain ⟨k1, k2, k3, k4⟩ := hv
  simp only [Col.mix, Col.add, Col.mk.injEq]
  exact ⟨mixc_xor _ _ _ _ _ _ _ _ _ _ _ _ h1 h2 k1 k2, mixc_xor _ _ _ _ _ _ _ _ _ _ _ _ h2 h3 k2 k3, mixc_xor _ _ _ _ _ _ _ _ _ _ _ _ h3 h4 k3 k4, mixc_xor _ _ _ _ _ _ _ _ _ _ _ _ h4 h1 k4 k1⟩
/-- A column is the sum of its four parts. -/
theorem Col.parts (v : Col) : v = (((⟨v.a, 0, 0, 0⟩ : Col).add ⟨0, v.b, 0, 0⟩).add ⟨0, 0, v.c, 0⟩).add ⟨0, 0, 0, v.d⟩ := by
  obtain ⟨a, b, c, d⟩ := v
  simp [Col.add]
/-- Two maps of columns that go over sums are the same if they are on columns with one byte. -/
theorem Col.ext (f g : Col → Col) (hf : ∀ u v, u.ok → v.ok → f (u.add v) = (f u).add (f v)) (hg : ∀ u v, u.ok → v.ok → g (u.add v) = (g u).add (g v))
    (h1 : ∀ x, x < 256 → f ⟨x, 0, 0, 0⟩ = g ⟨x, 0, 0, 0⟩) (h2 : ∀ x, x < 256 → f ⟨0, x, 0, 0⟩ = g ⟨0, x, 0, 0⟩) (h3 : ∀ x, x < 256 → f ⟨0, 0, x, 0⟩ = g ⟨0, 0, x, 0⟩) (h4 : ∀ x, x < 256 → f ⟨0, 0, 0, x⟩ = g ⟨0, 0, 0, x⟩)
    (v : Col) (hv : v.ok) : f v = g v := by
  obtain ⟨ha, hb, hc, hd⟩ := hv
  have o1 : (⟨v.a, 0, 0, 0⟩ : Col).ok := ⟨ha, by show 0 < 256; omega, by show 0 < 256; omega, by show 0 < 256; omega⟩
  have o2 : (⟨0, v.b, 0, 0⟩ : Col).ok := ⟨by show 0 < 256; omega, hb, by show 0 < 256; omega, by show 0 < 256; omega⟩
  have o3 : (⟨0, 0, v.c, 0⟩ : Col).ok := ⟨by show 0 < 256; omega, by show 0 < 256; omega, hc, by show 0 < 256; omega⟩
  have o4 : (⟨0, 0, 0, v.d⟩ : Col).ok := ⟨by show 0 < 256; omega, by show 0 < 256; omega, by show 0 < 256; omega, hd⟩
  rw [v.parts, hf _ _ (Col.add_ok (Col.add_ok o1 o2) o3) o4, hf _ _ (Col.add_ok o1 o2) o3, hf _ _ o1 o2, hg _ _ (Col.add_ok (Col.add_ok o1 o2) o3) o4, hg _ _ (Col.add_ok o1 o2) o3, hg _ _ o1 o2, h1 _ ha, h2 _ hb, h3 _ hc, h4 _ hd]
theorem mix2_add (u v : Col) (hu : u.ok) (hv : v.ok) : (u.add v).mix.mix = u.mix.mix.add v.mix.mix := by rw [Col.mix_add hu hv, Col.mix_add (Col.mix_ok hu) (Col.mix_ok hv)]
theorem mix3_add (u v : Col) (hu : u.ok) (hv : v.ok) : (u.add v).mix.mix.mix = u.mix.mix.mix.add v.mix.mix.mix := by rw [mix2_add u v hu hv, Col.mix_add (Col.mix_ok (Col.mix_ok hu)) (Col.mix_ok (Col.mix_ok hv))]
theorem mix4_add (u v : Col) (hu : u.ok) (hv : v.ok) : (u.add v).mix.mix.mix.mix = u.mix.mix.mix.mix.add v.mix.mix.mix.mix := by rw [mix3_add u v hu hv, Col.mix_add (Col.mix_ok (Col.mix_ok (Col.mix_ok hu))) (Col.mix_ok (Col.mix_ok (Col.mix_ok hv)))]
theorem mix4_1 : ∀ x, x < 256 → (⟨x, 0, 0, 0⟩ : Col).mix.mix.mix.mix = ⟨x, 0, 0, 0⟩ := by decide +kernel
theorem mix4_2 : ∀ x, x < 256 → (⟨0, x, 0, 0⟩ : Col).mix.mix.mix.mix = ⟨0, x, 0, 0⟩ := by decide +kernel
theorem mix4_3 : ∀ x, x < 256 → (⟨0, 0, x, 0⟩ : Col).mix.mix.mix.mix = ⟨0, 0, x, 0⟩ := by decide +kernel
theorem mix4_4 : ∀ x, x < 256 → (⟨0, 0, 0, x⟩ : Col).mix.mix.mix.mix = ⟨0, 0, 0, x⟩ := by decide +kernel
/-- Four times it is nothing. -/
theorem mix4 (v : Col) (hv : v.ok) : v.mix.mix.mix.mix = v :=
  Col.ext (fun v => v.mix.mix.mix.mix) (fun v => v) mix4_add (fun _ _ _ _ => rfl) mix4_1 mix4_2 mix4_3 mix4_4 v hv
end Go.Proofs.YtonccbgolbcjfabDoor.Gf

/-
  Contracts of the mixing of a column in the model (l01Mix, MixColumn).
-/
namespace Go.Proofs.YtonccbgolbcjfabDoor
open Go.ChangeShapes Go.WideShapes Go.ChangeAt Go.RowKit
namespace Gf
/-- A column times a row of factors that is turned by i: after q of them, and whole. -/
def mpart (X F : Nat → Nat) (i : Nat) : Nat → Nat
  | 0 => 0
  | q + 1 => mpart X F i q ^^^ mul (X q) (F ((q + 4 - i) % 4))
def mrow (X F : Nat → Nat) (i : Nat) : Nat := mpart X F i 4
theorem mpart_lt (X F : Nat → Nat) (i q : Nat) (lX : ∀ i, i < 4 → X i < 256) (hq : q ≤ 4) : mpart X F i q < 256 := by
  induction q with
  | zero => simp [mpart]
  | succ q ih => exact xor_lt (ih (by omega)) (mul_lt _ _ (lX q (by omega)))
end Gf
theorem Ints.drewN {w : World} {a : Option Addr} {n : Nat} {f : Nat → Int} (h : Ints w a n f) (q : Nat) : Ints (w.drewN q) a n f := fun i hi => by
  obtain ⟨b, off, ha, hc⟩ := h i hi
  exact ⟨b, off, ha, by rw [World.cell?_drewN]; exact hc⟩
theorem ownsRow_drewN {w : World} {base : Nat} {e : TypeId} {size : Nat} {v : Value} {n : Nat} {xs : List Value} (h : w.ownsRow base e size v n xs) (q : Nat) : (w.drewN q).ownsRow base e size v n xs := h
/-- A slice of ints that is owned, as one that is read. -/
theorem ints_of_owned {w : World} {base : Nat} {v : Value} {n : Nat} {g : Nat → Int} (h : w.ownsRow base 3 1 v n ((List.range n).map fun j => Value.int .i64 (g j))) :
    ∃ p c, v = .slice p n c ∧ Ints w p n g := by
  obtain ⟨hl, ⟨rfl, rfl⟩ | ⟨gb, cap, cur, rfl, hb, hh, hn, hm, hs, ht⟩⟩ := h
  · exact ⟨none, 0, rfl, fun i hi => absurd hi (by omega)⟩
  · refine ⟨_, cap, rfl, fun i hi => ⟨gb, 0, rfl, ?_⟩⟩
    have h1 : (cur.toList.take (n * 1))[i]? = some (Value.int .i64 (g i)) := by rw [ht]; simp [hi]
    rw [List.getElem?_take, if_pos (by omega)] at h1
    simp only [World.cell?, hh, Nat.zero_add]
    simpa using h1
/-- What 'append' of one element reads: the element in a new block of its own. -/
theorem one_new (w : World) (v : Value) (t : TypeId) : ∀ j u, [v][j]? = some u → (w.alloc (.cells #[v] t)).cell? ((⟨w.heap.size, 0, none⟩ : Addr).add j) = some u := fun j u hj => by
  match j, hj with
  | 0, hj =>
    have e : v = u := by simpa using hj
    subst e
    simp [Addr.add]
theorem one_one (v : Value) (h : v.oneCell' = true) : ∀ u ∈ [v], u.oneCell' = true := fun u hu => by
  rw [List.mem_singleton] at hu; rw [hu]; exact h
namespace Gf
def mixF : Nat → Nat
  | 0 => 2
  | 1 => 3
  | _ => 1
theorem mul_by : ∀ x, x < 256 → mul x 2 = dbl x ∧ mul x 3 = dbl x ^^^ x ∧ mul x 1 = x := by decide +kernel
theorem sum_eq (a b c d p q : Nat) : (((0 ^^^ p) ^^^ (q ^^^ b)) ^^^ c) ^^^ d = ((((a ^^^ b) ^^^ c) ^^^ d) ^^^ a) ^^^ (p ^^^ q) := by
  apply Nat.eq_of_testBit_eq
  intro i
  simp only [Nat.testBit_xor, Nat.zero_testBit]
  generalize a.testBit i = a, b.testBit i = b, c.testBit i = c, d.testBit i = d, p.testBit i = p, q.testBit i = q
  revert a b c d p q
  decide
theorem sum_eq1 (a b c d p q : Nat) : (((0 ^^^ a) ^^^ p) ^^^ (q ^^^ c)) ^^^ d = ((((a ^^^ b) ^^^ c) ^^^ d) ^^^ b) ^^^ (p ^^^ q) := by
  apply Nat.eq_of_testBit_eq
  intro i
  simp only [Nat.testBit_xor, Nat.zero_testBit]
  generalize a.testBit i = a, b.testBit i = b, c.testBit i = c, d.testBit i = d, p.testBit i = p, q.testBit i = q
  revert a b c d p q
  decide
theorem sum_eq2 (a b c d p q : Nat) : (((0 ^^^ a) ^^^ b) ^^^ p) ^^^ (q ^^^ d) = ((((a ^^^ b) ^^^ c) ^^^ d) ^^^ c) ^^^ (p ^^^ q) := by
  apply Nat.eq_of_testBit_eq
  intro i
  simp only [Nat.testBit_xor, Nat.zero_testBit]
  generalize a.testBit i = a, b.testBit i = b, c.testBit i = c, d.testBit i = d, p.testBit i = p, q.testBit i = q
  revert a b c d p q
  decide
theorem sum_eq3 (a b c d p q : Nat) : (((0 ^^^ (q ^^^ a)) ^^^ b) ^^^ c) ^^^ p = ((((a ^^^ b) ^^^ c) ^^^ d) ^^^ d) ^^^ (p ^^^ q) := by
  apply Nat.eq_of_testBit_eq
  intro i
  simp only [Nat.testBit_xor, Nat.zero_testBit]
  generalize a.testBit i = a, b.testBit i = b, c.testBit i = c, d.testBit i = d, p.testBit i = p, q.testBit i = q
  revert a b c d p q
  decide
theorem mrow_mix (X : Nat → Nat) (l : ∀ i, i < 4 → X i < 256) :
    mrow X mixF 0 = mx (X 0) (X 1) (X 2) (X 3) (X 0) (X 1) ∧ mrow X mixF 1 = mx (X 0) (X 1) (X 2) (X 3) (X 1) (X 2) ∧ mrow X mixF 2 = mx (X 0) (X 1) (X 2) (X 3) (X 2) (X 3) ∧ mrow X mixF 3 = mx (X 0) (X 1) (X 2) (X 3) (X 3) (X 0) := by
  have l0 := l 0 (by omega); have l1 := l 1 (by omega); have l2 := l 2 (by omega); have l3 := l 3 (by omega)
  have m0 := mul_by _ l0; have m1 := mul_by _ l1; have m2 := mul_by _ l2; have m3 := mul_by _ l3
  refine ⟨?_, ?_, ?_, ?_⟩
  · show (((0 ^^^ mul (X 0) 2) ^^^ mul (X 1) 3) ^^^ mul (X 2) 1) ^^^ mul (X 3) 1 = _
    rw [m0.1, m1.2.1, m2.2.2, m3.2.2, mx, dbl_xor_fin _ l0 _ l1]
    exact sum_eq _ _ _ _ _ _
  · show (((0 ^^^ mul (X 0) 1) ^^^ mul (X 1) 2) ^^^ mul (X 2) 3) ^^^ mul (X 3) 1 = _
    rw [m0.2.2, m1.1, m2.2.1, m3.2.2, mx, dbl_xor_fin _ l1 _ l2]
    exact sum_eq1 _ _ _ _ _ _
  · show (((0 ^^^ mul (X 0) 1) ^^^ mul (X 1) 1) ^^^ mul (X 2) 2) ^^^ mul (X 3) 3 = _
    rw [m0.2.2, m1.2.2, m2.1, m3.2.1, mx, dbl_xor_fin _ l2 _ l3]
    exact sum_eq2 _ _ _ _ _ _
  · show (((0 ^^^ mul (X 0) 3) ^^^ mul (X 1) 1) ^^^ mul (X 2) 1) ^^^ mul (X 3) 2 = _
    rw [m0.2.1, m1.2.2, m2.2.2, m3.1, mx, dbl_xor_fin _ l3 _ l0]
    exact sum_eq3 _ _ _ _ _ _
end Gf
end Go.Proofs.YtonccbgolbcjfabDoor

/-
  Plain mathematics of blocks decrypted: substituting and turning back, mixing back; a block decrypted.
-/
namespace Go.Proofs.YtonccbgolbcjfabDoor
namespace Gf
/-- Where byte j comes from where rows are turned right. -/
def iord (j : Nat) : Nat := (j + 12 * (j % 4)) % 16
theorem iord_lt (j : Nat) : iord j < 16 := Nat.mod_lt _ (by omega)
theorem iord_ord (j : Nat) (h : j < 16) : iord (ord j) = j := by unfold iord ord; omega
theorem ord_iord (j : Nat) (h : j < 16) : ord (iord j) = j := by unfold iord ord; omega
def unTurn (s : Nat → Nat) (j : Nat) : Nat := unsub (s (iord j))
theorem unTurn_lt {s : Nat → Nat} (hs : ∀ j, j < 16 → s j < 256) (j : Nat) : unTurn s j < 256 := unsub_lt _ (hs _ (iord_lt j))
def mix3 (s : Nat → Nat) : Nat → Nat := mixS (mixS (mixS s))
theorem mix3_lt {s : Nat → Nat} (hs : ∀ j, j < 16 → s j < 256) (j : Nat) (hj : j < 16) : mix3 s j < 256 := mixS_lt (mixS_lt (mixS_lt hs)) j hj
/-- After i rounds back, of R. -/
def decTo (K : Nat → Nat) (R : Nat) (s : Nat → Nat) : Nat → Nat → Nat
  | 0 => unTurn (addK s (keyAt K R))
  | i + 1 => unTurn (mix3 (addK (decTo K R s i) (keyAt K (R - 1 - i))))
def dec (K : Nat → Nat) (R : Nat) (s : Nat → Nat) : Nat → Nat := addK (decTo K R s (R - 1)) (keyAt K 0)
theorem decTo_lt {K s : Nat → Nat} {R : Nat} (hK : ∀ j, K j < 256) (hs : ∀ j, j < 16 → s j < 256) : ∀ i j, j < 16 → decTo K R s i j < 256 := by
  intro i
  induction i with
  | zero => intro j _; exact unTurn_lt (s := addK s (keyAt K R)) (fun j hj => addK_lt (k := keyAt K R) (hs j hj) (hK _)) j
  | succ i ih => intro j _; exact unTurn_lt (s := mix3 (addK (decTo K R s i) (keyAt K (R - 1 - i)))) (mix3_lt (fun j hj => addK_lt (k := keyAt K (R - 1 - i)) (ih j hj) (hK _))) j
theorem dec_lt {K s : Nat → Nat} {R : Nat} (hK : ∀ j, K j < 256) (hs : ∀ j, j < 16 → s j < 256) (j : Nat) (hj : j < 16) : dec K R s j < 256 := addK_lt (decTo_lt hK hs _ j hj) (hK _)
/-- The factors of mixing back. -/
def backF : Nat → Nat
  | 0 => 14
  | 1 => 11
  | 2 => 13
  | _ => 9
def Col.back (v : Col) : Col := ⟨(((mul v.a 14 ^^^ mul v.b 11) ^^^ mul v.c 13) ^^^ mul v.d 9), (((mul v.a 9 ^^^ mul v.b 14) ^^^ mul v.c 11) ^^^ mul v.d 13), (((mul v.a 13 ^^^ mul v.b 9) ^^^ mul v.c 14) ^^^ mul v.d 11), (((mul v.a 11 ^^^ mul v.b 13) ^^^ mul v.c 9) ^^^ mul v.d 14)⟩
theorem back_add (u v : Col) (hu : u.ok) (hv : v.ok) : (u.add v).back = u.back.add v.back := by
  obtain ⟨a, b, c, d⟩ := u
  obtain ⟨a', b', c', d'⟩ := v
  obtain ⟨h1, h2, h3, h4⟩ := hu
  obtain ⟨k1, k2, k3, k4⟩ := hv
  simp only at h1 h2 h3 h4 k1 k2 k3 k4
  simp only [Col.back, Col.add, mul_xorL _ _ _ h1 k1, mul_xorL _ _ _ h2 k2, mul_xorL _ _ _ h3 k3, mul_xorL _ _ _ h4 k4, Col.mk.injEq]
  refine ⟨?_, ?_, ?_, ?_⟩ <;> rw [xor4 (mul a _) (mul a' _), xor4 (mul a _ ^^^ mul b _) (mul a' _ ^^^ mul b' _), xor4 _ _ (mul d _) (mul d' _)]
theorem back_1 : ∀ x, x < 256 → (⟨x, 0, 0, 0⟩ : Col).mix.mix.mix = (⟨x, 0, 0, 0⟩ : Col).back := by decide +kernel
theorem back_2 : ∀ x, x < 256 → (⟨0, x, 0, 0⟩ : Col).mix.mix.mix = (⟨0, x, 0, 0⟩ : Col).back := by decide +kernel
theorem back_3 : ∀ x, x < 256 → (⟨0, 0, x, 0⟩ : Col).mix.mix.mix = (⟨0, 0, x, 0⟩ : Col).back := by decide +kernel
theorem back_4 : ∀ x, x < 256 → (⟨0, 0, 0, x⟩ : Col).mix.mix.mix = (⟨0, 0, 0, x⟩ : Col).back := by decide +kernel
/-- Mixing three times is the product with 14, 11, 13 and 9. -/
theorem mix3_back (v : Col) (hv : v.ok) : v.mix.mix.mix = v.back :=
  Col.ext (fun v => v.mix.mix.mix) Col.back mix3_add back_add back_1 back_2 back_3 back_4 v hv
/-- The column of a state from o on. -/
def colAt (s : Nat → Nat) (o : Nat) : Col := ⟨s o, s (o + 1), s (o + 2), s (o + 3)⟩
theorem colAt_mix (s : Nat → Nat) (c : Nat) : colAt (mixS s) (4 * c) = (colAt s (4 * c)).mix := by
  have e : ∀ r, r < 4 → mixS s (4 * c + r) = mixAt s (4 * c) r := fun r hr => by
    rw [mixS, show (4 * c + r) / 4 * 4 = 4 * c from by omega, show (4 * c + r) % 4 = r from by omega]
  have e0 := e 0 (by omega)
  rw [Nat.add_zero] at e0
  simp only [colAt, Col.mix, e0, e 1 (by omega), e 2 (by omega), e 3 (by omega)]
  rfl
theorem mrow_back (X : Nat → Nat) (_hX : ∀ k, k < 4 → X k < 256) : mrow X backF 0 = (colAt X 0).back.a ∧ mrow X backF 1 = (colAt X 0).back.b ∧ mrow X backF 2 = (colAt X 0).back.c ∧ mrow X backF 3 = (colAt X 0).back.d := by
  refine ⟨?_, ?_, ?_, ?_⟩ <;> simp [mrow, mpart, backF, Col.back, colAt]
/-- The numbers of a column times the factors of mixing back are the column mixed three times. -/
theorem mix3_row (s : Nat → Nat) (hs : ∀ j, j < 16 → s j < 256) (c r : Nat) (hc : c < 4) (hr : r < 4) : mrow (fun k => s (4 * c + k)) backF r = mix3 s (4 * c + r) := by
  have ok : (colAt s (4 * c)).ok := ⟨hs _ (by omega), hs _ (by omega), hs _ (by omega), hs _ (by omega)⟩
  have h := mix3_back _ ok
  rw [← colAt_mix, ← colAt_mix, ← colAt_mix] at h
  have m := mrow_back (fun k => s (4 * c + k)) (fun k hk => hs _ (by omega))
  have e : colAt (fun k => s (4 * c + k)) 0 = colAt s (4 * c) := rfl
  rw [e, ← h] at m
  rcases (show r = 0 ∨ r = 1 ∨ r = 2 ∨ r = 3 by omega) with rfl | rfl | rfl | rfl
  · exact m.1
  · exact m.2.1
  · exact m.2.2.1
  · exact m.2.2.2
end Gf
end Go.Proofs.YtonccbgolbcjfabDoor

/-
  Plain mathematics: what is encrypted is decrypted.
-/
namespace Go.Proofs.YtonccbgolbcjfabDoor
namespace Gf
/-- Alike at the sixteen places. -/
def Same (f g : Nat → Nat) : Prop := ∀ j, j < 16 → f j = g j
theorem Same.trans {f g h : Nat → Nat} (a : Same f g) (b : Same g h) : Same f h := fun j hj => (a j hj).trans (b j hj)
theorem same_addK {f g : Nat → Nat} (h : Same f g) (k : Nat → Nat) : Same (addK f k) (addK g k) := fun j hj => by unfold addK; rw [h j hj]
theorem same_unTurn {f g : Nat → Nat} (h : Same f g) : Same (unTurn f) (unTurn g) := fun j _ => by unfold unTurn; rw [h _ (iord_lt j)]
theorem same_mixS {f g : Nat → Nat} (h : Same f g) : Same (mixS f) (mixS g) := fun j hj => by
  have m := Nat.mod_lt (j % 4 + 1) (show 0 < 4 by omega)
  unfold mixS mixAt
  rw [h (j / 4 * 4) (by omega), h (j / 4 * 4 + 1) (by omega), h (j / 4 * 4 + 2) (by omega), h (j / 4 * 4 + 3) (by omega), h (j / 4 * 4 + j % 4) (by omega), h (j / 4 * 4 + (j % 4 + 1) % 4) (by omega)]
theorem same_mix3 {f g : Nat → Nat} (h : Same f g) : Same (mix3 f) (mix3 g) := same_mixS (same_mixS (same_mixS h))
theorem addK_twice (f k : Nat → Nat) : Same (addK (addK f k) k) f := fun j _ => by
  unfold addK
  rw [Nat.xor_assoc, Nat.xor_self, Nat.xor_zero]
theorem unTurn_subTurn {f : Nat → Nat} (hf : ∀ j, j < 16 → f j < 256) : Same (unTurn (subTurn f)) f := fun j hj => by
  show unsub (sub (f (ord (iord j)))) = f j
  rw [ord_iord j hj, unsub_sub _ (hf j hj)]
theorem mix3_mixS {f : Nat → Nat} (hf : ∀ j, j < 16 → f j < 256) : Same (mix3 (mixS f)) f := fun j hj => by
  have ok : (colAt f (4 * (j / 4))).ok := ⟨hf _ (by omega), hf _ (by omega), hf _ (by omega), hf _ (by omega)⟩
  have h := mix4 _ ok
  rw [← colAt_mix, ← colAt_mix, ← colAt_mix, ← colAt_mix] at h
  simp only [colAt, Col.mk.injEq] at h
  obtain ⟨h0, h1, h2, h3⟩ := h
  have e : j = 4 * (j / 4) + j % 4 := by omega
  rcases (show j % 4 = 0 ∨ j % 4 = 1 ∨ j % 4 = 2 ∨ j % 4 = 3 by omega) with m | m | m | m
  · rw [e, m]; exact h0
  · rw [e, m]; exact h1
  · rw [e, m]; exact h2
  · rw [e, m]; exact h3
theorem same_decTo {K f g : Nat → Nat} {R : Nat} (h : Same f g) : ∀ i, Same (decTo K R f i) (decTo K R g i)
  | 0 => same_unTurn (same_addK h _)
  | i + 1 => same_unTurn (same_mix3 (same_addK (same_decTo h i) _))
theorem same_dec {K f g : Nat → Nat} {R : Nat} (h : Same f g) : Same (dec K R f) (dec K R g) := same_addK (same_decTo h _) _
theorem decTo_enc {K s : Nat → Nat} {R : Nat} (hR : 1 ≤ R) (hK : ∀ j, K j < 256) (hs : ∀ j, j < 16 → s j < 256) : ∀ i, i ≤ R - 1 → Same (decTo K R (enc K R s) i) (encTo K s (R - 1 - i)) := by
  intro i
  induction i with
  | zero =>
    intro _
    have a : Same (addK (enc K R s) (keyAt K R)) (subTurn (encTo K s (R - 1))) := addK_twice _ _
    exact (same_unTurn a).trans (unTurn_subTurn (encTo_lt hK hs _))
  | succ i ih =>
    intro hi
    have h := ih (by omega)
    obtain ⟨q, hq⟩ : ∃ q, R - 1 - i = q + 1 := ⟨R - 1 - i - 1, by omega⟩
    have hq' : R - 1 - (i + 1) = q := by omega
    rw [hq] at h
    rw [hq']
    show Same (unTurn (mix3 (addK (decTo K R (enc K R s) i) (keyAt K (R - 1 - i))))) _
    rw [hq]
    have a : Same (addK (decTo K R (enc K R s) i) (keyAt K (q + 1))) (mixS (subTurn (encTo K s q))) := (same_addK h _).trans (addK_twice _ _)
    exact (same_unTurn ((same_mix3 a).trans (mix3_mixS (fun j _ => subTurn_lt (encTo_lt hK hs q) j)))).trans (unTurn_subTurn (encTo_lt hK hs q))
/-- What is encrypted is decrypted. -/
theorem dec_enc {K s : Nat → Nat} {R : Nat} (hR : 1 ≤ R) (hK : ∀ j, K j < 256) (hs : ∀ j, j < 16 → s j < 256) : Same (dec K R (enc K R s)) s := by
  have h := decTo_enc hR hK hs (R - 1) (Nat.le_refl _)
  rw [Nat.sub_self] at h
  exact (same_addK h _).trans (addK_twice _ _)
end Gf
theorem kstr_same {f g : Nat → Nat} (h : Gf.Same f g) : kstr f 0 16 = kstr g 0 16 := kstr_congr (fun i hi => by rw [Nat.zero_add]; exact h i hi)
theorem same_strB {f : Nat → Nat} (hf : ∀ j, j < 16 → f j < 256) : Gf.Same (strB (kstr f 0 16)) f := fun j hj => by
  rw [strB_kstr f 0 16 j (by rw [Nat.zero_add]; exact hf j hj) hj, Nat.zero_add]
/-- A block that is encrypted and decrypted is what it was. -/
theorem dec_enc_text {K : Nat → Nat} {R : Nat} (hR : 1 ≤ R) (hK : ∀ j, K j < 256) (a : ByteArray) (ha : a.size = 16) : kstr (Gf.dec K R (strB (kstr (Gf.enc K R (strB a)) 0 16))) 0 16 = a := by
  have h1 := Gf.same_dec (K := K) (R := R) (same_strB (f := Gf.enc K R (strB a)) (fun j _ => Gf.enc_lt hK (fun j _ => strB_lt a j) j))
  rw [kstr_same (h1.trans (Gf.dec_enc hR hK (fun j _ => strB_lt a j)))]
  have := kstr_self a
  rwa [ha] at this
theorem enc_inj {K : Nat → Nat} {R : Nat} (hR : 1 ≤ R) (hK : ∀ j, K j < 256) (a b : ByteArray) (ha : a.size = 16) (hb : b.size = 16) (h : kstr (Gf.enc K R (strB a)) 0 16 = kstr (Gf.enc K R (strB b)) 0 16) : a = b := by
  rw [← dec_enc_text hR hK a ha, h, dec_enc_text hR hK b hb]
end Go.Proofs.YtonccbgolbcjfabDoor

/-
  Modes of blocks, as plain mathematics.
-/
namespace Go.Proofs.YtonccbgolbcjfabDoor
namespace Gf
theorem same_subTurn {f g : Nat → Nat} (h : Same f g) : Same (subTurn f) (subTurn g) := fun j _ => by unfold subTurn; rw [h _ (ord_lt j)]
theorem same_encTo {K f g : Nat → Nat} (h : Same f g) : ∀ i, Same (encTo K f i) (encTo K g i)
  | 0 => same_addK h _
  | i + 1 => same_addK (same_mixS (same_subTurn (same_encTo h i))) _
theorem same_enc {K f g : Nat → Nat} {R : Nat} (h : Same f g) : Same (enc K R f) (enc K R g) := same_addK (same_subTurn (same_encTo h _)) _
theorem Same.symm {f g : Nat → Nat} (h : Same f g) : Same g f := fun j hj => (h j hj).symm
theorem Same.refl (f : Nat → Nat) : Same f f := fun _ _ => rfl
end Gf
/-- The i-th block behind the chain's first: block 0 is the first itself. -/
def cbcB (K : Nat → Nat) (R : Nat) (iv P : Nat → Nat) : Nat → Nat → Nat
  | 0 => iv
  | i + 1 => Gf.enc K R (fun j => cbcB K R iv P i j ^^^ P (16 * i + j))
theorem cbcB_lt {K iv P : Nat → Nat} {R : Nat} (hK : ∀ j, K j < 256) (hi : ∀ j, iv j < 256) (hP : ∀ j, P j < 256) : ∀ i j, cbcB K R iv P i j < 256
  | 0, j => hi j
  | i + 1, j => Gf.enc_lt hK (fun j _ => Gf.xor_lt (cbcB_lt hK hi hP i j) (hP _)) j
/-- All that is chained. -/
def cbcO (K : Nat → Nat) (R : Nat) (iv P : Nat → Nat) (x : Nat) : Nat := cbcB K R iv P (x / 16 + 1) (x % 16)
/-- The bytes when i blocks have been chained. -/
def cbcTo (K : Nat → Nat) (R : Nat) (iv P : Nat → Nat) (i x : Nat) : Nat := if x < 16 * i then cbcO K R iv P x else P x
theorem cbcO_at (K : Nat → Nat) (R : Nat) (iv P : Nat → Nat) (i j : Nat) (hj : j < 16) : cbcO K R iv P (16 * i + j) = cbcB K R iv P (i + 1) j := by
  unfold cbcO
  rw [show (16 * i + j) / 16 = i from by omega, show (16 * i + j) % 16 = j from by omega]
/-- The block of a nonce and a counter. -/
def ctrBlk (N : Nat → Nat) (k j : Nat) : Nat := if j < 12 then N j else k / 256 ^ (15 - j) % 256
theorem ctrBlk_lt {N : Nat → Nat} (hN : ∀ j, N j < 256) (k j : Nat) : ctrBlk N k j < 256 := by
  unfold ctrBlk
  split
  · exact hN j
  · exact Nat.mod_lt _ (by omega)
/-- What a stream puts on at place x. -/
def ctrK (K : Nat → Nat) (R : Nat) (N : Nat → Nat) (x : Nat) : Nat := Gf.enc K R (ctrBlk N (x / 16 + 1)) (x % 16)
def ctrF (K : Nat → Nat) (R : Nat) (N f : Nat → Nat) (x : Nat) : Nat := f x ^^^ ctrK K R N x
theorem ctrK_lt {K N : Nat → Nat} {R : Nat} (hK : ∀ j, K j < 256) (hN : ∀ j, N j < 256) (x : Nat) : ctrK K R N x < 256 := Gf.enc_lt hK (fun j _ => ctrBlk_lt hN _ j) _
theorem ctrF_lt {K N f : Nat → Nat} {R : Nat} (hK : ∀ j, K j < 256) (hN : ∀ j, N j < 256) (hf : ∀ j, f j < 256) (x : Nat) : ctrF K R N f x < 256 := Gf.xor_lt (hf x) (ctrK_lt hK hN x)
theorem ctrF_twice (K : Nat → Nat) (R : Nat) (N f : Nat → Nat) (x : Nat) : ctrF K R N (ctrF K R N f) x = f x := by
  unfold ctrF
  rw [Nat.xor_assoc, Nat.xor_self, Nat.xor_zero]
/-- Bytes that are unchained, their padding left on. -/
def cbcD (K : Nat → Nat) (R : Nat) (iv c : Nat → Nat) (x : Nat) : Nat := Gf.dec K R (fun j => c (16 * (x / 16) + j)) (x % 16) ^^^ (if x < 16 then iv x else c (x - 16))
theorem cbcD_lt {K iv c : Nat → Nat} {R : Nat} (hK : ∀ j, K j < 256) (hi : ∀ j, iv j < 256) (hc : ∀ j, c j < 256) (x : Nat) : cbcD K R iv c x < 256 := by
  unfold cbcD
  refine Gf.xor_lt (Gf.dec_lt hK (fun j _ => hc _) _ (Nat.mod_lt _ (by omega))) ?_
  split
  · exact hi _
  · exact hc _
/-- What is chained is unchained. -/
theorem cbcD_cbcO {K iv P : Nat → Nat} {R : Nat} (hR : 1 ≤ R) (hK : ∀ j, K j < 256) (hi : ∀ j, iv j < 256) (hP : ∀ j, P j < 256) (x : Nat) : cbcD K R iv (cbcO K R iv P) x = P x := by
  unfold cbcD
  have hm : x % 16 < 16 := Nat.mod_lt _ (by omega)
  have h1 : Gf.Same (fun j => cbcO K R iv P (16 * (x / 16) + j)) (Gf.enc K R (fun j => cbcB K R iv P (x / 16) j ^^^ P (16 * (x / 16) + j))) := fun j hj => cbcO_at K R iv P (x / 16) j hj
  have h2 := (Gf.same_dec (K := K) (R := R) h1) (x % 16) hm
  have h3 := Gf.dec_enc (K := K) (R := R) (s := fun j => cbcB K R iv P (x / 16) j ^^^ P (16 * (x / 16) + j)) hR hK (fun j _ => Gf.xor_lt (cbcB_lt hK hi hP _ j) (hP _)) (x % 16) hm
  rw [h2, h3]
  have e : 16 * (x / 16) + x % 16 = x := by omega
  simp only [e]
  have h4 : (if x < 16 then iv x else cbcO K R iv P (x - 16)) = cbcB K R iv P (x / 16) (x % 16) := by
    by_cases hx : x < 16
    · rw [if_pos hx, show x / 16 = 0 from by omega, show x % 16 = x from by omega]; rfl
    · rw [if_neg hx]
      unfold cbcO
      rw [show (x - 16) / 16 + 1 = x / 16 from by omega, show (x - 16) % 16 = x % 16 from by omega]
  rw [h4, Nat.xor_comm (cbcB K R iv P (x / 16) (x % 16)), Nat.xor_assoc, Nat.xor_self, Nat.xor_zero]
/-- The first blocks do not hang on the later ones. -/
theorem cbcB_congr {K iv P P' : Nat → Nat} {R : Nat} : ∀ i, (∀ x, x < 16 * i → P x = P' x) → Gf.Same (cbcB K R iv P i) (cbcB K R iv P' i)
  | 0, _ => Gf.Same.refl _
  | i + 1, h => Gf.same_enc (fun j hj => by
      have h1 := cbcB_congr (K := K) (iv := iv) (R := R) i (fun x hx => h x (by omega)) j hj
      show cbcB K R iv P i j ^^^ P (16 * i + j) = cbcB K R iv P' i j ^^^ P' (16 * i + j)
      rw [h1, h _ (by omega)])
end Go.Proofs.YtonccbgolbcjfabDoor

/-
  A law of no program: a scope that the run enters from above its one label, and to whose label it jumps back.
-/
namespace Go.Proofs.YtonccbgolbcjfabDoor
theorem wp_scope_label {P : Program} {a : Act} {w : World} {Q : Exit → Act → World → Prop} {c body : Code} (l : Nat) (J : Act → World → Prop) (μ : Act → World → Nat) (hf : findLabel c l = some (Code.skip.seq body))
    (pass : ∀ a w, J a w → body.wp P (Exit.jump l (fun a' w' => J a' w' ∧ μ a' w' < μ a w) Q) a w)
    (first : (∀ a w, J a w → body.wp P (Exit.jump l J Q) a w) → c.wp P (Exit.jump l J Q) a w) : (Code.scope c).wp P Q a w :=
  wp_scope_jumps l J μ hf (first (fun a w h => Code.wp_mono (fun e a' w' hq => by
    cases e with
    | goto l' => exact ⟨hq.1, hq.2.1⟩
    | _ => exact hq) (pass a w h))) (fun a w h => wp_seq (wp_skip (pass a w h)))
theorem jump_ret {l : Nat} {J : Act → World → Prop} {Q : Exit → Act → World → Prop} {a : Act} {w : World} : Exit.jump l J Q .ret a w = Q .ret a w := rfl
/-- A slice's length. -/
def lenOf : Value → Nat | .slice _ n _ => n | _ => 0
end Go.Proofs.YtonccbgolbcjfabDoor
