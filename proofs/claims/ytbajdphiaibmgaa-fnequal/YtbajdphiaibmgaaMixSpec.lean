/-
  Contracts of the mixing of a column in the model (l01Mix, MixColumn).
-/
import Derived.Test.YtbajdphiaibmgaaMix
import Derived.Test.YtbajdphiaibmgaaGfLaws
import Derived.OwnWalk
import Derived.Laws.OwnMore
namespace Go.Proofs.Ytbajdphiaibmgaa
open Go.ChangeShapes Go.WideShapes Go.ChangeAt Go.RowKit
namespace Gf
/-- A column times a row of factors that is turned by i: after q of them, and whole. -/
def mpart (X F : Nat → Nat) (i : Nat) : Nat → Nat
  | 0 => 0
  | q + 1 => mpart X F i q ^^^ mul (X q) (F ((q + 4 - i) % 4))
def mrow (X F : Nat → Nat) (i : Nat) : Nat := mpart X F i 4
theorem mpart_lt (X F : Nat → Nat) (i q : Nat) (lX : ∀ i, i < 4 → X i < 256) (hq : q ≤ 4) : mpart X F i q < 256 := by
  induction q with
  | zero => simp [mpart]
  | succ q ih => exact xor_lt (ih (by omega)) (mul_lt _ _ (lX q (by omega)))
end Gf
theorem Ints.drewN {w : World} {a : Option Addr} {n : Nat} {f : Nat → Int} (h : Ints w a n f) (q : Nat) : Ints (w.drewN q) a n f := fun i hi => by
  obtain ⟨b, off, ha, hc⟩ := h i hi
  exact ⟨b, off, ha, by rw [World.cell?_drewN]; exact hc⟩
theorem ownsRow_drewN {w : World} {base : Nat} {e : TypeId} {size : Nat} {v : Value} {n : Nat} {xs : List Value} (h : w.ownsRow base e size v n xs) (q : Nat) : (w.drewN q).ownsRow base e size v n xs := h
/-- A slice of ints that is owned, as one that is read. -/
theorem ints_of_owned {w : World} {base : Nat} {v : Value} {n : Nat} {g : Nat → Int} (h : w.ownsRow base 3 1 v n ((List.range n).map fun j => Value.int .i64 (g j))) :
    ∃ p c, v = .slice p n c ∧ Ints w p n g := by
  obtain ⟨hl, ⟨rfl, rfl⟩ | ⟨gb, cap, cur, rfl, hb, hh, hn, hm, hs, ht⟩⟩ := h
  · exact ⟨none, 0, rfl, fun i hi => absurd hi (by omega)⟩
  · refine ⟨_, cap, rfl, fun i hi => ⟨gb, 0, rfl, ?_⟩⟩
    have h1 : (cur.toList.take (n * 1))[i]? = some (Value.int .i64 (g i)) := by rw [ht]; simp [hi]
    rw [List.getElem?_take, if_pos (by omega)] at h1
    simp only [World.cell?, hh, Nat.zero_add]
    simpa using h1
/-- What 'append' of one element reads: the element in a new block of its own. -/
theorem one_new (w : World) (v : Value) (t : TypeId) : ∀ j u, [v][j]? = some u → (w.alloc (.cells #[v] t)).cell? ((⟨w.heap.size, 0, none⟩ : Addr).add j) = some u := fun j u hj => by
  match j, hj with
  | 0, hj =>
    have e : v = u := by simpa using hj
    subst e
    simp [Addr.add]
theorem one_one (v : Value) (h : v.oneCell' = true) : ∀ u ∈ [v], u.oneCell' = true := fun u hu => by
  rw [List.mem_singleton] at hu; rw [hu]; exact h
namespace Gf
def mixF : Nat → Nat
  | 0 => 2
  | 1 => 3
  | _ => 1
theorem mul_by : ∀ x, x < 256 → mul x 2 = dbl x ∧ mul x 3 = dbl x ^^^ x ∧ mul x 1 = x := by decide +kernel
theorem sum_eq (a b c d p q : Nat) : (((0 ^^^ p) ^^^ (q ^^^ b)) ^^^ c) ^^^ d = ((((a ^^^ b) ^^^ c) ^^^ d) ^^^ a) ^^^ (p ^^^ q) := by
  apply Nat.eq_of_testBit_eq
  intro i
  simp only [Nat.testBit_xor, Nat.zero_testBit]
  generalize a.testBit i = a, b.testBit i = b, c.testBit i = c, d.testBit i = d, p.testBit i = p, q.testBit i = q
  revert a b c d p q
  decide
theorem sum_eq1 (a b c d p q : Nat) : (((0 ^^^ a) ^^^ p) ^^^ (q ^^^ c)) ^^^ d = ((((a ^^^ b) ^^^ c) ^^^ d) ^^^ b) ^^^ (p ^^^ q) := by
  apply Nat.eq_of_testBit_eq
  intro i
  simp only [Nat.testBit_xor, Nat.zero_testBit]
  generalize a.testBit i = a, b.testBit i = b, c.testBit i = c, d.testBit i = d, p.testBit i = p, q.testBit i = q
  revert a b c d p q
  decide
theorem sum_eq2 (a b c d p q : Nat) : (((0 ^^^ a) ^^^ b) ^^^ p) ^^^ (q ^^^ d) = ((((a ^^^ b) ^^^ c) ^^^ d) ^^^ c) ^^^ (p ^^^ q) := by
  apply Nat.eq_of_testBit_eq
  intro i
  simp only [Nat.testBit_xor, Nat.zero_testBit]
  generalize a.testBit i = a, b.testBit i = b, c.testBit i = c, d.testBit i = d, p.testBit i = p, q.testBit i = q
  revert a b c d p q
  decide
theorem sum_eq3 (a b c d p q : Nat) : (((0 ^^^ (q ^^^ a)) ^^^ b) ^^^ c) ^^^ p = ((((a ^^^ b) ^^^ c) ^^^ d) ^^^ d) ^^^ (p ^^^ q) := by
  apply Nat.eq_of_testBit_eq
  intro i
  simp only [Nat.testBit_xor, Nat.zero_testBit]
  generalize a.testBit i = a, b.testBit i = b, c.testBit i = c, d.testBit i = d, p.testBit i = p, q.testBit i = q
  revert a b c d p q
  decide
theorem mrow_mix (X : Nat → Nat) (l : ∀ i, i < 4 → X i < 256) :
    mrow X mixF 0 = mx (X 0) (X 1) (X 2) (X 3) (X 0) (X 1) ∧ mrow X mixF 1 = mx (X 0) (X 1) (X 2) (X 3) (X 1) (X 2) ∧ mrow X mixF 2 = mx (X 0) (X 1) (X 2) (X 3) (X 2) (X 3) ∧ mrow X mixF 3 = mx (X 0) (X 1) (X 2) (X 3) (X 3) (X 0) := by
  have l0 := l 0 (by omega); have l1 := l 1 (by omega); have l2 := l 2 (by omega); have l3 := l 3 (by omega)
  have m0 := mul_by _ l0; have m1 := mul_by _ l1; have m2 := mul_by _ l2; have m3 := mul_by _ l3
  refine ⟨?_, ?_, ?_, ?_⟩
  · show (((0 ^^^ mul (X 0) 2) ^^^ mul (X 1) 3) ^^^ mul (X 2) 1) ^^^ mul (X 3) 1 = _
    rw [m0.1, m1.2.1, m2.2.2, m3.2.2, mx, dbl_xor_fin _ l0 _ l1]
    exact sum_eq _ _ _ _ _ _
  · show (((0 ^^^ mul (X 0) 1) ^^^ mul (X 1) 2) ^^^ mul (X 2) 3) ^^^ mul (X 3) 1 = _
    rw [m0.2.2, m1.1, m2.2.1, m3.2.2, mx, dbl_xor_fin _ l1 _ l2]
    exact sum_eq1 _ _ _ _ _ _
  · show (((0 ^^^ mul (X 0) 1) ^^^ mul (X 1) 1) ^^^ mul (X 2) 2) ^^^ mul (X 3) 3 = _
    rw [m0.2.2, m1.2.2, m2.1, m3.2.1, mx, dbl_xor_fin _ l2 _ l3]
    exact sum_eq2 _ _ _ _ _ _
  · show (((0 ^^^ mul (X 0) 3) ^^^ mul (X 1) 1) ^^^ mul (X 2) 1) ^^^ mul (X 3) 2 = _
    rw [m0.2.1, m1.2.2, m2.2.2, m3.1, mx, dbl_xor_fin _ l3 _ l0]
    exact sum_eq3 _ _ _ _ _ _
end Gf
end Go.Proofs.Ytbajdphiaibmgaa
