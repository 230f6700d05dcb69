/-
  BlockSum of the program and of the model, and its exact law (written by tools/mkblk.py).
-/
import Derived.Test.YtpljdlgjeeikkacDoorTreeS
namespace Go.Proofs.YtpljdlgjeeikkacDoor
open Go.ChangeShapes Go.WideShapes Go.ChangeAt Go.RowKit
set_option linter.unusedVariables false
/-- What BlockSum answers. -/
def BsA (p v : Int) (s r : ByteArray) (cd : Int) : Prop :=
  (65536 < s.size ∧ r = ⟨#[]⟩ ∧ cd = 2) ∨ (s.size ≤ 65536 ∧ ¬ ((0 ≤ p ∧ p ≤ 31) ∧ (0 ≤ v ∧ v ≤ 4294967295)) ∧ r = ⟨#[]⟩ ∧ cd = 4) ∨ (s.size ≤ 65536 ∧ ((0 ≤ p ∧ p ≤ 31) ∧ (0 ≤ v ∧ v ≤ 4294967295)) ∧ 200 < s.size ∧ r = ⟨#[]⟩ ∧ cd = 1) ∨ (s.size ≤ 200 ∧ ((0 ≤ p ∧ p ≤ 31) ∧ (0 ≤ v ∧ v ≤ 4294967295)) ∧ r = bsumT p.toNat v.toNat s ∧ cd = 0)
theorem bsA_ex (p v : Int) (s : ByteArray) : ∃ r cd, BsA p v s r cd := by
  by_cases h1 : 65536 < s.size
  · exact ⟨_, _, .inl ⟨h1, rfl, rfl⟩⟩
  · by_cases h2 : (0 ≤ p ∧ p ≤ 31) ∧ (0 ≤ v ∧ v ≤ 4294967295)
    · by_cases h3 : 200 < s.size
      · exact ⟨_, _, .inr (.inr (.inl ⟨by omega, h2, h3, rfl, rfl⟩))⟩
      · exact ⟨_, _, .inr (.inr (.inr ⟨by omega, h2, rfl, rfl⟩))⟩
    · exact ⟨_, _, .inr (.inl ⟨by omega, h2, rfl, rfl⟩)⟩
theorem within_any (x n : Int) (r : Bool) (hr : r = decide (0 ≤ x ∧ x < n)) (w : World) :
    Calls Tryd.prog 24 #[.int .i64 x, .int .i64 n] w fun e w' => e = .returned (.bool r) ∧ w = w' := by
  by_cases h1 : 0 ≤ x
  · by_cases h2 : x < n
    · obtain rfl : r = true := by rw [hr]; simp; omega
      clear hr
      go_enter Tryd.func24, Tryd.ntmps24
      go_wp2
      go_ret
      exact ⟨rfl, rfl⟩
    · obtain rfl : r = false := by rw [hr]; simp; omega
      clear hr
      go_enter Tryd.func24, Tryd.ntmps24
      go_wp2
      go_ret
      exact ⟨rfl, rfl⟩
  · obtain rfl : r = false := by rw [hr]; simp; omega
    clear hr
    go_enter Tryd.func24, Tryd.ntmps24
    go_wp2
    go_ret
    exact ⟨rfl, rfl⟩
theorem block_rowM (w : World) : RowM (w.alloc (.cells #[.int .u8 98, .int .u8 108, .int .u8 111, .int .u8 99, .int .u8 107] 5 (5, 6))) w.heap.size 5 5 (strB blockL) := by
  refine ⟨Nat.le_refl _, fun i hi => ?_, fun i hi => ⟨?_, ?_⟩, by simp⟩
  · rw [World.cell?_alloc_mark]
    rcases (show i = 0 ∨ i = 1 ∨ i = 2 ∨ i = 3 ∨ i = 4 by omega) with rfl | rfl | rfl | rfl | rfl <;> rfl
  · rw [World.cell?_alloc_mark]
    rcases (show i = 0 ∨ i = 1 ∨ i = 2 ∨ i = 3 ∨ i = 4 by omega) with rfl | rfl | rfl | rfl | rfl <;> rfl
  · rw [World.frozen?_alloc_mark]
    simp
    intro h
    omega
end Go.Proofs.YtpljdlgjeeikkacDoor
