/-
  Contracts of padding in the model: l02Pad, l02Unpad, PadBlocks, UnpadBlocks.
-/
import Derived.Test.YtonccbgolbcjfabDoorSlices
import Derived.Test.YtonccbgolbcjfabDoorPadMath
namespace Go.Proofs.YtonccbgolbcjfabDoor
open Go.ChangeShapes Go.WideShapes Go.ChangeAt Go.RowKit
theorem l01In_any (x a b : Int) (r : Bool) (hr : r = decide (a ≤ x ∧ x ≤ b)) (w : World) :
    Calls Tryd.prog 10 #[.int .i64 x, .int .i64 a, .int .i64 b] w fun e w' => e = .returned (.bool r) ∧ w = w' := by
  by_cases h1 : a ≤ x
  · by_cases h2 : x ≤ b
    · obtain rfl : r = true := by rw [hr]; simp; omega
      clear hr
      go_enter Tryd.func10, Tryd.ntmps10
      go_wp2
      go_ret
      exact ⟨rfl, rfl⟩
    · obtain rfl : r = false := by rw [hr]; simp; omega
      clear hr
      go_enter Tryd.func10, Tryd.ntmps10
      go_wp2
      go_ret
      exact ⟨rfl, rfl⟩
  · obtain rfl : r = false := by rw [hr]; simp; omega
    clear hr
    go_enter Tryd.func10, Tryd.ntmps10
    go_wp2
    go_ret
    exact ⟨rfl, rfl⟩
theorem one_new8 (w : World) (x : Nat) (t : TypeId) : ∀ j u, [Value.int .u8 (x : Nat)][j]? = some u → (w.alloc (.cells #[.int .u8 (x : Nat)] t)).cell? ((⟨w.heap.size, 0, none⟩ : Addr).add j) = some u := fun j u hj => by
  have hj0 : j = 0 := by have := (List.getElem?_eq_some_iff.1 hj).1; simp at this; omega
  subst hj0
  cases hj
  rw [Addr.add_lit]
  simp
theorem one_one8 (x : Nat) : ∀ u ∈ [Value.int .u8 (x : Nat)], u.oneCell' = true := fun u hu => by
  simp at hu
  subst hu
  rfl
end Go.Proofs.YtonccbgolbcjfabDoor
