/-
  The exact law of PieceCount.
-/
import Derived.Test.YtonccbgolbcjfaaImgM
namespace Go.Proofs.Ytonccbgolbcjfaa
open Go.ChangeShapes Go.WideShapes Go.ChangeAt Go.RowKit
set_option linter.unusedVariables false
set_option maxRecDepth 100000 in
theorem specPc_no (z : Int) (h : ¬ (0 ≤ z ∧ z ≤ 1024)) (w : World) :
    Calls Try.prog 18 #[.int .i64 z] w fun e w' => e = .returned (.tuple #[.int .i64 0, .int .i64 4]) ∧ w = w' := by
  have IN : Hid (∀ w : World, Calls Try.prog 39 #[.int .i64 z, .int .i64 0, .int .i64 1024] w fun e w' => e = .returned (.bool false) ∧ w = w') := fun w => in_any z 0 1024 false (by simp [h]) w
  clear h
  go_enter Try.func18, Try.ntmps18
  go_wp2_with fail
  refine (IN.out _).mono ?_
  rintro e _ ⟨rfl, rfl⟩
  go_wp2
  exact bodyPost_ret (results_tmp2 Try.results18 _ _ _) rfl ⟨rfl, rfl⟩
set_option maxRecDepth 100000 in
theorem specPc_ok (n : Nat) (h : n ≤ 1024) (w : World) :
    Calls Try.prog 18 #[.int .i64 (n : Int)] w fun e w' => e = .returned (.tuple #[.int .i64 ((pcsN n : Nat) : Int), .int .i64 0]) ∧ w = w' := by
  have IN : Hid (∀ w : World, Calls Try.prog 39 #[.int .i64 (n : Int), .int .i64 0, .int .i64 1024] w fun e w' => e = .returned (.bool true) ∧ w = w') := fun w => in_any n 0 1024 true (by simp; omega) w
  have CT : Hid (∀ w : World, Calls Try.prog 40 #[.int .i64 (n : Int)] w fun e w' => e = .returned (.int .i64 ((pcsN n : Nat) : Int)) ∧ w = w') := fun w => l12Count_any n (by omega) w
  clear h
  go_enter Try.func18, Try.ntmps18
  go_wp2_with fail
  refine (IN.out _).mono ?_
  rintro e _ ⟨rfl, rfl⟩
  go_wp2_with fail
  refine (CT.out _).mono ?_
  rintro e _ ⟨rfl, rfl⟩
  go_wp2
  exact bodyPost_ret (results_tmp2 Try.results18 _ _ _) rfl ⟨rfl, rfl⟩
set_option maxRecDepth 100000 in
theorem law_pieceCount (z : Int) (w : World) :
    Calls Try.prog 4 #[.int .i64 z] w fun e w' => e = .returned (.bool true) ∧ Below w.heap.size w w' := by
  obtain ⟨x, y, hI, hS⟩ : ∃ x y : Int, Hid (∀ w : World, Calls Try.prog 12 #[.int .i64 z] w fun e w' => e = .returned (.tuple #[.int .i64 x, .int .i64 y]) ∧ w = w') ∧ Hid (∀ w : World, Calls Try.prog 18 #[.int .i64 z] w fun e w' => e = .returned (.tuple #[.int .i64 x, .int .i64 y]) ∧ w = w') := by
    by_cases h : 0 ≤ z ∧ z ≤ 1024
    · obtain ⟨n, rfl⟩ := Int.eq_ofNat_of_zero_le h.1
      exact ⟨_, _, implPc_ok n (by omega), specPc_ok n (by omega)⟩
    · exact ⟨_, _, implPc_no z h, specPc_no z h⟩
  have x0 : (x != x) = false := by simp
  have y0 : (y != y) = false := by simp
  go_enter Try.func4, Try.ntmps4
  go_wp2_with fail
  refine (hS.out _).mono ?_
  rintro e _ ⟨rfl, rfl⟩
  go_wp2_with fail
  refine (hI.out _).mono ?_
  rintro e _ ⟨rfl, rfl⟩
  go_wp2
  go_ret
  exact ⟨rfl, Below.refl _ _⟩
end Go.Proofs.Ytonccbgolbcjfaa
