/-
  The exact law of QuorumSize.
-/
import Derived.Test.YtnhlnneicnkmeabQSize
namespace Go.Proofs.Ytnhlnneicnkmeab
open Go.ChangeShapes Go.WideShapes Go.ChangeAt Go.RowKit
theorem law_quorumSize (n : Int) (w : World) : Calls Try.prog 4 #[.int .i64 n] w fun e w' => e = .returned (.bool true) ∧ w' = w := by
  by_cases h : 1 ≤ n ∧ n ≤ 7
  · go_enter Try.func4, Try.ntmps4
    go_wp2_with fail
    refine (specQs_yes n h _).mono ?_
    rintro e w' ⟨rfl, rfl⟩
    go_wp2_with fail
    refine (implQs_yes n h _).mono ?_
    rintro e w' ⟨rfl, rfl⟩
    go_wp2
    go_ret
    exact ⟨rfl, rfl⟩
  · have S : Hid (∀ w, Calls Try.prog 18 #[.int .i64 n] w fun e w' => e = .returned (.tuple #[.int .i64 0, .int .i64 4]) ∧ w = w') := specQs_no n h
    have I : Hid (∀ w, Calls Try.prog 19 #[.int .i64 n] w fun e w' => e = .returned (.tuple #[.int .i64 0, .int .i64 4]) ∧ w = w') := implQs_no n h
    clear h
    go_enter Try.func4, Try.ntmps4
    go_wp2_with fail
    refine (S.out _).mono ?_
    rintro e w' ⟨rfl, rfl⟩
    go_wp2_with fail
    refine (I.out _).mono ?_
    rintro e w' ⟨rfl, rfl⟩
    go_wp2
    go_ret
    exact ⟨rfl, rfl⟩
end Go.Proofs.Ytnhlnneicnkmeab
