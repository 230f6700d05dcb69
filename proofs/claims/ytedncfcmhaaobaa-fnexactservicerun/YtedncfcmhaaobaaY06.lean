/-
  Texts of the proof, joined: QSize.
-/
import Derived.Test.YtedncfcmhaaobaaY05
namespace Go.Proofs.Ytedncfcmhaaobaa
open Go.ChangeShapes Go.WideShapes Go.ChangeAt Go.RowKit
theorem implQs_yes (n : Int) (h : 1 ≤ n ∧ n ≤ 7) (w : World) : Calls Try.prog 51 #[.int .i64 n] w fun e w' => e = .returned (.tuple #[.int .i64 (n / 2 + 1), .int .i64 0]) ∧ w = w' := by
 obtain ⟨h1, h2⟩ := h
 have e1 : ¬ n < 1 := by omega
 have e2 : ¬ 7 < n := by omega
 go_enter Try.func51, Try.ntmps51
 go_wp2
 go_ret2
 exact ⟨rfl, rfl⟩
theorem implQs_no (n : Int) (h : ¬ (1 ≤ n ∧ n ≤ 7)) (w : World) : Calls Try.prog 51 #[.int .i64 n] w fun e w' => e = .returned (.tuple #[.int .i64 0, .int .i64 4]) ∧ w = w' := by
 by_cases e1 : n < 1
 ·clear h
  go_enter Try.func51, Try.ntmps51
  go_wp2
  go_ret2
  exact ⟨rfl, rfl⟩
 ·have e2 : 7 < n := by omega
  clear h
  go_enter Try.func51, Try.ntmps51
  go_wp2
  go_ret2
  exact ⟨rfl, rfl⟩
theorem l09Size_any (n : Int) (h : 1 ≤ n ∧ n ≤ 7) (w : World) : Calls Try.prog 95 #[.int .i64 n] w fun e w' => e = .returned (.int .i64 (n / 2 + 1)) ∧ w = w' := by
 obtain ⟨h1, h2⟩ := h
 go_enter Try.func95, Try.ntmps95
 go_wp2
 go_ret
 exact ⟨rfl, rfl⟩
end Go.Proofs.Ytedncfcmhaaobaa
