/-
  The walk of the law FnExactGfMul: at any two integers it returns true and leaves the world as it was.
-/
import Derived.Test.YtpjlcllaoaekeagRows
import Derived.Test.YtpjlcllaoaekeagGfMul
import Derived.WalkKit
import Derived.ProofKit
import Derived.OpenShut
import Derived.ShutString
import Derived.Laws.BitsAllLaws
namespace Go.Proofs.Ytpjlcllaoaekeag
open Go.ChangeShapes Go.WideShapes Go.ChangeAt Go.RowKit

theorem law_gfMul (a b : Int) (w : World) :
    Calls Try.prog 4 #[.int .i64 a, .int .i64 b] w fun e w' => e = .returned (.bool true) ∧ w' = w := by
  by_cases ha : 0 ≤ a ∧ a ≤ 255
  · by_cases hb : 0 ≤ b ∧ b ≤ 255
    · obtain ⟨A, rfl⟩ := Int.eq_ofNat_of_zero_le ha.1
      obtain ⟨B, rfl⟩ := Int.eq_ofNat_of_zero_le hb.1
      have h1 : A < 256 := by omega
      have h2 : B < 256 := by omega
      clear ha hb
      go_enter Try.func4, Try.ntmps4
      go_wp2_with (first | (go_at_call 8; refine (specGf_yes A B h1 h2 _).mono ?_; rintro e w' ⟨rfl, rfl⟩) | (go_at_call 9; refine (implGf_yes A B h1 h2 _).mono ?_; rintro e w' ⟨rfl, rfl⟩))
      go_ret; exact ⟨rfl, rfl⟩
    · have H : Hid ((a < 0 ∨ 255 < a) ∨ (0 ≤ a ∧ a ≤ 255) ∧ (b < 0 ∨ 255 < b)) := by show _ ∨ _; omega
      clear ha hb
      go_enter Try.func4, Try.ntmps4
      go_wp2_with (first | (go_at_call 8; refine (specGf_no a b H.out _).mono ?_; rintro e w' ⟨rfl, rfl⟩) | (go_at_call 9; refine (implGf_no a b H.out _).mono ?_; rintro e w' ⟨rfl, rfl⟩))
      go_ret; exact ⟨rfl, rfl⟩
  · have H : Hid ((a < 0 ∨ 255 < a) ∨ (0 ≤ a ∧ a ≤ 255) ∧ (b < 0 ∨ 255 < b)) := by show _ ∨ _; omega
    clear ha
    go_enter Try.func4, Try.ntmps4
    go_wp2_with (first | (go_at_call 8; refine (specGf_no a b H.out _).mono ?_; rintro e w' ⟨rfl, rfl⟩) | (go_at_call 9; refine (implGf_no a b H.out _).mono ?_; rintro e w' ⟨rfl, rfl⟩))
    go_ret; exact ⟨rfl, rfl⟩
end Go.Proofs.Ytpjlcllaoaekeag
