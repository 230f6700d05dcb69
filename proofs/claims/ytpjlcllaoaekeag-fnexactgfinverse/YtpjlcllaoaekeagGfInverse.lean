/-
  Contracts of spec.GfInverse and impl.GfInverse, and the walk of the law FnExactGfInverse: at any integer it returns true and leaves the world as it was.
-/
import Derived.Test.YtpjlcllaoaekeagRows
import Derived.Test.YtpjlcllaoaekeagByte
import Derived.WalkKit
import Derived.ProofKit
import Derived.OpenShut
import Derived.ShutString
import Derived.Laws.BitsAllLaws
namespace Go.Proofs.Ytpjlcllaoaekeag
open Go.ChangeShapes Go.WideShapes Go.ChangeAt Go.RowKit

theorem specInv_yes (a : Nat) (h0 : 0 < a) (h1 : a < 256) (w : World) :
    Calls Try.prog 10 #[.int .i64 a] w fun e w' => e = .returned (.tuple #[.int .i64 (Gf.inv a : Nat), .int .i64 0]) ∧ w' = w := by
  have g : ((a : Int) == 0) = false := by simp; omega
  go_enter Try.func10, Try.ntmps10
  go_wp2_with (first | (go_at_call 19; refine (l01Inverse_any a h1 _).mono ?_; rintro e w' ⟨rfl, rfl⟩) | (go_at_call 15; refine (l01Byte_yes _ (by omega) (by omega) _).mono ?_; rintro e w' ⟨rfl, rfl⟩))
  go_ret2
  exact ⟨rfl, rfl⟩
theorem specInv_zero (w : World) :
    Calls Try.prog 10 #[.int .i64 0] w fun e w' => e = .returned (.tuple #[.int .i64 0, .int .i64 5]) ∧ w' = w := by
  go_enter Try.func10, Try.ntmps10
  go_wp2
  go_ret2
  exact ⟨rfl, rfl⟩
theorem specInv_no (a : Int) (h : a < 0 ∨ 255 < a) (w : World) :
    Calls Try.prog 10 #[.int .i64 a] w fun e w' => e = .returned (.tuple #[.int .i64 0, .int .i64 4]) ∧ w' = w := by
  have H : Hid (a < 0 ∨ 255 < a) := h
  clear h
  go_enter Try.func10, Try.ntmps10
  go_wp2_with (go_at_call 15; refine (l01Byte_no a H.out _).mono ?_; rintro e w' ⟨rfl, rfl⟩)
  go_ret2
  exact ⟨rfl, rfl⟩
theorem implInv_yes (a : Nat) (h0 : 0 < a) (h1 : a < 256) (w : World) :
    Calls Try.prog 11 #[.int .i64 a] w fun e w' => e = .returned (.tuple #[.int .i64 (Gf.inv a : Nat), .int .i64 0]) ∧ w' = w := by
  have g : ((a : Int) == 0) = false := by simp; omega
  have g2 := Gf.inv_lt a h1
  go_enter Try.func11, Try.ntmps11
  go_wp2_with (first | (go_at_call 20; refine (inverse_any a h1 _).mono ?_; rintro e w' ⟨rfl, rfl⟩) | (go_at_call 17; refine (isByte_yes _ (by omega) (by omega) _).mono ?_; rintro e w' ⟨rfl, rfl⟩))
  go_ret2
  exact ⟨rfl, rfl⟩
theorem implInv_zero (w : World) :
    Calls Try.prog 11 #[.int .i64 0] w fun e w' => e = .returned (.tuple #[.int .i64 0, .int .i64 5]) ∧ w' = w := by
  go_enter Try.func11, Try.ntmps11
  go_wp2
  go_ret2
  exact ⟨rfl, rfl⟩
theorem implInv_no (a : Int) (h : a < 0 ∨ 255 < a) (w : World) :
    Calls Try.prog 11 #[.int .i64 a] w fun e w' => e = .returned (.tuple #[.int .i64 0, .int .i64 4]) ∧ w' = w := by
  have H : Hid (a < 0 ∨ 255 < a) := h
  clear h
  go_enter Try.func11, Try.ntmps11
  go_wp2_with (go_at_call 17; refine (isByte_no a H.out _).mono ?_; rintro e w' ⟨rfl, rfl⟩)
  go_ret2
  exact ⟨rfl, rfl⟩
theorem law_gfInverse (a : Int) (w : World) :
    Calls Try.prog 5 #[.int .i64 a] w fun e w' => e = .returned (.bool true) ∧ w' = w := by
  by_cases ha : 0 ≤ a ∧ a ≤ 255
  · obtain ⟨A, rfl⟩ := Int.eq_ofNat_of_zero_le ha.1
    have h1 : A < 256 := by omega
    clear ha
    by_cases hz : A = 0
    · subst hz
      go_enter Try.func5, Try.ntmps5
      go_wp2_with (first | (go_at_call 10; refine (specInv_zero _).mono ?_; rintro e w' ⟨rfl, rfl⟩) | (go_at_call 11; refine (implInv_zero _).mono ?_; rintro e w' ⟨rfl, rfl⟩))
      go_ret; exact ⟨rfl, rfl⟩
    · have h0 : 0 < A := by omega
      go_enter Try.func5, Try.ntmps5
      go_wp2_with (first | (go_at_call 10; refine (specInv_yes A h0 h1 _).mono ?_; rintro e w' ⟨rfl, rfl⟩) | (go_at_call 11; refine (implInv_yes A h0 h1 _).mono ?_; rintro e w' ⟨rfl, rfl⟩))
      go_ret; exact ⟨rfl, rfl⟩
  · have H : Hid (a < 0 ∨ 255 < a) := by show _ ∨ _; omega
    clear ha
    go_enter Try.func5, Try.ntmps5
    go_wp2_with (first | (go_at_call 10; refine (specInv_no a H.out _).mono ?_; rintro e w' ⟨rfl, rfl⟩) | (go_at_call 11; refine (implInv_no a H.out _).mono ?_; rintro e w' ⟨rfl, rfl⟩))
    go_ret; exact ⟨rfl, rfl⟩
end Go.Proofs.Ytpjlcllaoaekeag
