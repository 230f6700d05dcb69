/-
  Contracts of impl.GfInverse: it returns the inverse and code 0 at a byte that is not nought, code 5 at nought, code 4 at other numbers; the world stays.
-/
import Derived.Test.YtpjlcllaoaekeaaRows
import Derived.Test.YtpjlcllaoaekeaaByte
import Derived.WalkKit
import Derived.ProofKit
import Derived.OpenShut
import Derived.ShutString
import Derived.Laws.BitsAllLaws
namespace Go.Proofs.Ytpjlcllaoaekeaa
open Go.ChangeShapes Go.WideShapes Go.ChangeAt Go.RowKit

theorem implInv_yes (a : Nat) (h0 : 0 < a) (h1 : a < 256) (w : World) :
    Calls Try.prog 10 #[.int .i64 a] w fun e w' => e = .returned (.tuple #[.int .i64 (Gf.inv a : Nat), .int .i64 0]) ∧ w' = w := by
  have g : ((a : Int) == 0) = false := by simp; omega
  have g2 := Gf.inv_lt a h1
  go_enter Try.func10, Try.ntmps10
  go_wp2_with (first | (go_at_call 28; refine (inverse_any a h1 _).mono ?_; rintro e w' ⟨rfl, rfl⟩) | (go_at_call 24; refine (isByte_yes _ (by omega) (by omega) _).mono ?_; rintro e w' ⟨rfl, rfl⟩))
  go_ret2
  exact ⟨rfl, rfl⟩
theorem implInv_zero (w : World) :
    Calls Try.prog 10 #[.int .i64 0] w fun e w' => e = .returned (.tuple #[.int .i64 0, .int .i64 5]) ∧ w' = w := by
  go_enter Try.func10, Try.ntmps10
  go_wp2
  go_ret2
  exact ⟨rfl, rfl⟩
theorem implInv_no (a : Int) (h : a < 0 ∨ 255 < a) (w : World) :
    Calls Try.prog 10 #[.int .i64 a] w fun e w' => e = .returned (.tuple #[.int .i64 0, .int .i64 4]) ∧ w' = w := by
  have H : Hid (a < 0 ∨ 255 < a) := h
  clear h
  go_enter Try.func10, Try.ntmps10
  go_wp2_with (go_at_call 24; refine (isByte_no a H.out _).mono ?_; rintro e w' ⟨rfl, rfl⟩)
  go_ret2
  exact ⟨rfl, rfl⟩
end Go.Proofs.Ytpjlcllaoaekeaa
