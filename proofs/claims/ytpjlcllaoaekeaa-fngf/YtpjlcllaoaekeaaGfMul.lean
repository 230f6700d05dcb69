/-
  Contracts of spec.GfMul and impl.GfMul: each returns the product and code 0 at two bytes, else 0 and code 4; the world stays.
-/
import Derived.Test.YtpjlcllaoaekeaaRows
import Derived.Test.YtpjlcllaoaekeaaByte
import Derived.WalkKit
import Derived.ProofKit
import Derived.OpenShut
import Derived.ShutString
import Derived.Laws.BitsAllLaws
namespace Go.Proofs.Ytpjlcllaoaekeaa
open Go.ChangeShapes Go.WideShapes Go.ChangeAt Go.RowKit

theorem specGf_yes (a b : Nat) (h1 : a < 256) (h2 : b < 256) (w : World) :
    Calls Try.prog 9 #[.int .i64 a, .int .i64 b] w fun e w' => e = .returned (.tuple #[.int .i64 (Gf.mul a b : Nat), .int .i64 0]) ∧ w' = w := by
  go_enter Try.func9, Try.ntmps9
  go_wp2_with (first | (go_at_call 27; refine (mul_any a b h1 h2 _).mono ?_; rintro e w' ⟨rfl, rfl⟩) | (go_at_call 26; refine (l01Byte_yes _ (by omega) (by omega) _).mono ?_; rintro e w' ⟨rfl, rfl⟩))
  go_ret2
  exact ⟨rfl, rfl⟩
theorem specGf_no (a b : Int) (h : (a < 0 ∨ 255 < a) ∨ (0 ≤ a ∧ a ≤ 255) ∧ (b < 0 ∨ 255 < b)) (w : World) :
    Calls Try.prog 9 #[.int .i64 a, .int .i64 b] w fun e w' => e = .returned (.tuple #[.int .i64 0, .int .i64 4]) ∧ w' = w := by
  rcases h with h | ⟨h, h'⟩
  · have H : Hid (a < 0 ∨ 255 < a) := h
    clear h
    go_enter Try.func9, Try.ntmps9
    go_wp2_with (go_at_call 26; refine (l01Byte_no a H.out _).mono ?_; rintro e w' ⟨rfl, rfl⟩)
    go_ret2; exact ⟨rfl, rfl⟩
  · have H : Hid (b < 0 ∨ 255 < b) := h'
    clear h'
    go_enter Try.func9, Try.ntmps9
    go_wp2_with fail
    refine (l01Byte_yes a h.1 h.2 _).mono ?_; rintro e w' ⟨rfl, rfl⟩
    go_wp2_with fail
    refine (l01Byte_no b H.out _).mono ?_; rintro e w' ⟨rfl, rfl⟩
    go_wp2
    go_ret2; exact ⟨rfl, rfl⟩
theorem implGf_yes (a b : Nat) (h1 : a < 256) (h2 : b < 256) (w : World) :
    Calls Try.prog 8 #[.int .i64 a, .int .i64 b] w fun e w' => e = .returned (.tuple #[.int .i64 (Gf.mul a b : Nat), .int .i64 0]) ∧ w' = w := by
  have h3 := Gf.mul_lt a b h1
  go_enter Try.func8, Try.ntmps8
  go_wp2_with (first | (go_at_call 25; refine (times_any a b h1 h2 _).mono ?_; rintro e w' ⟨rfl, rfl⟩) | (go_at_call 24; refine (isByte_yes _ (by omega) (by omega) _).mono ?_; rintro e w' ⟨rfl, rfl⟩))
  go_ret2
  exact ⟨rfl, rfl⟩
theorem implGf_no (a b : Int) (h : (a < 0 ∨ 255 < a) ∨ (0 ≤ a ∧ a ≤ 255) ∧ (b < 0 ∨ 255 < b)) (w : World) :
    Calls Try.prog 8 #[.int .i64 a, .int .i64 b] w fun e w' => e = .returned (.tuple #[.int .i64 0, .int .i64 4]) ∧ w' = w := by
  rcases h with h | ⟨h, h'⟩
  · have H : Hid (a < 0 ∨ 255 < a) := h
    clear h
    go_enter Try.func8, Try.ntmps8
    go_wp2_with (go_at_call 24; refine (isByte_no a H.out _).mono ?_; rintro e w' ⟨rfl, rfl⟩)
    go_ret2; exact ⟨rfl, rfl⟩
  · have H : Hid (b < 0 ∨ 255 < b) := h'
    clear h'
    go_enter Try.func8, Try.ntmps8
    go_wp2_with fail
    refine (isByte_yes a h.1 h.2 _).mono ?_; rintro e w' ⟨rfl, rfl⟩
    go_wp2_with fail
    refine (isByte_no b H.out _).mono ?_; rintro e w' ⟨rfl, rfl⟩
    go_wp2
    go_ret2; exact ⟨rfl, rfl⟩
end Go.Proofs.Ytpjlcllaoaekeaa
