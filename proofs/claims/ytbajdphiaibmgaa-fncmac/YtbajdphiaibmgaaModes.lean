/-
  Contracts of what the program's modes lean on: modeFault, addInto.
-/
import Derived.Test.YtbajdphiaibmgaaPad
import Derived.Test.YtbajdphiaibmgaaEImpl
import Derived.Test.YtbajdphiaibmgaaModesMath
import Derived.Test.YtbajdphiaibmgaaJump
namespace Go.Proofs.Ytbajdphiaibmgaa
open Go.ChangeShapes Go.WideShapes Go.ChangeAt Go.RowKit
theorem mf_long (k s : ByteArray) (size count most : Int) (h : 65536 < k.size ∨ 65536 < s.size ∨ most < count) (w : World) :
    Calls Try.prog 14 #[.string k, .string s, .int .i64 size, .int .i64 count, .int .i64 most] w fun e w' => e = .returned (.int .i64 2) ∧ w = w' := by
  by_cases h1 : 65536 < k.size
  · have e1 : (65536 : Int) < k.size := by omega
    go_enter Try.func14, Try.ntmps14
    go_wp2
    go_ret
    exact ⟨rfl, rfl⟩
  · have e1 : ¬ (65536 : Int) < k.size := by omega
    by_cases h2 : 65536 < s.size
    · have e2 : (65536 : Int) < s.size := by omega
      go_enter Try.func14, Try.ntmps14
      go_wp2
      go_ret
      exact ⟨rfl, rfl⟩
    · have e2 : ¬ (65536 : Int) < s.size := by omega
      have e3 : most < count := by omega
      go_enter Try.func14, Try.ntmps14
      go_wp2
      go_ret
      exact ⟨rfl, rfl⟩
theorem mf_bad (k s : ByteArray) (size count most : Int) (h1 : k.size ≤ 65536) (h2 : s.size ≤ 65536) (h3 : count ≤ most) (h : ¬ ((k.size = 16 ∨ k.size = 32) ∧ (s.size : Int) = size)) (w : World) :
    Calls Try.prog 14 #[.string k, .string s, .int .i64 size, .int .i64 count, .int .i64 most] w fun e w' => e = .returned (.int .i64 1) ∧ w = w' := by
  have e1 : ¬ (65536 : Int) < k.size := by omega
  have e2 : ¬ (65536 : Int) < s.size := by omega
  have e3 : ¬ most < count := by omega
  by_cases hk : k.size = 16 ∨ k.size = 32
  · have e4 : ((s.size : Int) != size) = true := by rw [bne_iff_ne]; omega
    have KO : Hid (∀ w : World, Calls Try.prog 25 #[.string k] w fun e w' => e = .returned (.bool true) ∧ w = w') := fun w => (keyOK_yes k hk w).mono fun e w' h => ⟨h.1, h.2.symm⟩
    clear h hk
    go_enter Try.func14, Try.ntmps14
    go_wp2_with (go_at_call 25; refine (KO.out _).mono ?_; rintro e w' ⟨rfl, rfl⟩)
    go_ret
    exact ⟨rfl, rfl⟩
  · have KO : Hid (∀ w : World, Calls Try.prog 25 #[.string k] w fun e w' => e = .returned (.bool false) ∧ w = w') := fun w => (keyOK_no k (by omega) (by omega) w).mono fun e w' h => ⟨h.1, h.2.symm⟩
    clear h hk
    go_enter Try.func14, Try.ntmps14
    go_wp2_with (go_at_call 25; refine (KO.out _).mono ?_; rintro e w' ⟨rfl, rfl⟩)
    go_ret
    exact ⟨rfl, rfl⟩
theorem mf_ok (k s : ByteArray) (size count most : Int) (h3 : count ≤ most) (hk : k.size = 16 ∨ k.size = 32) (hs : (s.size : Int) = size) (hs' : size ≤ 65536) (w : World) :
    Calls Try.prog 14 #[.string k, .string s, .int .i64 size, .int .i64 count, .int .i64 most] w fun e w' => e = .returned (.int .i64 0) ∧ w = w' := by
  have e1 : ¬ (65536 : Int) < k.size := by omega
  have e2 : ¬ (65536 : Int) < s.size := by omega
  have e3 : ¬ most < count := by omega
  have e4 : ((s.size : Int) != size) = false := by rw [bne_eq_false_iff_eq]; omega
  have KO : Hid (∀ w : World, Calls Try.prog 25 #[.string k] w fun e w' => e = .returned (.bool true) ∧ w = w') := fun w => (keyOK_yes k hk w).mono fun e w' h => ⟨h.1, h.2.symm⟩
  clear hk hs
  go_enter Try.func14, Try.ntmps14
  go_wp2_with (go_at_call 25; refine (KO.out _).mono ?_; rintro e w' ⟨rfl, rfl⟩)
  go_ret
  exact ⟨rfl, rfl⟩
theorem OnlyB.drew8 {b : Nat} {w w' : World} (h : OnlyB b w w') : OnlyB b w w'.drew := ⟨h.os, h.tape, h.output, h.size, h.block⟩
end Go.Proofs.Ytbajdphiaibmgaa
