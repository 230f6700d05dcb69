/-
  PacketTag of the program and of the model, and its exact law.
-/
import Derived.Test.YtkhglllicblbbaaDoorPTag
import Derived.Test.YtkhglllicblbbaaDoorInAny
namespace Go.Proofs.YtkhglllicblbbaaDoor
open Go.ChangeShapes Go.WideShapes Go.ChangeAt Go.RowKit
set_option linter.unusedVariables false
/-- What PacketTag answers. -/
def PtA (K body : ByteArray) (x : Int) (s : ByteArray) (code : Int) : Prop :=
  ((65536 < K.size ∨ 65536 < body.size) ∧ s = ⟨#[]⟩ ∧ code = 2) ∨ (K.size ≤ 65536 ∧ body.size ≤ 65536 ∧ K.size ≠ 32 ∧ s = ⟨#[]⟩ ∧ code = 1) ∨ (K.size = 32 ∧ body.size ≤ 65536 ∧ ¬ (1 ≤ x ∧ x ≤ 1000000) ∧ s = ⟨#[]⟩ ∧ code = 4) ∨ (K.size = 32 ∧ body.size ≤ 65536 ∧ (1 ≤ x ∧ x ≤ 1000000) ∧ s = ptag K body x.toNat ∧ code = 0)
theorem ptA_ex (K body : ByteArray) (x : Int) : ∃ s code, PtA K body x s code := by
  by_cases h1 : 65536 < K.size ∨ 65536 < body.size
  · exact ⟨_, _, .inl ⟨h1, rfl, rfl⟩⟩
  · by_cases h2 : K.size = 32
    · by_cases h3 : 1 ≤ x ∧ x ≤ 1000000
      · exact ⟨_, _, .inr (.inr (.inr ⟨h2, by omega, h3, rfl, rfl⟩))⟩
      · exact ⟨_, _, .inr (.inr (.inl ⟨h2, by omega, h3, rfl, rfl⟩))⟩
    · exact ⟨_, _, .inr (.inl ⟨by omega, by omega, h2, rfl, rfl⟩)⟩
theorem isSeq_any (x : Int) (r : Bool) (hr : r = decide (1 ≤ x ∧ x ≤ 1000000)) (w : World) :
    Calls Tryd.prog 68 #[.int .i64 x] w fun e w' => e = .returned (.bool r) ∧ w = w' := by
  by_cases h1 : 1 ≤ x
  · by_cases h2 : x ≤ 1000000
    · obtain rfl : r = true := by rw [hr]; simp; omega
      clear hr
      go_enter Tryd.func68, Tryd.ntmps68
      go_wp2
      go_ret
      exact ⟨rfl, rfl⟩
    · obtain rfl : r = false := by rw [hr]; simp; omega
      clear hr
      go_enter Tryd.func68, Tryd.ntmps68
      go_wp2
      go_ret
      exact ⟨rfl, rfl⟩
  · obtain rfl : r = false := by rw [hr]; simp; omega
    clear hr
    go_enter Tryd.func68, Tryd.ntmps68
    go_wp2
    go_ret
    exact ⟨rfl, rfl⟩
set_option maxRecDepth 100000 in
set_option maxHeartbeats 1000000 in
theorem implPTag_any (K body : ByteArray) (x : Int) (s : ByteArray) (code : Int) (h : PtA K body x s code) (w : World) (ht : Tabs w) :
    Calls Tryd.prog 25 #[.string K, .int .i64 x, .string body] w fun e w' => e = .returned (.tuple #[.string s, .int .i64 code]) ∧ Below w.heap.size w w' := by
  rcases h with ⟨h1, rfl, rfl⟩ | ⟨h1, h2, h3, rfl, rfl⟩ | ⟨h1, h2, h3, rfl, rfl⟩ | ⟨h1, h2, h3, hs, rfl⟩
  · by_cases g1 : 65536 < K.size
    · have e1 : (65536 : Int) < (K.size : Int) := by omega
      clear h1 ht
      go_enter Tryd.func25, Tryd.ntmps25
      go_wp2
      go_ret2
      exact ⟨rfl, Below.refl _ _⟩
    · have e1 : ¬ (65536 : Int) < (K.size : Int) := by omega
      have e2 : (65536 : Int) < (body.size : Int) := by omega
      clear h1 ht
      go_enter Tryd.func25, Tryd.ntmps25
      go_wp2
      go_ret2
      exact ⟨rfl, Below.refl _ _⟩
  · have e1 : ¬ (65536 : Int) < (K.size : Int) := by omega
    have e2 : ¬ (65536 : Int) < (body.size : Int) := by omega
    have e3 : ((K.size : Int) != 32) = true := by simp; omega
    clear h1 h2 h3 ht
    go_enter Tryd.func25, Tryd.ntmps25
    go_wp2
    go_ret2
    exact ⟨rfl, Below.refl _ _⟩
  · have e1 : ¬ (65536 : Int) < (K.size : Int) := by omega
    have e2 : ¬ (65536 : Int) < (body.size : Int) := by omega
    have e3 : ((K.size : Int) != 32) = false := by simp; omega
    have IS : Hid (∀ w : World, Calls Tryd.prog 68 #[.int .i64 x] w fun e w' => e = .returned (.bool false) ∧ w = w') := fun w => isSeq_any x false (by simp; omega) w
    clear h1 h2 h3 ht
    go_enter Tryd.func25, Tryd.ntmps25
    go_wp2_with fail
    refine (IS.out _).mono ?_
    rintro e w1 ⟨rfl, rfl⟩
    go_wp2
    go_ret2
    exact ⟨rfl, Below.refl _ _⟩
  · have e1 : ¬ (65536 : Int) < (K.size : Int) := by omega
    have e2 : ¬ (65536 : Int) < (body.size : Int) := by omega
    have e3 : ((K.size : Int) != 32) = false := by simp; omega
    obtain ⟨q, rfl⟩ : ∃ q : Nat, x = (q : Int) := ⟨x.toNat, by omega⟩
    have IS : Hid (∀ w : World, Calls Tryd.prog 68 #[.int .i64 (q : Int)] w fun e w' => e = .returned (.bool true) ∧ w = w') := fun w => isSeq_any q true (by simp; omega) w
    have PT : Hid (Calls Tryd.prog 67 #[.string K, .int .i64 (q : Int), .string body] w fun e w' => e = .returned (.string s) ∧ Below w.heap.size w w') := by
      rw [hs]
      exact packetTag_any K body q h1 (by omega) (by omega) w ht
    clear h1 h2 h3 ht hs
    go_enter Tryd.func25, Tryd.ntmps25
    go_wp2_with fail
    refine (IS.out _).mono ?_
    rintro e w1 ⟨rfl, rfl⟩
    go_wp2_with fail
    refine (Calls.mono PT.out) ?_
    rintro e w1 ⟨rfl, hb⟩
    have B1 : Hid (Below w.heap.size w w1) := hb
    clear hb PT
    go_wp2
    go_ret2
    exact ⟨rfl, B1.out⟩
set_option maxRecDepth 100000 in
set_option maxHeartbeats 1000000 in
theorem specPTag_any (K body : ByteArray) (x : Int) (s : ByteArray) (code : Int) (h : PtA K body x s code) (w : World) :
    Calls Tryd.prog 26 #[.string K, .int .i64 x, .string body] w fun e w' => e = .returned (.tuple #[.string s, .int .i64 code]) ∧ Below w.heap.size w w' := by
  rcases h with ⟨h1, rfl, rfl⟩ | ⟨h1, h2, h3, rfl, rfl⟩ | ⟨h1, h2, h3, rfl, rfl⟩ | ⟨h1, h2, h3, hs, rfl⟩
  · by_cases g1 : 65536 < K.size
    · have e1 : (65536 : Int) < (K.size : Int) := by omega
      clear h1
      go_enter Tryd.func26, Tryd.ntmps26
      go_wp2
      go_ret2
      exact ⟨rfl, Below.refl _ _⟩
    · have e1 : ¬ (65536 : Int) < (K.size : Int) := by omega
      have e2 : (65536 : Int) < (body.size : Int) := by omega
      clear h1
      go_enter Tryd.func26, Tryd.ntmps26
      go_wp2
      go_ret2
      exact ⟨rfl, Below.refl _ _⟩
  · have e1 : ¬ (65536 : Int) < (K.size : Int) := by omega
    have e2 : ¬ (65536 : Int) < (body.size : Int) := by omega
    have e3 : ((K.size : Int) != 32) = true := by simp; omega
    clear h1 h2 h3
    go_enter Tryd.func26, Tryd.ntmps26
    go_wp2
    go_ret2
    exact ⟨rfl, Below.refl _ _⟩
  · have e1 : ¬ (65536 : Int) < (K.size : Int) := by omega
    have e2 : ¬ (65536 : Int) < (body.size : Int) := by omega
    have e3 : ((K.size : Int) != 32) = false := by simp; omega
    have IS : Hid (∀ w : World, Calls Tryd.prog 63 #[.int .i64 x, .int .i64 1, .int .i64 1000000] w fun e w' => e = .returned (.bool false) ∧ w = w') := fun w => in_any x _ _ false (by simp; omega) w
    clear h1 h2 h3
    go_enter Tryd.func26, Tryd.ntmps26
    go_wp2_with fail
    refine (IS.out _).mono ?_
    rintro e w1 ⟨rfl, rfl⟩
    go_wp2
    go_ret2
    exact ⟨rfl, Below.refl _ _⟩
  · have e1 : ¬ (65536 : Int) < (K.size : Int) := by omega
    have e2 : ¬ (65536 : Int) < (body.size : Int) := by omega
    have e3 : ((K.size : Int) != 32) = false := by simp; omega
    obtain ⟨q, rfl⟩ : ∃ q : Nat, x = (q : Int) := ⟨x.toNat, by omega⟩
    have IS : Hid (∀ w : World, Calls Tryd.prog 63 #[.int .i64 (q : Int), .int .i64 1, .int .i64 1000000] w fun e w' => e = .returned (.bool true) ∧ w = w') := fun w => in_any q _ _ true (by simp; omega) w
    have PT : Hid (Calls Tryd.prog 69 #[.string K, .int .i64 (q : Int), .string body] w fun e w' => e = .returned (.string s) ∧ Below w.heap.size w w') := by
      rw [hs]
      exact l07Tag_any K body q h1 (by omega) (by omega) w
    clear h1 h2 h3 hs
    go_enter Tryd.func26, Tryd.ntmps26
    go_wp2_with fail
    refine (IS.out _).mono ?_
    rintro e w1 ⟨rfl, rfl⟩
    go_wp2_with fail
    refine (Calls.mono PT.out) ?_
    rintro e w1 ⟨rfl, hb⟩
    have B1 : Hid (Below w.heap.size w w1) := hb
    clear hb PT
    go_wp2
    go_ret2
    exact ⟨rfl, B1.out⟩
end Go.Proofs.YtkhglllicblbbaaDoor
