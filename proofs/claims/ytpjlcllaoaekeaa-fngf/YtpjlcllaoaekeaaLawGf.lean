/-
  The walk of the law FnGf: over any two slices of bytes it returns true and writes nothing that was there.
-/
import Derived.Test.YtpjlcllaoaekeaaAt
import Derived.Test.YtpjlcllaoaekeaaGfMul
import Derived.Test.YtpjlcllaoaekeaaGfInvImpl
import Derived.Test.YtpjlcllaoaekeaaGfLaws
namespace Go.Proofs.Ytpjlcllaoaekeaa
open Go.ChangeShapes Go.WideShapes Go.ChangeAt Go.RowKit
set_option maxRecDepth 100000 in
set_option maxHeartbeats 1000000 in
theorem law_gf (a0 a1 : Option Addr) (n0 c0 n1 c1 : Nat) (z0 z1 : List Int) (w : World) (h0 : IsRow .u8 w a0 n0 c0 z0) (h1 : IsRow .u8 w a1 n1 c1 z1) (m0 : n0 ≤ maxLen) (m1 : n1 ≤ maxLen) :
    Calls Try.prog 3 #[.slice a0 n0 c0, .slice a1 n1 c1] w fun e w' => e = .returned (.bool true) ∧ Below w.heap.size w w' := by
  have H0 : Hid (IsRow .u8 w a0 n0 c0 z0) := h0
  have H1 : Hid (IsRow .u8 w a1 n1 c1 z1) := h1
  clear h0 h1
  unfold maxLen at m0 m1
  by_cases g0 : 1048576 < n0
  · have g0' : decide (1048576 < (n0 : Int)) = true := by simp; omega
    go_enter Try.func3, Try.ntmps3
    go_wp2
    go_ret
    exact ⟨rfl, Below.refl _ _⟩
  have g0' : decide (1048576 < (n0 : Int)) = false := by simp; omega
  by_cases g1 : 1048576 < n1
  · have g1' : decide (1048576 < (n1 : Int)) = true := by simp; omega
    go_enter Try.func3, Try.ntmps3
    go_wp2
    go_ret
    exact ⟨rfl, Below.refl _ _⟩
  have g1' : decide (1048576 < (n1 : Int)) = false := by simp; omega
  go_enter Try.func3, Try.ntmps3
  go_wp2_with fail
  refine (at_any a0 n0 c0 z0 _ H0.out 0 256 (by omega) (by omega) (by omega) (by omega)).mono ?_
  rintro e w1 ⟨⟨A, hA, rfl⟩, q0, rfl⟩
  go_wp2_with fail
  refine (at_any a1 n1 c1 z1 _ (H1.out.drewN q0) 0 256 (by omega) (by omega) (by omega) (by omega)).mono ?_
  rintro e w1 ⟨⟨B, hB, rfl⟩, q1, rfl⟩
  go_wp2_with fail
  refine (at_any a1 n1 c1 z1 _ (H1.out.drewN (q0 + q1)) 1 256 (by omega) (by omega) (by omega) (by omega)).mono ?_
  rintro e w1 ⟨⟨C, hC, rfl⟩, q2, rfl⟩
  have hA' : A < 256 := by omega
  have hB' : B < 256 := by omega
  have hC' : C < 256 := by omega
  have lAB := Gf.mul_lt A B hA'
  have lBC := Gf.mul_lt B C hB'
  have lAC := Gf.mul_lt A C hA'
  have lBx := Gf.xor_lt hB' hC'
  have eX : bits BinOp.xor IntKind.i64 (B : Int) (C : Int) = ((B ^^^ C : Nat) : Int) := i64_xor_nat B C (by omega) (by omega)
  have eY : bits BinOp.xor IntKind.i64 (Gf.mul A B : Int) (Gf.mul A C : Int) = ((Gf.mul A B ^^^ Gf.mul A C : Nat) : Int) := i64_xor_nat _ _ (by omega) (by omega)
  go_wp2_with fail
  refine (implGf_yes A B hA' hB' _).mono ?_; rintro e w' ⟨rfl, rfl⟩
  go_wp2_with fail
  refine (implGf_yes B A hB' hA' _).mono ?_; rintro e w' ⟨rfl, rfl⟩
  rw [Gf.mul_comm B A hB' hA']
  go_wp2_with fail
  refine (implGf_yes B C hB' hC' _).mono ?_; rintro e w' ⟨rfl, rfl⟩
  go_wp2_with fail
  refine (implGf_yes _ C lAB hC' _).mono ?_; rintro e w' ⟨rfl, rfl⟩
  go_wp2_with fail
  refine (implGf_yes A _ hA' lBC _).mono ?_; rintro e w' ⟨rfl, rfl⟩
  rw [Gf.mul_assoc A B C hA' hB']
  go_wp2_with fail
  refine (implGf_yes A C hA' hC' _).mono ?_; rintro e w' ⟨rfl, rfl⟩
  go_wp2_with fail
  refine (implGf_yes A _ hA' lBx _).mono ?_; rintro e w' ⟨rfl, rfl⟩
  rw [Gf.mul_xor A B C]
  go_wp2_with fail
  refine (specGf_yes A B hA' hB' _).mono ?_; rintro e w' ⟨rfl, rfl⟩
  by_cases hz : A = 0
  · subst hz
    go_wp2_with fail
    refine (implInv_zero _).mono ?_; rintro e w' ⟨rfl, rfl⟩
    go_wp2_with fail
    go_ret
    exact ⟨rfl, by repeat (first | exact Below.refl _ _ | apply below_drewN)⟩
  · have hp : 0 < A := by omega
    have gz : ((A : Int) == 0) = false := by simp; omega
    have lI := Gf.inv_lt A hA'
    go_wp2_with fail
    refine (implInv_yes A hp hA' _).mono ?_; rintro e w' ⟨rfl, rfl⟩
    go_wp2_with fail
    refine (implGf_yes A _ hA' lI _).mono ?_; rintro e w' ⟨rfl, rfl⟩
    rw [Gf.mul_inv A hp hA']
    go_wp2_with fail
    go_ret
    exact ⟨rfl, by repeat (first | exact Below.refl _ _ | apply below_drewN)⟩
end Go.Proofs.Ytpjlcllaoaekeaa
