/-
  Contracts of the byte functions of the program and of the model: doubling, products, inverses, the test of a byte: each returns what the plain functions of YtpjlcllaoaekeaaGf compute, for all bytes, and leaves the world as it was.
-/
import Derived.Test.YtpjlcllaoaekeaaRows
import Derived.Test.YtpjlcllaoaekeaaGf
import Derived.WalkKit
import Derived.ProofKit
import Derived.OpenShut
import Derived.ShutString
import Derived.Laws.BitsAllLaws
namespace Go.Proofs.Ytpjlcllaoaekeaa
open Go.ChangeShapes Go.WideShapes Go.ChangeAt Go.RowKit

theorem i64_xor_nat (a b : Nat) (ha : a < 65536) (hb : b < 65536) : bits .xor .i64 (a : Int) (b : Int) = ((a ^^^ b : Nat) : Int) := by
  have hx : a ^^^ b < 2 ^ 16 := Nat.xor_lt_two_pow (by omega) (by omega)
  show IntKind.i64.wrap ((BitVec.ofInt 64 (a : Int) ^^^ BitVec.ofInt 64 (b : Int)).toNat : Int) = _
  rw [BitVec.toNat_xor, BitVec.ofInt_natCast, BitVec.toNat_ofNat, BitVec.ofInt_natCast, BitVec.toNat_ofNat, Nat.mod_eq_of_lt (by omega), Nat.mod_eq_of_lt (by omega)]
  simp [IntKind.wrap, IntKind.bits, IntKind.signed]
  omega
theorem i64_and1_nat (a : Nat) (ha : a < 65536) : bits .and .i64 (a : Int) 1 = ((a % 2 : Nat) : Int) := by
  have hx : a &&& 1 = a % 2 := Nat.and_one_is_mod a
  show IntKind.i64.wrap ((BitVec.ofInt 64 (a : Int) &&& BitVec.ofInt 64 ((1 : Nat) : Int)).toNat : Int) = _
  rw [BitVec.toNat_and, BitVec.ofInt_natCast, BitVec.toNat_ofNat, BitVec.ofInt_natCast, BitVec.toNat_ofNat, Nat.mod_eq_of_lt (by omega), Nat.mod_eq_of_lt (by omega), hx]
  simp [IntKind.wrap, IntKind.bits, IntKind.signed]
  omega
theorem u8_and1_nat (a : Nat) (ha : a < 256) : bits .and .u8 (a : Int) 1 = ((a % 2 : Nat) : Int) := by
  have := u8_and_nat a 1 ha (by omega)
  rw [Nat.and_one_is_mod] at this
  exact this
theorem ret_int {k : IntKind} {a b : Int} (h : a = b) : Ending.returned (.int k a) = .returned (.int k b) := by rw [h]
theorem val_int {k : IntKind} {a b : Int} (h : a = b) : Value.int k a = .int k b := by rw [h]
theorem cast_div (b k : Nat) : (b : Int) / 2 ^ k = ((b / 2 ^ k : Nat) : Int) := by simp
theorem and_yes {b k : Nat} (hb : b < 256) (h : (bits BinOp.and IntKind.i64 ((b : Int) / 2 ^ k) 1 == 1) = true) : b / 2 ^ k % 2 = 1 := by
  have hl : b / 2 ^ k < 65536 := Nat.lt_of_le_of_lt (Nat.div_le_self _ _) (by omega)
  rw [cast_div, i64_and1_nat _ hl] at h
  generalize b / 2 ^ k = B at *
  rcases Nat.mod_two_eq_zero_or_one B with e | e <;> rw [e] at h ⊢ <;> simp at h
theorem and_no {b k : Nat} (hb : b < 256) (h : (bits BinOp.and IntKind.i64 ((b : Int) / 2 ^ k) 1 == 1) = false) : b / 2 ^ k % 2 = 0 := by
  have hl : b / 2 ^ k < 65536 := Nat.lt_of_le_of_lt (Nat.div_le_self _ _) (by omega)
  rw [cast_div, i64_and1_nat _ hl] at h
  generalize b / 2 ^ k = B at *
  rcases Nat.mod_two_eq_zero_or_one B with e | e <;> rw [e] at h ⊢ <;> simp at h
theorem dbl_yes (A : Nat) (hA : A < 256) (h : (255 : Int) < A * 2) : bits BinOp.xor IntKind.i64 ((A : Int) * 2) 283 = ((Gf.dbl A : Nat) : Int) := by
  have := i64_xor_nat (A * 2) 283 (by omega) (by omega)
  unfold Gf.dbl
  rw [if_pos (by omega)]
  exact this
theorem dbl_no (A : Nat) (h : (A : Int) * 2 ≤ 255) : (A : Int) * 2 = ((Gf.dbl A : Nat) : Int) := by
  unfold Gf.dbl
  rw [if_neg (by omega)]
  rfl

/-- spec.l01Mul -/
theorem mul_any (a b : Nat) (h1 : a < 256) (h3 : b < 256) (w : World) :
    Calls Try.prog 27 #[.int .i64 a, .int .i64 b] w fun e w' => e = .returned (.int .i64 (Gf.mul a b : Nat)) ∧ w' = w := by
  go_enter Try.func27, Try.ntmps27
  go_wp2
  go_loop [0, 5, 6] (fun x o i => ∃ k : Nat, k ≤ 8 ∧ i = .int .i64 k ∧ x = .int .i64 ((Gf.mulTo k a b).1 : Nat) ∧ o = .int .i64 ((Gf.mulTo k a b).2 : Nat)) (fun _ _ i => 8 - (intOf i).toNat)
  case atStart => exact ⟨0, by omega, rfl, rfl, rfl⟩
  case round =>
    obtain ⟨k, hk, rfl, rfl, rfl⟩ := hrel
    have hl := Gf.mulTo_lt k a b h1
    have e1 := Gf.mulTo_fst k a b
    have e2 := Gf.mulTo_yes k a b
    have e3 := Gf.mulTo_no k a b
    have E1 : Hid ((Gf.mulTo (k + 1) a b).1 = Gf.dbl (Gf.mulTo k a b).1) := e1
    have E2 : Hid (b / 2 ^ k % 2 = 1 → (Gf.mulTo (k + 1) a b).2 = (Gf.mulTo k a b).2 ^^^ (Gf.mulTo k a b).1) := e2
    have E3 : Hid (b / 2 ^ k % 2 = 0 → (Gf.mulTo (k + 1) a b).2 = (Gf.mulTo k a b).2) := e3
    have E4 : Hid (k = 8 → (Gf.mulTo k a b).2 = Gf.mul a b) := by intro h; subst h; rfl
    clear e1 e2 e3
    generalize (Gf.mulTo k a b).1 = A at *
    generalize (Gf.mulTo k a b).2 = O at *
    obtain ⟨hA, hO⟩ := hl
    by_cases hlt : k < 8
    · go_wp2
      all_goals
        go_round
        case rel =>
          refine ⟨k + 1, by omega, by go_num, val_int ?_, val_int ?_⟩
          · rw [E1.out]; first | exact dbl_yes A hA (by assumption) | exact dbl_no A (by assumption)
          · first | (rw [E2.out (and_yes h3 (by assumption))]; exact i64_xor_nat O A (by omega) (by omega)) | (rw [E3.out (and_no h3 (by assumption))])
        case measure => simp [intOf]; omega
    · go_wp2
      go_ret
      exact ⟨ret_int (by rw [E4.out (by omega)]), rfl⟩

/-- impl.double -/
theorem double_any (a : Nat) (h1 : a < 256) (w : World) :
    Calls Try.prog 46 #[.int .u8 a] w fun e w' => e = .returned (.int .u8 (Gf.dbl a : Nat)) ∧ w' = w := by
  have E : Hid (bits BinOp.xor IntKind.u8 ((a : Int) * 2 % 256) ((a : Int) / 128 * 27) = ((Gf.dbl a : Nat) : Int)) := by
    have := u8_xor_nat (a * 2 % 256) (a / 128 * 27) (by omega) (by omega)
    rw [← Gf.dblB_eq_fin a h1]
    exact this
  go_enter Try.func46, Try.ntmps46
  go_wp2
  go_ret
  exact ⟨ret_int E.out, rfl⟩

/-- impl.times -/
theorem times_any (a b : Nat) (h1 : a < 256) (h3 : b < 256) (w : World) :
    Calls Try.prog 25 #[.int .u8 a, .int .u8 b] w fun e w' => e = .returned (.int .u8 (Gf.mul a b : Nat)) ∧ w' = w := by
  go_enter Try.func25, Try.ntmps25
  go_wp2
  go_loop [0, 1, 5] (fun x y o => ∃ k : Nat, k ≤ 8 ∧ y = .int .u8 (b / 2 ^ k : Nat) ∧ x = .int .u8 ((Gf.mulTo k a b).1 : Nat) ∧ o = .int .u8 ((Gf.mulTo k a b).2 : Nat)) (fun _ y _ => (intOf y).toNat)
  case atStart => exact ⟨0, by omega, by simp, rfl, rfl⟩
  case round =>
    obtain ⟨k, hk, rfl, rfl, rfl⟩ := hrel
    have hl := Gf.mulTo_lt k a b h1
    have E1 : Hid ((Gf.mulTo (k + 1) a b).1 = Gf.dbl (Gf.mulTo k a b).1) := Gf.mulTo_fst k a b
    have E2 : Hid (b / 2 ^ k % 2 = 1 → (Gf.mulTo (k + 1) a b).2 = (Gf.mulTo k a b).2 ^^^ (Gf.mulTo k a b).1) := Gf.mulTo_yes k a b
    have E3 : Hid (b / 2 ^ k % 2 = 0 → (Gf.mulTo (k + 1) a b).2 = (Gf.mulTo k a b).2) := Gf.mulTo_no k a b
    have E4 : Hid (b / 2 ^ k = 0 → (Gf.mulTo k a b).2 = Gf.mul a b) := Gf.mul_of_rest k a b hk
    have E5 : Hid (b / 2 ^ (k + 1) = b / 2 ^ k / 2) := by show _ = _; rw [Nat.pow_succ, Nat.div_div_eq_div_mul]
    have E6 : Hid (k = 8 → b / 2 ^ k = 0) := by intro h; subst h; exact Nat.div_eq_of_lt (by omega)
    have hB : b / 2 ^ k < 256 := Nat.lt_of_le_of_lt (Nat.div_le_self _ _) (by omega)
    generalize (Gf.mulTo k a b).1 = A at *
    generalize (Gf.mulTo k a b).2 = O at *
    generalize b / 2 ^ k = B at *
    obtain ⟨hA, hO⟩ := hl
    by_cases hz : B = 0
    · subst hz
      go_wp2
      go_ret
      exact ⟨ret_int (by rw [E4.out (by simp)]), rfl⟩
    · have hk8 : k < 8 := by
        rcases Nat.lt_or_ge k 8 with h | h
        · exact h
        · exact absurd (E6.out (by omega)) hz
      have hne : ((B : Int) != 0) = true := by simp; omega
      have hand : Hid (bits BinOp.and IntKind.u8 (B : Int) 1 = ((B % 2 : Nat) : Int)) := u8_and1_nat B hB
      by_cases hm : B % 2 = 1
      · have ht : (bits BinOp.and IntKind.u8 (B : Int) 1 != 0) = true := by rw [hand.out, hm]; rfl
        go_wp2_with (go_at_call 46; refine (double_any A hA _).mono ?_; rintro e w' ⟨rfl, rfl⟩)
        go_round
        case rel =>
          refine ⟨k + 1, by omega, val_int ?_, val_int ?_, val_int ?_⟩
          · rw [E5.out]; rfl
          · rw [E1.out]
          · rw [E2.out hm]; exact u8_xor_nat O A (by omega) (by omega)
        case measure => simp [intOf]; omega
      · have ht : (bits BinOp.and IntKind.u8 (B : Int) 1 != 0) = false := by rw [hand.out, show B % 2 = 0 from by omega]; rfl
        go_wp2_with (go_at_call 46; refine (double_any A hA _).mono ?_; rintro e w' ⟨rfl, rfl⟩)
        go_round
        case rel =>
          refine ⟨k + 1, by omega, val_int ?_, val_int ?_, val_int ?_⟩
          · rw [E5.out]; rfl
          · rw [E1.out]
          · rw [E3.out (by omega)]
        case measure => simp [intOf]; omega

/-- spec.l01Byte and impl.isByte -/
theorem l01Byte_yes (a : Int) (h0 : 0 ≤ a) (h1 : a ≤ 255) (w : World) : Calls Try.prog 26 #[.int .i64 a] w fun e w' => e = .returned (.bool true) ∧ w' = w := by
  have g0 : decide (0 ≤ a) = true := by simpa using h0
  have g1 : decide (a ≤ 255) = true := by simpa using h1
  go_enter Try.func26, Try.ntmps26
  go_wp2
  go_ret
  exact ⟨rfl, rfl⟩
theorem l01Byte_no (a : Int) (h : a < 0 ∨ 255 < a) (w : World) : Calls Try.prog 26 #[.int .i64 a] w fun e w' => e = .returned (.bool false) ∧ w' = w := by
  rcases h with h | h
  · have g0 : decide (0 ≤ a) = false := by simp; omega
    clear h
    go_enter Try.func26, Try.ntmps26
    go_wp2
    go_ret
    exact ⟨rfl, rfl⟩
  · have g0 : decide (0 ≤ a) = true := by simp; omega
    have g1 : decide (a ≤ 255) = false := by simp; omega
    clear h
    go_enter Try.func26, Try.ntmps26
    go_wp2
    go_ret
    exact ⟨rfl, rfl⟩
theorem isByte_yes (a : Int) (h0 : 0 ≤ a) (h1 : a ≤ 255) (w : World) : Calls Try.prog 24 #[.int .i64 a] w fun e w' => e = .returned (.bool true) ∧ w' = w := by
  have g0 : decide (0 ≤ a) = true := by simpa using h0
  have g1 : decide (a ≤ 255) = true := by simpa using h1
  go_enter Try.func24, Try.ntmps24
  go_wp2
  go_ret
  exact ⟨rfl, rfl⟩
theorem isByte_no (a : Int) (h : a < 0 ∨ 255 < a) (w : World) : Calls Try.prog 24 #[.int .i64 a] w fun e w' => e = .returned (.bool false) ∧ w' = w := by
  rcases h with h | h
  · have g0 : decide (0 ≤ a) = false := by simp; omega
    clear h
    go_enter Try.func24, Try.ntmps24
    go_wp2
    go_ret
    exact ⟨rfl, rfl⟩
  · have g0 : decide (0 ≤ a) = true := by simp; omega
    have g1 : decide (a ≤ 255) = false := by simp; omega
    clear h
    go_enter Try.func24, Try.ntmps24
    go_wp2
    go_ret
    exact ⟨rfl, rfl⟩
/-- spec.l01Inverse -/
theorem l01Inverse_any (a : Nat) (h1 : a < 256) (w : World) :
    Calls Try.prog 50 #[.int .i64 a] w fun e w' => e = .returned (.int .i64 (Gf.inv a : Nat)) ∧ w' = w := by
  go_enter Try.func50, Try.ntmps50
  go_wp2
  go_loop [0, 3, 4] (fun x o i => ∃ k : Nat, k ≤ 7 ∧ i = .int .i64 k ∧ x = .int .i64 ((Gf.invTo k a).1 : Nat) ∧ o = .int .i64 ((Gf.invTo k a).2 : Nat)) (fun _ _ i => 7 - (intOf i).toNat)
  case atStart => exact ⟨0, by omega, rfl, rfl, rfl⟩
  case round =>
    obtain ⟨k, hk, rfl, rfl, rfl⟩ := hrel
    have hl := Gf.invTo_lt k a h1
    have E1 : Hid ((Gf.invTo (k + 1) a).1 = Gf.mul (Gf.invTo k a).1 (Gf.invTo k a).1) := Gf.invTo_fst k a
    have E2 : Hid ((Gf.invTo (k + 1) a).2 = Gf.mul (Gf.invTo k a).2 (Gf.mul (Gf.invTo k a).1 (Gf.invTo k a).1)) := Gf.invTo_snd k a
    have E4 : Hid (k = 7 → (Gf.invTo k a).2 = Gf.inv a) := by intro h; subst h; rfl
    generalize (Gf.invTo k a).1 = A at *
    generalize (Gf.invTo k a).2 = O at *
    obtain ⟨hA, hO⟩ := hl
    have hM := Gf.mul_lt A A hA
    by_cases hlt : k < 7
    · go_wp2_with fail
      refine (mul_any A A hA hA _).mono ?_; rintro e w' ⟨rfl, rfl⟩
      go_wp2_with fail
      refine (mul_any O _ hO hM _).mono ?_; rintro e w' ⟨rfl, rfl⟩
      go_wp2_with fail
      go_round
      case rel => exact ⟨k + 1, by omega, by go_num, by rw [E1.out], by rw [E2.out]⟩
      case measure => simp [intOf]; omega
    · go_wp2
      go_ret
      exact ⟨ret_int (by rw [E4.out (by omega)]), rfl⟩
/-- impl.inverse -/
theorem inverse_any (a : Nat) (h1 : a < 256) (w : World) :
    Calls Try.prog 28 #[.int .u8 a] w fun e w' => e = .returned (.int .u8 (Gf.inv a : Nat)) ∧ w' = w := by
  go_enter Try.func28, Try.ntmps28
  go_wp2
  go_loop [3, 4, 6] (fun x o i => ∃ k : Nat, k ≤ 7 ∧ i = .int .i64 k ∧ x = .int .u8 ((Gf.invTo k a).1 : Nat) ∧ o = .int .u8 ((Gf.invTo k a).2 : Nat)) (fun _ _ i => 7 - (intOf i).toNat)
  case atStart => exact ⟨0, by omega, rfl, rfl, rfl⟩
  case round =>
    obtain ⟨k, hk, rfl, rfl, rfl⟩ := hrel
    have hl := Gf.invTo_lt k a h1
    have E1 : Hid ((Gf.invTo (k + 1) a).1 = Gf.mul (Gf.invTo k a).1 (Gf.invTo k a).1) := Gf.invTo_fst k a
    have E2 : Hid ((Gf.invTo (k + 1) a).2 = Gf.mul (Gf.invTo k a).2 (Gf.mul (Gf.invTo k a).1 (Gf.invTo k a).1)) := Gf.invTo_snd k a
    have E4 : Hid (k = 7 → (Gf.invTo k a).2 = Gf.inv a) := by intro h; subst h; rfl
    generalize (Gf.invTo k a).1 = A at *
    generalize (Gf.invTo k a).2 = O at *
    obtain ⟨hA, hO⟩ := hl
    have hM := Gf.mul_lt A A hA
    by_cases hlt : k < 7
    · go_wp2_with fail
      refine (times_any A A hA hA _).mono ?_; rintro e w' ⟨rfl, rfl⟩
      go_wp2_with fail
      refine (times_any O _ hO hM _).mono ?_; rintro e w' ⟨rfl, rfl⟩
      go_wp2_with fail
      go_round
      case rel => exact ⟨k + 1, by omega, by go_num, by rw [E1.out], by rw [E2.out]⟩
      case measure => simp [intOf]; omega
    · go_wp2
      go_ret
      exact ⟨ret_int (by rw [E4.out (by omega)]), rfl⟩
end Go.Proofs.Ytpjlcllaoaekeaa
