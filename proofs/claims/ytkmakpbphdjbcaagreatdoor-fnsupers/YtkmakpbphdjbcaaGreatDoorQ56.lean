/-
  Texts of the proof, joined: Gf, Byte.
-/
import Init
import Derived.Test.YtkmakpbphdjbcaaGreatDoorRows
import Derived.WalkKit
import Derived.ProofKit
import Derived.OpenShut
import Derived.ShutString
import Derived.Laws.BitsAllLaws
namespace Go.Proofs.YtkmakpbphdjbcaaGreatDoor.Gf
def dbl (a : Nat) : Nat := if 255 < a * 2 then (a * 2) ^^^ 283 else a * 2
def dblB (a : Nat) : Nat := (a * 2 % 256) ^^^ (a / 128 * 27)
theorem dblB_eq_fin : ∀ a, a < 256 → dblB a = dbl a := by decide +kernel
theorem dbl_lt : ∀ a, a < 256 → dbl a < 256 := by decide +kernel
def mulTo : Nat → Nat → Nat → Nat × Nat
  | 0, a, _ => (a, 0)
  | k + 1, a, b => (dbl (mulTo k a b).1, if b / 2 ^ k % 2 = 1 then (mulTo k a b).2 ^^^ (mulTo k a b).1 else (mulTo k a b).2)
def mul (a b : Nat) : Nat := (mulTo 8 a b).2
theorem xor_lt {a b : Nat} (ha : a < 256) (hb : b < 256) : a ^^^ b < 256 := Nat.xor_lt_two_pow (n := 8) ha hb
theorem mulTo_lt (k a b : Nat) (ha : a < 256) : (mulTo k a b).1 < 256 ∧ (mulTo k a b).2 < 256 := by
  induction k with
  | zero => exact ⟨ha, by simp [mulTo]⟩
  | succ k ih =>
    refine ⟨dbl_lt _ ih.1, ?_⟩
    show (if b / 2 ^ k % 2 = 1 then (mulTo k a b).2 ^^^ (mulTo k a b).1 else (mulTo k a b).2) < 256
    split
    · exact xor_lt ih.2 ih.1
    · exact ih.2
theorem mul_lt (a b : Nat) (ha : a < 256) : mul a b < 256 := (mulTo_lt 8 a b ha).2
theorem mulTo_fst (k a b : Nat) : (mulTo (k + 1) a b).1 = dbl (mulTo k a b).1 := by rw [mulTo]
theorem mulTo_yes (k a b : Nat) (h : b / 2 ^ k % 2 = 1) : (mulTo (k + 1) a b).2 = (mulTo k a b).2 ^^^ (mulTo k a b).1 := by rw [mulTo]; simp [h]
theorem mulTo_no (k a b : Nat) (h : b / 2 ^ k % 2 = 0) : (mulTo (k + 1) a b).2 = (mulTo k a b).2 := by rw [mulTo]; simp [h]
def invTo : Nat → Nat → Nat × Nat
  | 0, a => (a, 1)
  | k + 1, a => (mul (invTo k a).1 (invTo k a).1, mul (invTo k a).2 (mul (invTo k a).1 (invTo k a).1))
def inv (a : Nat) : Nat := (invTo 7 a).2
theorem invTo_fst (k a : Nat) : (invTo (k + 1) a).1 = mul (invTo k a).1 (invTo k a).1 := by rw [invTo]
theorem invTo_snd (k a : Nat) : (invTo (k + 1) a).2 = mul (invTo k a).2 (mul (invTo k a).1 (invTo k a).1) := by rw [invTo]
theorem invTo_lt (k a : Nat) (ha : a < 256) : (invTo k a).1 < 256 ∧ (invTo k a).2 < 256 := by
  induction k with
  | zero => exact ⟨ha, by simp [invTo]⟩
  | succ k ih => rw [invTo_fst, invTo_snd]; exact ⟨mul_lt _ _ ih.1, mul_lt _ _ ih.2⟩
theorem inv_lt (a : Nat) (ha : a < 256) : inv a < 256 := (invTo_lt 7 a ha).2
end Go.Proofs.YtkmakpbphdjbcaaGreatDoor.Gf
namespace Go.Proofs.YtkmakpbphdjbcaaGreatDoor
open Go.ChangeShapes Go.WideShapes Go.ChangeAt Go.RowKit
theorem i64_xor_nat (a b : Nat) (ha : a < 65536) (hb : b < 65536) : bits .xor .i64 (a : Int) (b : Int) = ((a ^^^ b : Nat) : Int) := by
  have hx : a ^^^ b < 2 ^ 16 := Nat.xor_lt_two_pow (by omega) (by omega)
  show IntKind.i64.wrap ((BitVec.ofInt 64 (a : Int) ^^^ BitVec.ofInt 64 (b : Int)).toNat : Int) = _
  rw [BitVec.toNat_xor, BitVec.ofInt_natCast, BitVec.toNat_ofNat, BitVec.ofInt_natCast, BitVec.toNat_ofNat, Nat.mod_eq_of_lt (by omega), Nat.mod_eq_of_lt (by omega)]
  simp [IntKind.wrap, IntKind.bits, IntKind.signed]
  omega
theorem i64_and1_nat (a : Nat) (ha : a < 65536) : bits .and .i64 (a : Int) 1 = ((a % 2 : Nat) : Int) := by
  have hx : a &&& 1 = a % 2 := Nat.and_one_is_mod a
  show IntKind.i64.wrap ((BitVec.ofInt 64 (a : Int) &&& BitVec.ofInt 64 ((1 : Nat) : Int)).toNat : Int) = _
  rw [BitVec.toNat_and, BitVec.ofInt_natCast, BitVec.toNat_ofNat, BitVec.ofInt_natCast, BitVec.toNat_ofNat, Nat.mod_eq_of_lt (by omega), Nat.mod_eq_of_lt (by omega), hx]
  simp [IntKind.wrap, IntKind.bits, IntKind.signed]
  omega
theorem ret_int {k : IntKind} {a b : Int} (h : a = b) : Ending.returned (.int k a) = .returned (.int k b) := by rw [h]
theorem val_int {k : IntKind} {a b : Int} (h : a = b) : Value.int k a = .int k b := by rw [h]
theorem cast_div (b k : Nat) : (b : Int) / 2 ^ k = ((b / 2 ^ k : Nat) : Int) := by simp
theorem and_yes {b k : Nat} (hb : b < 256) (h : (bits BinOp.and IntKind.i64 ((b : Int) / 2 ^ k) 1 == 1) = true) : b / 2 ^ k % 2 = 1 := by
  have hl : b / 2 ^ k < 65536 := Nat.lt_of_le_of_lt (Nat.div_le_self _ _) (by omega)
  rw [cast_div, i64_and1_nat _ hl] at h
  generalize b / 2 ^ k = B at *
  rcases Nat.mod_two_eq_zero_or_one B with e | e <;> rw [e] at h ⊢ <;> simp at h
theorem and_no {b k : Nat} (hb : b < 256) (h : (bits BinOp.and IntKind.i64 ((b : Int) / 2 ^ k) 1 == 1) = false) : b / 2 ^ k % 2 = 0 := by
  have hl : b / 2 ^ k < 65536 := Nat.lt_of_le_of_lt (Nat.div_le_self _ _) (by omega)
  rw [cast_div, i64_and1_nat _ hl] at h
  generalize b / 2 ^ k = B at *
  rcases Nat.mod_two_eq_zero_or_one B with e | e <;> rw [e] at h ⊢ <;> simp at h
theorem dbl_yes (A : Nat) (hA : A < 256) (h : (255 : Int) < A * 2) : bits BinOp.xor IntKind.i64 ((A : Int) * 2) 283 = ((Gf.dbl A : Nat) : Int) := by
  have := i64_xor_nat (A * 2) 283 (by omega) (by omega)
  unfold Gf.dbl
  rw [if_pos (by omega)]
  exact this
theorem dbl_no (A : Nat) (h : (A : Int) * 2 ≤ 255) : (A : Int) * 2 = ((Gf.dbl A : Nat) : Int) := by
  unfold Gf.dbl
  rw [if_neg (by omega)]
  rfl
theorem mul_any (a b : Nat) (h1 : a < 256) (h3 : b < 256) (w : World) :
    Calls Tryz.prog 104 #[.int .i64 a, .int .i64 b] w fun e w' => e = .returned (.int .i64 (Gf.mul a b : Nat)) ∧ w' = w := by
  go_enter Tryz.func104, Tryz.ntmps104
  go_wp2
  go_loop [0, 5, 6] (fun x o i => ∃ k : Nat, k ≤ 8 ∧ i = .int .i64 k ∧ x = .int .i64 ((Gf.mulTo k a b).1 : Nat) ∧ o = .int .i64 ((Gf.mulTo k a b).2 : Nat)) (fun _ _ i => 8 - (intOf i).toNat)
  case atStart => exact ⟨0, by omega, rfl, rfl, rfl⟩
  case round =>
    obtain ⟨k, hk, rfl, rfl, rfl⟩ := hrel
    have hl := Gf.mulTo_lt k a b h1
    have e1 := Gf.mulTo_fst k a b
    have e2 := Gf.mulTo_yes k a b
    have e3 := Gf.mulTo_no k a b
    have E1 : Hid ((Gf.mulTo (k + 1) a b).1 = Gf.dbl (Gf.mulTo k a b).1) := e1
    have E2 : Hid (b / 2 ^ k % 2 = 1 → (Gf.mulTo (k + 1) a b).2 = (Gf.mulTo k a b).2 ^^^ (Gf.mulTo k a b).1) := e2
    have E3 : Hid (b / 2 ^ k % 2 = 0 → (Gf.mulTo (k + 1) a b).2 = (Gf.mulTo k a b).2) := e3
    have E4 : Hid (k = 8 → (Gf.mulTo k a b).2 = Gf.mul a b) := by intro h; subst h; rfl
    clear e1 e2 e3
    generalize (Gf.mulTo k a b).1 = A at *
    generalize (Gf.mulTo k a b).2 = O at *
    obtain ⟨hA, hO⟩ := hl
    by_cases hlt : k < 8
    · go_wp2
      all_goals
        go_round
        case rel =>
          refine ⟨k + 1, by omega, by go_num, val_int ?_, val_int ?_⟩
          · rw [E1.out]; first | exact dbl_yes A hA (by assumption) | exact dbl_no A (by assumption)
          · first | (rw [E2.out (and_yes h3 (by assumption))]; exact i64_xor_nat O A (by omega) (by omega)) | (rw [E3.out (and_no h3 (by assumption))])
        case measure => simp [intOf]; omega
    · go_wp2
      go_ret
      exact ⟨ret_int (by rw [E4.out (by omega)]), rfl⟩
theorem double_any (a : Nat) (h1 : a < 256) (w : World) :
    Calls Tryz.prog 113 #[.int .u8 a] w fun e w' => e = .returned (.int .u8 (Gf.dbl a : Nat)) ∧ w' = w := by
  have E : Hid (bits BinOp.xor IntKind.u8 ((a : Int) * 2 % 256) ((a : Int) / 128 * 27) = ((Gf.dbl a : Nat) : Int)) := by
    have := u8_xor_nat (a * 2 % 256) (a / 128 * 27) (by omega) (by omega)
    rw [← Gf.dblB_eq_fin a h1]
    exact this
  go_enter Tryz.func113, Tryz.ntmps113
  go_wp2
  go_ret
  exact ⟨ret_int E.out, rfl⟩
end Go.Proofs.YtkmakpbphdjbcaaGreatDoor
