/-
  Contracts of the substitutes of bytes in the program and in the model (turned bits, the spread and the gathering of bits, SubByte): each returns what plain functions of numbers compute, for all bytes, and leaves the world as it was.
-/
import Derived.Test.YtbhlgcenfanicaaRows
import Derived.Test.YtbhlgcenfanicaaByte
import Derived.WalkKit
import Derived.ProofKit
import Derived.OpenShut
import Derived.ShutString
import Derived.Laws.BitsAllLaws
namespace Go.Proofs.Ytbhlgcenfanicaa
open Go.ChangeShapes Go.WideShapes Go.ChangeAt Go.RowKit

namespace Gf
def rotl (a n : Nat) : Nat := (a * 2 ^ n % 256) ||| (a / 2 ^ (8 - n))
def spTo : Nat → Nat → Nat
  | 0, a => a ^^^ 99
  | k + 1, a => spTo k a ^^^ rotl a (k + 1)
/-- The spread of a byte's bits, and 0x63. -/
def spread (a : Nat) : Nat := spTo 4 a
def gather (a : Nat) : Nat := ((rotl a 1 ^^^ rotl a 3) ^^^ rotl a 6) ^^^ 5
def rot1 (x : Nat) : Nat := x * 2 % 256 + x / 128
def affTo : Nat → Nat → Nat × Nat
  | 0, a => (a, a ^^^ 99)
  | k + 1, a => (rot1 (affTo k a).1, (affTo k a).2 ^^^ rot1 (affTo k a).1)
theorem aff_eq : ∀ a, a < 256 → (affTo 4 a).2 = spread a := by decide +kernel
theorem rot1_lt (x : Nat) (h : x < 256) : rot1 x < 256 := by unfold rot1; omega
theorem or_lt {a b : Nat} (ha : a < 256) (hb : b < 256) : a ||| b < 256 := Nat.or_lt_two_pow (n := 8) ha hb
theorem rotl_lt (x n : Nat) (h : x < 256) : rotl x n < 256 := or_lt (by omega) (Nat.lt_of_le_of_lt (Nat.div_le_self _ _) h)
theorem affTo_lt (k a : Nat) (h : a < 256) : (affTo k a).1 < 256 ∧ (affTo k a).2 < 256 := by
  induction k with
  | zero => exact ⟨h, xor_lt h (by omega)⟩
  | succ k ih => exact ⟨rot1_lt _ ih.1, xor_lt ih.2 (rot1_lt _ ih.1)⟩
theorem spTo_lt (k a : Nat) (h : a < 256) : spTo k a < 256 := by
  induction k with
  | zero => exact xor_lt h (by omega)
  | succ k ih => exact xor_lt ih (rotl_lt _ _ h)
theorem spread_lt (a : Nat) (h : a < 256) : spread a < 256 := spTo_lt 4 a h
theorem gather_lt (a : Nat) (h : a < 256) : gather a < 256 := xor_lt (xor_lt (xor_lt (rotl_lt _ _ h) (rotl_lt _ _ h)) (rotl_lt _ _ h)) (by omega)
/-- The substitute of a byte, and that whose substitute it is. -/
def sub (a : Nat) : Nat := spread (inv a)
def unsub (a : Nat) : Nat := inv (gather a)
theorem sub_lt (a : Nat) (h : a < 256) : sub a < 256 := spread_lt _ (inv_lt a h)
theorem unsub_lt (a : Nat) (h : a < 256) : unsub a < 256 := inv_lt _ (gather_lt a h)
end Gf

theorem rot_end (a m d : Nat) (ha : a < 256) : bits BinOp.or IntKind.u8 ((a : Int) * m % 256) ((a : Int) / d) = ((a * m % 256 ||| a / d : Nat) : Int) := by
  have := u8_or_nat (a * m % 256) (a / d) (by omega) (Nat.lt_of_le_of_lt (Nat.div_le_self _ _) ha)
  rw [← this]
  congr 1
/-- math/bits.RotateLeft8, at the counts that are met. -/
theorem rot_any (a n : Nat) (ha : a < 256) (h : n = 1 ∨ n = 2 ∨ n = 3 ∨ n = 4 ∨ n = 6) (w : World) :
    Calls Try.prog 86 #[.int .u8 a, .int .i64 n] w fun e w' => e = .returned (.int .u8 (Gf.rotl a n : Nat)) ∧ w' = w := by
  have e1 : bits BinOp.and IntKind.u64 1 7 = 1 := by decide
  have e2 : bits BinOp.and IntKind.u64 2 7 = 2 := by decide
  have e3 : bits BinOp.and IntKind.u64 3 7 = 3 := by decide
  have e4 : bits BinOp.and IntKind.u64 4 7 = 4 := by decide
  have e6 : bits BinOp.and IntKind.u64 6 7 = 6 := by decide
  rcases h with rfl | rfl | rfl | rfl | rfl
  · go_enter Try.func86, Try.ntmps86
    go_wp2
    go_ret
    exact ⟨ret_int (rot_end a 2 128 ha), rfl⟩
  · go_enter Try.func86, Try.ntmps86
    go_wp2
    go_ret
    exact ⟨ret_int (rot_end a 4 64 ha), rfl⟩
  · go_enter Try.func86, Try.ntmps86
    go_wp2
    go_ret
    exact ⟨ret_int (rot_end a 8 32 ha), rfl⟩
  · go_enter Try.func86, Try.ntmps86
    go_wp2
    go_ret
    exact ⟨ret_int (rot_end a 16 16 ha), rfl⟩
  · go_enter Try.func86, Try.ntmps86
    go_wp2
    go_ret
    exact ⟨ret_int (rot_end a 64 4 ha), rfl⟩
/-- impl.spreadBits -/
theorem spreadBits_any (a : Nat) (ha : a < 256) (w : World) :
    Calls Try.prog 75 #[.int .u8 a] w fun e w' => e = .returned (.int .u8 (Gf.spread a : Nat)) ∧ w' = w := by
  have E0 : Hid (bits BinOp.xor IntKind.u8 (a : Int) 99 = ((Gf.spTo 0 a : Nat) : Int)) := u8_xor_nat a 99 ha (by omega)
  go_enter Try.func75, Try.ntmps75
  go_wp2
  go_loop [3, 4] (fun o i => ∃ k : Nat, k ≤ 4 ∧ i = .int .i64 (k + 1 : Nat) ∧ o = .int .u8 (Gf.spTo k a : Nat)) (fun _ i => 5 - (intOf i).toNat)
  case atStart => exact ⟨0, by omega, rfl, val_int E0.out⟩
  case round =>
    obtain ⟨k, hk, rfl, rfl⟩ := hrel
    have hl := Gf.spTo_lt k a ha
    have hr := Gf.rotl_lt a (k + 1) ha
    have E1 : Hid (Gf.spTo (k + 1) a = Gf.spTo k a ^^^ Gf.rotl a (k + 1)) := rfl
    have E2 : Hid (k = 4 → Gf.spTo k a = Gf.spread a) := by intro h; subst h; rfl
    generalize Gf.spTo k a = O at *
    by_cases hlt : k < 4
    · have hn : Hid (k + 1 = 1 ∨ k + 1 = 2 ∨ k + 1 = 3 ∨ k + 1 = 4 ∨ k + 1 = 6) := by show _ ∨ _; omega
      go_wp2_with fail
      refine (rot_any a (k + 1) ha hn.out _).mono ?_; rintro e w' ⟨rfl, rfl⟩
      generalize Gf.rotl a (k + 1) = R at *
      go_wp2_with fail
      go_round
      case rel => exact ⟨k + 1, by omega, by go_num, val_int (by rw [E1.out]; exact u8_xor_nat O R hl hr)⟩
      case measure => simp [intOf]; omega
    · go_wp2
      go_ret
      exact ⟨ret_int (by rw [E2.out (by omega)]), rfl⟩
/-- spec.l01Affine -/
theorem affine_any (a : Nat) (ha : a < 256) (w : World) :
    Calls Try.prog 63 #[.int .i64 a] w fun e w' => e = .returned (.int .i64 (Gf.spread a : Nat)) ∧ w' = w := by
  have E0 : Hid (bits BinOp.xor IntKind.i64 (a : Int) 99 = (((Gf.affTo 0 a).2 : Nat) : Int)) := i64_xor_nat a 99 (by omega) (by omega)
  go_enter Try.func63, Try.ntmps63
  go_wp2
  go_loop [0, 3, 4] (fun x o i => ∃ k : Nat, k ≤ 4 ∧ i = .int .i64 k ∧ x = .int .i64 ((Gf.affTo k a).1 : Nat) ∧ o = .int .i64 ((Gf.affTo k a).2 : Nat)) (fun _ _ i => 4 - (intOf i).toNat)
  case atStart => exact ⟨0, by omega, rfl, rfl, val_int E0.out⟩
  case round =>
    obtain ⟨k, hk, rfl, rfl, rfl⟩ := hrel
    have hl := Gf.affTo_lt k a ha
    have E1 : Hid ((Gf.affTo (k + 1) a).1 = Gf.rot1 (Gf.affTo k a).1) := rfl
    have E3 : Hid ((Gf.affTo (k + 1) a).2 = (Gf.affTo k a).2 ^^^ Gf.rot1 (Gf.affTo k a).1) := rfl
    have E2 : Hid (k = 4 → (Gf.affTo k a).2 = Gf.spread a) := by intro h; subst h; exact Gf.aff_eq a ha
    generalize (Gf.affTo k a).1 = A at *
    generalize (Gf.affTo k a).2 = O at *
    obtain ⟨hA, hO⟩ := hl
    by_cases hlt : k < 4
    · have hR : A * 2 % 256 + A / 128 < 256 := by omega
      go_wp2
      go_round
      case rel => exact ⟨k + 1, by omega, by go_num, val_int (by rw [E1.out]; rfl), val_int (by rw [E3.out]; exact i64_xor_nat O (A * 2 % 256 + A / 128) (by omega) (by omega))⟩
      case measure => simp [intOf]; omega
    · go_wp2
      go_ret
      exact ⟨ret_int (by rw [E2.out (by omega)]), rfl⟩
end Go.Proofs.Ytbhlgcenfanicaa
