/-
  EqualBytes in the program and in the model.
-/
import Derived.Test.YtonccbgolbcjfabDoorByteS
import Derived.BigRegion
namespace Go.Proofs.YtonccbgolbcjfabDoor
open Go.ChangeShapes Go.WideShapes Go.ChangeAt Go.RowKit
theorem e8_or (a b : Nat) (ha : a < 256) (hb : b < 256) : bits .or .u8 (a : Int) (b : Int) = ((a ||| b : Nat) : Int) := by
  have hx : a ||| b < 2 ^ 8 := Nat.or_lt_two_pow (by omega) (by omega)
  show ((BitVec.ofInt 8 (a : Int) ||| BitVec.ofInt 8 (b : Int)).toNat : Int) % 256 = _
  rw [BitVec.toNat_or, BitVec.ofInt_natCast, BitVec.toNat_ofNat, BitVec.ofInt_natCast, BitVec.toNat_ofNat, Nat.mod_eq_of_lt (by omega), Nat.mod_eq_of_lt (by omega)]
  omega
theorem e8_xor (a b : Nat) (ha : a < 256) (hb : b < 256) : bits .xor .u8 (a : Int) (b : Int) = ((a ^^^ b : Nat) : Int) := by
  have hx : a ^^^ b < 2 ^ 8 := Nat.xor_lt_two_pow (by omega) (by omega)
  show ((BitVec.ofInt 8 (a : Int) ^^^ BitVec.ofInt 8 (b : Int)).toNat : Int) % 256 = _
  rw [BitVec.toNat_xor, BitVec.ofInt_natCast, BitVec.toNat_ofNat, BitVec.ofInt_natCast, BitVec.toNat_ofNat, Nat.mod_eq_of_lt (by omega), Nat.mod_eq_of_lt (by omega)]
  omega
theorem e64_or (a b : Nat) (ha : a < 256) (hb : b < 256) : bits .or .i64 (a : Int) (b : Int) = ((a ||| b : Nat) : Int) := by
  have hx : a ||| b < 2 ^ 8 := Nat.or_lt_two_pow (by omega) (by omega)
  show IntKind.i64.wrap ((BitVec.ofInt 64 (a : Int) ||| BitVec.ofInt 64 (b : Int)).toNat : Int) = _
  rw [BitVec.toNat_or, BitVec.ofInt_natCast, BitVec.toNat_ofNat, BitVec.ofInt_natCast, BitVec.toNat_ofNat, Nat.mod_eq_of_lt (by omega), Nat.mod_eq_of_lt (by omega), IntKind.wrap_i64]
  omega
def difF (f g : Nat → Nat) (d : Nat) : Nat → Nat
  | 0 => d
  | k + 1 => difF f g d k ||| (f k ^^^ g k)
theorem difF_lt {f g : Nat → Nat} {d : Nat} (hf : ∀ i, f i < 256) (hg : ∀ i, g i < 256) (hd : d < 256) (k : Nat) : difF f g d k < 256 := by
  induction k with
  | zero => exact hd
  | succ k ih => exact Nat.or_lt_two_pow (n := 8) ih (Nat.xor_lt_two_pow (n := 8) (hf k) (hg k))
theorem or_zero {a b : Nat} : a ||| b = 0 ↔ a = 0 ∧ b = 0 := by
  constructor
  · intro h
    have ha : a ≤ a ||| b := Nat.left_le_or
    have hb : b ≤ a ||| b := Nat.right_le_or
    omega
  · rintro ⟨rfl, rfl⟩; rfl
theorem xor_zero {a b : Nat} : a ^^^ b = 0 ↔ a = b := by
  constructor
  · intro h
    have : (a ^^^ b) ^^^ b = 0 ^^^ b := by rw [h]
    rw [Nat.xor_assoc, Nat.xor_self, Nat.xor_zero, Nat.zero_xor] at this
    exact this
  · rintro rfl; exact Nat.xor_self a
theorem difF_zero (f g : Nat → Nat) (d k : Nat) : difF f g d k = 0 ↔ d = 0 ∧ ∀ i, i < k → f i = g i := by
  induction k with
  | zero => exact ⟨fun h => ⟨h, fun i hi => absurd hi (by omega)⟩, fun h => h.1⟩
  | succ k ih =>
    show difF f g d k ||| (f k ^^^ g k) = 0 ↔ _
    rw [or_zero, xor_zero, ih]
    constructor
    · rintro ⟨⟨h0, h1⟩, h2⟩
      refine ⟨h0, fun i hi => ?_⟩
      by_cases e : i = k
      · rw [e]; exact h2
      · exact h1 i (by omega)
    · rintro ⟨h0, h1⟩
      exact ⟨⟨h0, fun i hi => h1 i (by omega)⟩, h1 k (by omega)⟩
theorem eqI_long (a b : Option Addr) (n m c d : Nat) (h : 65536 < n ∨ 65536 < m) (w : World) :
    Calls Tryd.prog 29 #[.slice a n c, .slice b m d] w fun e w' => e = .returned (.tuple #[.bool false, .int .i64 2]) ∧ Below w.heap.size w w' := by
  by_cases h1 : 65536 < n
  · have e1 : (65536 : Int) < n := by omega
    go_enter Tryd.func29, Tryd.ntmps29
    go_wp2
    go_ret2
    exact ⟨rfl, Below.refl _ _⟩
  · have e1 : ¬ (65536 : Int) < n := by omega
    have e3 : (65536 : Int) < m := by omega
    go_enter Tryd.func29, Tryd.ntmps29
    go_wp2
    go_ret2
    exact ⟨rfl, Below.refl _ _⟩
theorem eqI_ne (a b : Option Addr) (n m c d : Nat) (h1 : n ≤ 65536) (h2 : m ≤ 65536) (h : n ≠ m) (w : World) :
    Calls Tryd.prog 29 #[.slice a n c, .slice b m d] w fun e w' => e = .returned (.tuple #[.bool false, .int .i64 0]) ∧ Below w.heap.size w w' := by
  have e1 : ¬ (65536 : Int) < n := by omega
  have e2 : ¬ (65536 : Int) < m := by omega
  have e3 : ((n : Int) != (m : Int)) = true := by simp; omega
  go_enter Tryd.func29, Tryd.ntmps29
  go_wp2
  go_ret2
  exact ⟨rfl, Below.refl _ _⟩
set_option maxRecDepth 100000 in
set_option maxHeartbeats 1000000 in
theorem eqI_same (a b : Option Addr) (n c d : Nat) (f g : Nat → Nat) (hf : ∀ i, f i < 256) (hg : ∀ i, g i < 256) (hn : n ≤ 65536) (w : World) (h : Code8 w a n f) (h' : Code8 w b n g) :
    Calls Tryd.prog 29 #[.slice a n c, .slice b n d] w fun e w' => e = .returned (.tuple #[.bool (((difF f g 0 n : Nat) : Int) == 0), .int .i64 0]) ∧ Below w.heap.size w w' := by
  have e1 : ¬ (65536 : Int) < n := by omega
  have e3 : ((n : Int) != (n : Int)) = false := by simp
  have HC : Hid (Code8 w a n f) := h
  have HD : Hid (Code8 w b n g) := h'
  have HF : Hid (∀ i, f i < 256) := hf
  have HG : Hid (∀ i, g i < 256) := hg
  clear h h' hf hg
  go_enter Tryd.func29, Tryd.ntmps29
  go_wp2
  go_loopw [6, 7, 23] (fun s _ i wr => ∃ k : Nat, k ≤ n ∧ i = .int .i64 k ∧ s = .int .u8 ((difF f g 0 k : Nat) : Int) ∧ Below w.heap.size w wr) (fun _ _ i _ => n - (intOf i).toNat)
  case atStart => exact ⟨0, by omega, rfl, rfl, Below.refl _ _⟩
  case round =>
    obtain ⟨k, hk, rfl, rfl, hb⟩ := hrel
    have HB : Hid (Below w.heap.size w wr) := hb
    by_cases hlt : k < n
    · have hlt' : (k : Int) < (n : Int) := by omega
      obtain ⟨b1, o1, rfl, hc⟩ := HC.out.opened (by omega)
      obtain ⟨b2, o2, rfl, hd⟩ := HD.out.opened (by omega)
      have c1 : wr.cell? ⟨b1, o1 + k, none⟩ = some (.int .u8 (f k : Nat)) := by rw [hb.cell (strBlock (hc k hlt))]; exact hc k hlt
      have c2 : wr.cell? ⟨b2, o2 + k, none⟩ = some (.int .u8 (g k : Nat)) := by rw [hb.cell (strBlock (hd k hlt))]; exact hd k hlt
      have x1 := e8_xor (f k) (g k) (HF.out k) (HG.out k)
      have x2 := e8_or (difF f g 0 k) (f k ^^^ g k) (difF_lt HF.out HG.out (by omega) k) (Nat.xor_lt_two_pow (n := 8) (HF.out k) (HG.out k))
      have EN : Hid (difF f g 0 (k + 1) = difF f g 0 k ||| (f k ^^^ g k)) := rfl
      generalize difF f g 0 k ||| (f k ^^^ g k) = D1 at *
      generalize difF f g 0 k = D0 at *
      generalize f k ^^^ g k = XX at *
      generalize f k = u at *
      generalize g k = v at *
      clear hb hc hd
      go_wp2_with fail
      go_quiet (fail)
      go_wp2
      go_roundw
      case rel => exact ⟨k + 1, by omega, by go_num, numEq8 (by rw [EN.out]), below_drewN8 HB.out _⟩
      case measure => simp [intOf]; omega
    · obtain rfl : k = n := by omega
      have hlt' : ¬ (k : Int) < (k : Int) := by omega
      generalize hD : difF f g 0 k = D0 at *
      have HD0 : Hid (difF f g 0 k = D0) := hD
      clear hb hD
      go_wp2
      go_ret2
      exact ⟨by rw [HD0.out]; rfl, HB.out⟩
end Go.Proofs.YtonccbgolbcjfabDoor
