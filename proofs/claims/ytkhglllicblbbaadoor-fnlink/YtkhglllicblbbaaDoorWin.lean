/-
  Windows: the flags of a link as the bits of one number, and the program's functions on them.
-/
import Derived.Test.YtkhglllicblbbaaDoorBoolB
import Derived.Laws.Shifts
namespace Go.Proofs.YtkhglllicblbbaaDoor
open Go.ChangeShapes Go.WideShapes Go.ChangeAt Go.RowKit
set_option linter.unusedVariables false


/-- The flags of a window as one number. -/
def winN (f : Nat → Bool) : Nat → Nat
  | 0 => 0
  | k + 1 => if f k then winN f k ||| 2 ^ k else winN f k
theorem winN_bit (f : Nat → Bool) : ∀ k i, (winN f k).testBit i = (decide (i < k) && f i)
  | 0, i => by simp [winN]
  | k + 1, i => by
    have ih := winN_bit f k i
    unfold winN
    by_cases hf : f k = true
    · rw [if_pos hf, Nat.testBit_or, ih, Nat.testBit_two_pow]
      by_cases e : k = i
      · subst e; simp [hf]
      · have : decide (i < k + 1) = decide (i < k) := by simp; omega
        rw [this]; simp [e]
    · rw [if_neg hf, ih]
      by_cases e : i = k
      · subst e; simp [hf]
      · have : decide (i < k + 1) = decide (i < k) := by simp; omega
        rw [this]
theorem winN_lt (f : Nat → Bool) (k : Nat) : winN f k < 2 ^ k := by
  apply Nat.lt_pow_two_of_testBit
  intro i hi
  rw [winN_bit]; simp; omega
theorem has_bit (x i : Nat) (hx : x < 2 ^ 32) : (x / 2 ^ min i 32) % 2 = if x.testBit i then 1 else 0 := by
  rcases Nat.lt_or_ge i 32 with h | h
  · rw [Nat.min_eq_left (by omega), Nat.testBit_eq_decide_div_mod_eq]
    have := Nat.mod_two_eq_zero_or_one (x / 2 ^ i)
    rcases this with e | e <;> simp [e]
  · rw [Nat.min_eq_right h, Nat.div_eq_of_lt hx, Nat.testBit_lt_two_pow (Nat.lt_of_lt_of_le hx (Nat.pow_le_pow_right (by omega) h))]
    simp
theorem shr_zero (x t : Nat) (hx : x < 2 ^ 32) : x / 2 ^ min t 32 = 0 ↔ ∀ i, t ≤ i → x.testBit i = false := by
  rw [Nat.div_eq_zero_iff]
  constructor
  · rintro (h | h) i hi
    · exact absurd h (Nat.pos_iff_ne_zero.1 (Nat.two_pow_pos _))
    · exact Nat.testBit_lt_two_pow (Nat.lt_of_lt_of_le h (Nat.pow_le_pow_right (by omega) (by omega)))
  · intro h
    right
    apply Nat.lt_pow_two_of_testBit
    intro i hi
    rcases Nat.lt_or_ge i t with g | g
    · have : 32 ≤ i := by omega
      exact Nat.testBit_lt_two_pow (Nat.lt_of_lt_of_le hx (Nat.pow_le_pow_right (by omega) this))
    · exact h i g
theorem shl_bit (x d i : Nat) : (x * 2 ^ min d 32 % 2 ^ 32).testBit i = (decide (i < 32) && decide (d ≤ i) && x.testBit (i - d)) := by
  rw [Nat.testBit_mod_two_pow, Nat.testBit_mul_two_pow]
  rcases Nat.lt_or_ge i 32 with h | h
  · rcases Nat.le_total d 32 with g | g
    · rw [Nat.min_eq_left g, Bool.and_assoc]
    · rw [Nat.min_eq_right g]
      have e1 : decide (32 ≤ i) = false := by simp; omega
      have e2 : decide (d ≤ i) = false ∨ d = 32 := by simp; omega
      rcases e2 with e2 | rfl
      · rw [e1, e2]; simp
      · rw [Bool.and_assoc]
  · have e1 : decide (i < 32) = false := by simp; omega
    rw [e1]; simp

theorem and_one (a : Nat) (ha : a < 2 ^ 32) : bits .and .u32 (a : Int) 1 = ((a % 2 : Nat) : Int) := by
  show (((BitVec.ofInt 32 (a : Int) &&& BitVec.ofInt 32 ((1 : Nat) : Int)).toNat : Int) % 4294967296) = _
  rw [BitVec.toNat_and, BitVec.ofInt_natCast, BitVec.toNat_ofNat, BitVec.ofInt_natCast, BitVec.toNat_ofNat, Nat.mod_eq_of_lt ha, Nat.mod_eq_of_lt (by decide : 1 < 2 ^ 32), Nat.and_one_is_mod]
  omega
theorem or_nat (a b : Nat) (ha : a < 2 ^ 32) (hb : b < 2 ^ 32) : bits .or .u32 (a : Int) (b : Int) = ((a ||| b : Nat) : Int) := by
  show (((BitVec.ofInt 32 (a : Int) ||| BitVec.ofInt 32 (b : Int)).toNat : Int) % 4294967296) = _
  rw [BitVec.toNat_or, BitVec.ofInt_natCast, BitVec.toNat_ofNat, BitVec.ofInt_natCast, BitVec.toNat_ofNat, Nat.mod_eq_of_lt ha, Nat.mod_eq_of_lt hb]
  have : a ||| b < 2 ^ 32 := Nat.or_lt_two_pow ha hb
  omega
theorem boolRet {a b : Bool} (h : a = b) : Ending.returned (.bool a) = .returned (.bool b) := by rw [h]
theorem has_eq (x i : Nat) (hx : x < 2 ^ 32) : (bits BinOp.and IntKind.u32 ((x : Int) / 2 ^ min i 32) 1 == 1) = x.testBit i := by
  have e : ((x : Int) / 2 ^ min i 32) = ((x / 2 ^ min i 32 : Nat) : Int) := by simp
  rw [e, and_one _ (Nat.lt_of_le_of_lt (Nat.div_le_self _ _) hx), has_bit x i hx]
  cases x.testBit i <;> rfl
theorem or_eq (f : Nat → Bool) (k : Nat) (hk : k < 32) (hf : f k = true) : bits .or .u32 ((winN f k : Nat) : Int) ((2 : Int) ^ k) = ((winN f (k + 1) : Nat) : Int) := by
  have e : ((2 : Int) ^ k) = ((2 ^ k : Nat) : Int) := by simp
  have h1 : 2 ^ k < 2 ^ 32 := Nat.pow_lt_pow_right (by omega) hk
  rw [e, or_nat _ _ (Nat.lt_trans (winN_lt f k) h1) h1]
  show _ = (((if f k then winN f k ||| 2 ^ k else winN f k) : Nat) : Int)
  rw [if_pos hf]
theorem or_eqm (f : Nat → Bool) (k : Nat) (hk : k < 32) (hf : f k = true) : bits .or .u32 ((winN f k : Nat) : Int) ((2 : Int) ^ k % 4294967296) = ((winN f (k + 1) : Nat) : Int) := by
  have e : ((2 : Int) ^ k) = ((2 ^ k : Nat) : Int) := by simp
  have h1 : 2 ^ k < 2 ^ 32 := Nat.pow_lt_pow_right (by omega) hk
  rw [← or_eq f k hk hf]
  congr 1
  rw [e]
  generalize 2 ^ k = y at *
  omega
theorem winN_skip (f : Nat → Bool) (k : Nat) (hf : f k = false) : winN f (k + 1) = winN f k := by
  show (if f k then winN f k ||| 2 ^ k else winN f k) = _
  rw [hf]; rfl
theorem has_any (x i : Nat) (hx : x < 2 ^ 32) (hi : i < 2000000) (w : World) :
    Calls Tryd.prog 74 #[.int .u32 (x : Int), .int .i64 (i : Int)] w fun e w' => e = .returned (.bool (x.testBit i)) ∧ w = w' := by
  have s1 := shift_shr_any .u32 .i64 (x : Int) (i : Int) (by omega)
  have E : Hid (_ = _) := has_eq x i hx
  go_enter Tryd.func74, Tryd.ntmps74
  go_wp2
  go_ret
  exact ⟨boolRet E.out, rfl⟩
set_option maxRecDepth 100000 in
set_option maxHeartbeats 1000000 in
theorem windowOf_any (a : Option Addr) (c : Nat) (f : Nat → Bool) (w : World) (h : Bools w a 32 f) :
    Calls Tryd.prog 70 #[.slice a 32 c] w fun e w' => e = .returned (.int .u32 ((winN f 32 : Nat) : Int)) ∧ w = w' := by
  obtain ⟨b, off, rfl, hc⟩ := h.opened (by omega)
  have HC : Hid (∀ i, i < 32 → w.cell? ⟨b, off + i, none⟩ = some (.bool (f i))) := hc
  clear h hc
  go_enter Tryd.func70, Tryd.ntmps70
  go_wp2
  go_loopw [3, 8] (fun x i wr => ∃ k : Nat, k ≤ 32 ∧ i = .int .i64 (k : Int) ∧ x = .int .u32 ((winN f k : Nat) : Int) ∧ wr = w) (fun _ i _ => 32 - (intOf i).toNat)
  case atStart => exact ⟨0, by omega, rfl, rfl, rfl⟩
  case round =>
    obtain ⟨k, hk, rfl, rfl, rfl⟩ := hrel
    by_cases hlt : k < 32
    · have c1 := HC.out k hlt
      have x0 : (0 : Int) ≤ (k : Int) := by omega
      have x1 : (k : Int) < 32 := by omega
      cases hv : f k with
      | true =>
        have E : Hid (_ = _) := or_eqm f k hlt hv
        rw [hv] at c1
        clear hv
        generalize winN f k = X at *
        go_wp2
        go_roundw
        case rel => exact ⟨k + 1, by omega, by go_num, congrArg (Value.int .u32) E.out, by trivial⟩
        case measure => simp [intOf]; omega
      | false =>
        have E : Hid (_ = _) := winN_skip f k hv
        rw [hv] at c1
        clear hv
        go_wp2
        go_roundw
        case rel => exact ⟨k + 1, by omega, by go_num, by rw [E.out], by trivial⟩
        case measure => simp [intOf]; omega
    · have E : Hid (winN f k = winN f 32) := congrArg (winN f) (show k = 32 by omega)
      have x1 : ¬ (k : Int) < 32 := by omega
      clear HC
      go_wp2
      go_ret
      exact ⟨congrArg (fun n : Nat => Ending.returned (.int .u32 (n : Int))) E.out, rfl⟩
set_option maxRecDepth 100000 in
set_option maxHeartbeats 1000000 in
theorem flags_any (x : Nat) (hx : x < 2 ^ 32) (w : World) :
    Calls Tryd.prog 65 #[.int .u32 (x : Int)] w fun e w' => e = .returned (.slice (some ⟨w.heap.size, 0, none⟩) 32 32) ∧ w'.rowIs w.heap.size 4 32 (fun i => .bool (x.testBit i)) ∧ Below w.heap.size w w' := by
  have HA : Hid (∀ (i : Nat) (w : World), i < 32 → Calls Tryd.prog 74 #[.int .u32 (x : Int), .int .i64 (i : Int)] w fun e w' => e = .returned (.bool (x.testBit i)) ∧ w = w') := fun i w hi => has_any x i hx (by omega) w
  have m1 : ∀ w : World, (Instr.makeSlice 36 (.int .i64 32) (.int .i64 32)).run Tryd.prog w = .ok (.slice (some ⟨w.heap.size, 0, none⟩) 32 32) (w.alloc (.cells (madeCells #[.bool false] 32) 4)) := mkBools 32 (by omega)
  have R0 : Hid ((w.alloc (.cells (madeCells #[.bool false] 32) 4)).rowIs w.heap.size 4 32 (fun i => .bool (if i < 0 then x.testBit i else false))) := (World.rowIs_made w (.bool false) 32 4).congr (fun j hj => by simp)
  have B0 : Hid (Below w.heap.size w (w.alloc (.cells (madeCells #[.bool false] 32) 4))) := (Below.refl _ _).alloc (Nat.le_refl _) _
  clear hx
  go_enter Tryd.func65, Tryd.ntmps65
  go_wp2
  go_loopw [8] (fun i wr => ∃ k : Nat, k ≤ 32 ∧ i = .int .i64 (k : Int) ∧ wr.rowIs w.heap.size 4 32 (fun j => .bool (if j < k then x.testBit j else false)) ∧ Below w.heap.size w wr) (fun i _ => 32 - (intOf i).toNat)
  case atStart => exact ⟨0, by omega, rfl, R0.out, B0.out⟩
  case round =>
    clear R0 B0 m1
    obtain ⟨k, hk, rfl, hrow, hb⟩ := hrel
    have HR : Hid (wr.rowIs w.heap.size 4 32 (fun j => .bool (if j < k then x.testBit j else false))) := hrow
    have HB : Hid (Below w.heap.size w wr) := hb
    by_cases hlt : k < 32
    · have c2 := hrow.cell hlt
      have f2 := hrow.frozen k
      rw [if_neg (Nat.lt_irrefl k)] at c2
      clear hrow hb
      have x0 : (0 : Int) ≤ (k : Int) := by omega
      have x1 : (k : Int) < 32 := by omega
      go_wp2_with fail
      refine (HA.out k _ hlt).mono ?_
      rintro e w1 ⟨rfl, rfl⟩
      obtain ⟨V, hV⟩ : ∃ V, V = x.testBit k := ⟨_, rfl⟩
      rw [← hV]
      have HV : Hid (V = x.testBit k) := hV
      clear hV HA
      go_wp2
      go_roundw
      case rel =>
        refine ⟨k + 1, by omega, by go_num, ?_, HB.out.setCell (by simp) _⟩
        exact (HR.out.set k _).congr (fun j hj => by
          by_cases e : j = k
          · subst e; simp [HV.out]
          · simp only [if_neg e]
            by_cases g : j < k
            · rw [if_pos g, if_pos (by omega)]
            · rw [if_neg g, if_neg (by omega)])
      case measure => simp [intOf]; omega
    · clear hrow hb HA
      go_wp2
      go_ret
      exact ⟨rfl, HR.out.congr (fun j hj => by rw [if_pos (by omega)]), HB.out⟩
end Go.Proofs.YtkhglllicblbbaaDoor
