/-
  Contracts of the byte functions of the program and of the model: doubling, products, inverses, the test of a byte: each returns what the plain functions of YtonccbgolbcjfabDoorGf compute, for all bytes, and leaves the world as it was.
-/
import Derived.Test.YtonccbgolbcjfabDoorRows
import Derived.Test.YtonccbgolbcjfabDoorGf
import Derived.WalkKit
import Derived.ProofKit
import Derived.OpenShut
import Derived.ShutString
import Derived.Laws.BitsAllLaws
import Derived.Test.YtonccbgolbcjfabDoorBytes
import Derived.Test.YtonccbgolbcjfabDoorArr
namespace Go.Proofs.YtonccbgolbcjfabDoor
open Go.ChangeShapes Go.WideShapes Go.ChangeAt Go.RowKit

theorem i64_xor_nat (a b : Nat) (ha : a < 65536) (hb : b < 65536) : bits .xor .i64 (a : Int) (b : Int) = ((a ^^^ b : Nat) : Int) := by
  have hx : a ^^^ b < 2 ^ 16 := Nat.xor_lt_two_pow (by omega) (by omega)
  show IntKind.i64.wrap ((BitVec.ofInt 64 (a : Int) ^^^ BitVec.ofInt 64 (b : Int)).toNat : Int) = _
  rw [BitVec.toNat_xor, BitVec.ofInt_natCast, BitVec.toNat_ofNat, BitVec.ofInt_natCast, BitVec.toNat_ofNat, Nat.mod_eq_of_lt (by omega), Nat.mod_eq_of_lt (by omega)]
  simp [IntKind.wrap, IntKind.bits, IntKind.signed]
  omega
theorem i64_and1_nat (a : Nat) (ha : a < 65536) : bits .and .i64 (a : Int) 1 = ((a % 2 : Nat) : Int) := by
  have hx : a &&& 1 = a % 2 := Nat.and_one_is_mod a
  show IntKind.i64.wrap ((BitVec.ofInt 64 (a : Int) &&& BitVec.ofInt 64 ((1 : Nat) : Int)).toNat : Int) = _
  rw [BitVec.toNat_and, BitVec.ofInt_natCast, BitVec.toNat_ofNat, BitVec.ofInt_natCast, BitVec.toNat_ofNat, Nat.mod_eq_of_lt (by omega), Nat.mod_eq_of_lt (by omega), hx]
  simp [IntKind.wrap, IntKind.bits, IntKind.signed]
  omega
theorem u8_and1_nat (a : Nat) (ha : a < 256) : bits .and .u8 (a : Int) 1 = ((a % 2 : Nat) : Int) := by
  have := u8_and_nat a 1 ha (by omega)
  rw [Nat.and_one_is_mod] at this
  exact this
theorem ret_int {k : IntKind} {a b : Int} (h : a = b) : Ending.returned (.int k a) = .returned (.int k b) := by rw [h]
theorem val_int {k : IntKind} {a b : Int} (h : a = b) : Value.int k a = .int k b := by rw [h]
theorem cast_div (b k : Nat) : (b : Int) / 2 ^ k = ((b / 2 ^ k : Nat) : Int) := by simp
theorem and_yes {b k : Nat} (hb : b < 256) (h : (bits BinOp.and IntKind.i64 ((b : Int) / 2 ^ k) 1 == 1) = true) : b / 2 ^ k % 2 = 1 := by
  have hl : b / 2 ^ k < 65536 := Nat.lt_of_le_of_lt (Nat.div_le_self _ _) (by omega)
  rw [cast_div, i64_and1_nat _ hl] at h
  generalize b / 2 ^ k = B at *
  rcases Nat.mod_two_eq_zero_or_one B with e | e <;> rw [e] at h ⊢ <;> simp at h
theorem and_no {b k : Nat} (hb : b < 256) (h : (bits BinOp.and IntKind.i64 ((b : Int) / 2 ^ k) 1 == 1) = false) : b / 2 ^ k % 2 = 0 := by
  have hl : b / 2 ^ k < 65536 := Nat.lt_of_le_of_lt (Nat.div_le_self _ _) (by omega)
  rw [cast_div, i64_and1_nat _ hl] at h
  generalize b / 2 ^ k = B at *
  rcases Nat.mod_two_eq_zero_or_one B with e | e <;> rw [e] at h ⊢ <;> simp at h
theorem dbl_yes (A : Nat) (hA : A < 256) (h : (255 : Int) < A * 2) : bits BinOp.xor IntKind.i64 ((A : Int) * 2) 283 = ((Gf.dbl A : Nat) : Int) := by
  have := i64_xor_nat (A * 2) 283 (by omega) (by omega)
  unfold Gf.dbl
  rw [if_pos (by omega)]
  exact this
theorem dbl_no (A : Nat) (h : (A : Int) * 2 ≤ 255) : (A : Int) * 2 = ((Gf.dbl A : Nat) : Int) := by
  unfold Gf.dbl
  rw [if_neg (by omega)]
  rfl

/-- spec.l01Mul -/
theorem mul_any (a b : Nat) (h1 : a < 256) (h3 : b < 256) (w : World) :
    Calls Tryd.prog 58 #[.int .i64 a, .int .i64 b] w fun e w' => e = .returned (.int .i64 (Gf.mul a b : Nat)) ∧ w' = w := by
  go_enter Tryd.func58, Tryd.ntmps58
  go_wp2
  go_loop [0, 5, 6] (fun x o i => ∃ k : Nat, k ≤ 8 ∧ i = .int .i64 k ∧ x = .int .i64 ((Gf.mulTo k a b).1 : Nat) ∧ o = .int .i64 ((Gf.mulTo k a b).2 : Nat)) (fun _ _ i => 8 - (intOf i).toNat)
  case atStart => exact ⟨0, by omega, rfl, rfl, rfl⟩
  case round =>
    obtain ⟨k, hk, rfl, rfl, rfl⟩ := hrel
    have hl := Gf.mulTo_lt k a b h1
    have e1 := Gf.mulTo_fst k a b
    have e2 := Gf.mulTo_yes k a b
    have e3 := Gf.mulTo_no k a b
    have E1 : Hid ((Gf.mulTo (k + 1) a b).1 = Gf.dbl (Gf.mulTo k a b).1) := e1
    have E2 : Hid (b / 2 ^ k % 2 = 1 → (Gf.mulTo (k + 1) a b).2 = (Gf.mulTo k a b).2 ^^^ (Gf.mulTo k a b).1) := e2
    have E3 : Hid (b / 2 ^ k % 2 = 0 → (Gf.mulTo (k + 1) a b).2 = (Gf.mulTo k a b).2) := e3
    have E4 : Hid (k = 8 → (Gf.mulTo k a b).2 = Gf.mul a b) := by intro h; subst h; rfl
    clear e1 e2 e3
    generalize (Gf.mulTo k a b).1 = A at *
    generalize (Gf.mulTo k a b).2 = O at *
    obtain ⟨hA, hO⟩ := hl
    by_cases hlt : k < 8
    · go_wp2
      all_goals
        go_round
        case rel =>
          refine ⟨k + 1, by omega, by go_num, val_int ?_, val_int ?_⟩
          · rw [E1.out]; first | exact dbl_yes A hA (by assumption) | exact dbl_no A (by assumption)
          · first | (rw [E2.out (and_yes h3 (by assumption))]; exact i64_xor_nat O A (by omega) (by omega)) | (rw [E3.out (and_no h3 (by assumption))])
        case measure => simp [intOf]; omega
    · go_wp2
      go_ret
      exact ⟨ret_int (by rw [E4.out (by omega)]), rfl⟩

/-- impl.double -/
theorem double_any (a : Nat) (h1 : a < 256) (w : World) :
    Calls Tryd.prog 81 #[.int .u8 a] w fun e w' => e = .returned (.int .u8 (Gf.dbl a : Nat)) ∧ w' = w := by
  have E : Hid (bits BinOp.xor IntKind.u8 ((a : Int) * 2 % 256) ((a : Int) / 128 * 27) = ((Gf.dbl a : Nat) : Int)) := by
    have := u8_xor_nat (a * 2 % 256) (a / 128 * 27) (by omega) (by omega)
    rw [← Gf.dblB_eq_fin a h1]
    exact this
  go_enter Tryd.func81, Tryd.ntmps81
  go_wp2
  go_ret
  exact ⟨ret_int E.out, rfl⟩

end Go.Proofs.YtonccbgolbcjfabDoor

/-
  The contract of impl.added: two states are summed byte by byte.
-/
namespace Go.Proofs.YtonccbgolbcjfabDoor
open Go.ChangeShapes Go.WideShapes Go.ChangeAt Go.RowKit
theorem Tryd.sizeSt : (Tryd.prog.info? 77).map (·.size) = some 16 := by kernel_rfl
theorem idxSt {f : Nat → Nat} {k : Nat} (h : k < 16) (w : World) : (Instr.index 77 (.agg (bA 16 f)) (.int .i64 (k : Int))).run Tryd.prog w = .ok (.int .u8 (f k : Nat)) w :=
  run_index_flat Tryd.underlying77 Tryd.underlying5 rfl (by kernel_rfl) h (bA_at h) w
set_option maxRecDepth 100000 in
theorem added_any (f g : Nat → Nat) (hf : ∀ i, i < 16 → f i < 256) (hg : ∀ i, i < 16 → g i < 256) (w : World) :
    Calls Tryd.prog 73 #[.agg (bA 16 f), .agg (bA 16 g)] w fun e w' => e = .returned (.agg (bA 16 (fun i => f i ^^^ g i))) ∧ Below w.heap.size w w' := by
  have HF : Hid (∀ i, i < 16 → f i < 256) := hf
  have HG : Hid (∀ i, i < 16 → g i < 256) := hg
  clear hf hg
  have R0 : Hid (Row8 ((w.alloc (.cells (bA 16 f) 77)).alloc (.cells (bA 16 g) 77)) (w.heap.size + 1) 77 16 g) := Row8.boxedAt (by simp) _ _ _
  go_enter Tryd.func73, Tryd.ntmps73
  go_wp2_with (refine wpList_load_mid rfl 77 (.tmp 3) rfl (w.heap.size + 1) 0 rfl (bv 16 g) _ (R0.out.alloc _).range Tryd.underlying77 rfl (by rw [bv_length]; exact Tryd.sizeSt) ?_)
  have Z' : Hid (Row8 (((w.alloc (.cells (bA 16 f) 77)).alloc (.cells (bA 16 g) 77)).alloc (.cells z16 77)) (w.heap.size + 1 + 1) 77 16 (fun _ => 0)) := Row8.z16At (by simp) _
  have R3' : Hid (Row8 (((w.alloc (.cells (bA 16 f) 77)).alloc (.cells (bA 16 g) 77)).alloc (.cells z16 77)) w.heap.size 77 16 f) := ((Row8.boxedAt rfl _ _ _).alloc _).alloc _
  have B3 : Hid (Below w.heap.size w (((w.alloc (.cells (bA 16 f) 77)).alloc (.cells (bA 16 g) 77)).alloc (.cells z16 77))) := (((Below.refl _ _).alloc (Nat.le_refl _) _).alloc (by simp) _).alloc (by simp; omega) _
  clear R0
  unfold z16 at Z' R3' B3
  generalize ((w.alloc (.cells (bA 16 f) 77)).alloc (.cells (bA 16 g) 77)).alloc (.cells #[.int .u8 0, .int .u8 0, .int .u8 0, .int .u8 0, .int .u8 0, .int .u8 0, .int .u8 0, .int .u8 0, .int .u8 0, .int .u8 0, .int .u8 0, .int .u8 0, .int .u8 0, .int .u8 0, .int .u8 0, .int .u8 0] 77) = wz at *
  have eA : (bv 16 g).toArray = bA 16 g := rfl
  rw [eA]
  clear eA
  go_loopw [5, 6, 8] (fun _ _ i wr => ∃ k : Nat, k ≤ 16 ∧ i = .int .i64 k ∧ Row8 wr w.heap.size 77 16 (fun j => if j < k then f j ^^^ g j else f j) ∧ Row8 wr (w.heap.size + 1 + 1) 77 16 (fun _ => 0) ∧ Below w.heap.size w wr) (fun _ _ i _ => 16 - (intOf i).toNat)
  case atStart => exact ⟨0, by omega, rfl, R3'.out.congr (fun j hj => by simp), Z'.out, B3.out⟩
  case round =>
    obtain ⟨k, hk, rfl, hr, hz, hb⟩ := hrel
    have HR : Hid (Row8 wr w.heap.size 77 16 (fun j => if j < k then f j ^^^ g j else f j)) := hr
    have HZ : Hid (Row8 wr (w.heap.size + 1 + 1) 77 16 (fun _ => 0)) := hz
    have HB : Hid (Below w.heap.size w wr) := hb
    by_cases hlt : k < 16
    · have c1 := World.rowIs.cell hr hlt
      have f1 := World.rowIs.frozen hr k
      simp only [Nat.lt_irrefl, if_false] at c1
      have ix := idxSt (f := g) hlt
      have lf := HF.out k hlt
      have lg := HG.out k hlt
      have ex : bits .xor .u8 (f k : Int) (g k : Int) = ((f k ^^^ g k : Nat) : Int) := u8_xor_nat _ _ lf lg
      clear hr hz hb Z' R3' B3
      go_wp2
      go_roundw
      case rel =>
        refine ⟨k + 1, by omega, by go_num, ?_, HZ.out.other (by show w.heap.size + 1 + 1 ≠ w.heap.size; omega) _, HB.out.setCell (by exact Nat.le_refl _) _⟩
        exact (HR.out.set k (f k ^^^ g k)).congr (fun j hj => by
          by_cases e : j = k
          · subst e; simp
          · simp only [if_neg e]
            by_cases h1 : j < k
            · rw [if_pos h1, if_pos (by omega)]
            · rw [if_neg h1, if_neg (by omega)])
      case measure => simp [intOf]; omega
    · have HR' : Hid (Row8 wr w.heap.size 77 16 (fun j => f j ^^^ g j)) := hr.congr (fun j hj => by rw [if_pos (by omega)])
      clear hr hz hb Z' R3' B3 HR
      go_wp2_with (first
        | (refine wpList_load_mid rfl 77 (.tmp 2) rfl w.heap.size 0 rfl (bv 16 (fun j => f j ^^^ g j)) _ HR'.out.range Tryd.underlying77 rfl (by rw [bv_length]; exact Tryd.sizeSt) ?_)
        | (refine wpList_store_mid rfl 77 (.tmp 4) (.tmp 19) rfl (w.heap.size + 1 + 1) 0 (bA 16 (fun j => f j ^^^ g j)) rfl rfl (by rw [bA_size]; exact HZ.out.there) (by rw [bA_size]; exact Tryd.sizeSt) (bA_one _ _) ?_))
      rw [bA_toList]
      have L : (loadVar 77 ⟨w.heap.size + 1 + 1, 0, none⟩).run Tryd.prog (wr.setCells (w.heap.size + 1 + 1) 0 (bv 16 (fun j => f j ^^^ g j))) = .ok (.agg (bA 16 (fun j => f j ^^^ g j))) (wr.setCells (w.heap.size + 1 + 1) 0 (bv 16 (fun j => f j ^^^ g j))) := (HZ.out.stored _).load Tryd.underlying77 rfl Tryd.sizeSt
      have B : Below w.heap.size w (wr.setCells (w.heap.size + 1 + 1) 0 (bv 16 (fun j => f j ^^^ g j))) := below_setCells (by omega) _ _ _ HB.out
      exact bodyPost_ret (v := .agg (bA 16 (fun j => f j ^^^ g j))) (results_cell_one (b := w.heap.size + 1 + 1) (o := 0) Tryd.results73 _ _ _ rfl L) rfl ⟨rfl, B⟩
end Go.Proofs.YtonccbgolbcjfabDoor

/-
  What an index of a column (an array of four bytes, as a value) is.
-/
namespace Go.Proofs.YtonccbgolbcjfabDoor
open Go.ChangeShapes Go.WideShapes Go.ChangeAt Go.RowKit
theorem Tryd.sizeU8 : (Tryd.prog.info? 5).map (·.size) = some 1 := by kernel_rfl
theorem idx0 (x0 x1 x2 x3 : Int) (w : World) : (Instr.index 118 (.agg #[.int .u8 x0, .int .u8 x1, .int .u8 x2, .int .u8 x3]) (.int .i64 0)).run Tryd.prog w = .ok (.int .u8 x0) w := run_index_flat (k := 0) Tryd.underlying118 Tryd.underlying5 rfl Tryd.sizeU8 (by omega) rfl w
theorem idx1 (x0 x1 x2 x3 : Int) (w : World) : (Instr.index 118 (.agg #[.int .u8 x0, .int .u8 x1, .int .u8 x2, .int .u8 x3]) (.int .i64 1)).run Tryd.prog w = .ok (.int .u8 x1) w := run_index_flat (k := 1) Tryd.underlying118 Tryd.underlying5 rfl Tryd.sizeU8 (by omega) rfl w
theorem idx2 (x0 x1 x2 x3 : Int) (w : World) : (Instr.index 118 (.agg #[.int .u8 x0, .int .u8 x1, .int .u8 x2, .int .u8 x3]) (.int .i64 2)).run Tryd.prog w = .ok (.int .u8 x2) w := run_index_flat (k := 2) Tryd.underlying118 Tryd.underlying5 rfl Tryd.sizeU8 (by omega) rfl w
theorem idx3 (x0 x1 x2 x3 : Int) (w : World) : (Instr.index 118 (.agg #[.int .u8 x0, .int .u8 x1, .int .u8 x2, .int .u8 x3]) (.int .i64 3)).run Tryd.prog w = .ok (.int .u8 x3) w := run_index_flat (k := 3) Tryd.underlying118 Tryd.underlying5 rfl Tryd.sizeU8 (by omega) rfl w
end Go.Proofs.YtonccbgolbcjfabDoor

/-
  Contracts of the substitutes of bytes in the program and in the model (turned bits, the spread and the gathering of bits, SubByte): each returns what plain functions of numbers compute, for all bytes, and leaves the world as it was.
-/
namespace Go.Proofs.YtonccbgolbcjfabDoor
open Go.ChangeShapes Go.WideShapes Go.ChangeAt Go.RowKit

namespace Gf
def rotl (a n : Nat) : Nat := (a * 2 ^ n % 256) ||| (a / 2 ^ (8 - n))
def spTo : Nat → Nat → Nat
  | 0, a => a ^^^ 99
  | k + 1, a => spTo k a ^^^ rotl a (k + 1)
/-- The spread of a byte's bits, and 0x63. -/
def spread (a : Nat) : Nat := spTo 4 a
def gather (a : Nat) : Nat := ((rotl a 1 ^^^ rotl a 3) ^^^ rotl a 6) ^^^ 5
def rot1 (x : Nat) : Nat := x * 2 % 256 + x / 128
def affTo : Nat → Nat → Nat × Nat
  | 0, a => (a, a ^^^ 99)
  | k + 1, a => (rot1 (affTo k a).1, (affTo k a).2 ^^^ rot1 (affTo k a).1)
theorem aff_eq : ∀ a, a < 256 → (affTo 4 a).2 = spread a := by decide +kernel
theorem rot1_lt (x : Nat) (h : x < 256) : rot1 x < 256 := by unfold rot1; omega
theorem or_lt {a b : Nat} (ha : a < 256) (hb : b < 256) : a ||| b < 256 := Nat.or_lt_two_pow (n := 8) ha hb
theorem rotl_lt (x n : Nat) (h : x < 256) : rotl x n < 256 := or_lt (by omega) (Nat.lt_of_le_of_lt (Nat.div_le_self _ _) h)
theorem affTo_lt (k a : Nat) (h : a < 256) : (affTo k a).1 < 256 ∧ (affTo k a).2 < 256 := by
  induction k with
  | zero => exact ⟨h, xor_lt h (by omega)⟩
  | succ k ih => exact ⟨rot1_lt _ ih.1, xor_lt ih.2 (rot1_lt _ ih.1)⟩
theorem spTo_lt (k a : Nat) (h : a < 256) : spTo k a < 256 := by
  induction k with
  | zero => exact xor_lt h (by omega)
  | succ k ih => exact xor_lt ih (rotl_lt _ _ h)
theorem spread_lt (a : Nat) (h : a < 256) : spread a < 256 := spTo_lt 4 a h
theorem gather_lt (a : Nat) (h : a < 256) : gather a < 256 := xor_lt (xor_lt (xor_lt (rotl_lt _ _ h) (rotl_lt _ _ h)) (rotl_lt _ _ h)) (by omega)
/-- The substitute of a byte, and that whose substitute it is. -/
def sub (a : Nat) : Nat := spread (inv a)
def unsub (a : Nat) : Nat := inv (gather a)
theorem sub_lt (a : Nat) (h : a < 256) : sub a < 256 := spread_lt _ (inv_lt a h)
theorem unsub_lt (a : Nat) (h : a < 256) : unsub a < 256 := inv_lt _ (gather_lt a h)
end Gf

theorem rot_end (a m d : Nat) (ha : a < 256) : bits BinOp.or IntKind.u8 ((a : Int) * m % 256) ((a : Int) / d) = ((a * m % 256 ||| a / d : Nat) : Int) := by
  have := u8_or_nat (a * m % 256) (a / d) (by omega) (Nat.lt_of_le_of_lt (Nat.div_le_self _ _) ha)
  rw [← this]
  congr 1
/-- math/bits.RotateLeft8, at the counts that are met. -/
theorem rot_any (a n : Nat) (ha : a < 256) (h : n = 1 ∨ n = 2 ∨ n = 3 ∨ n = 4 ∨ n = 6) (w : World) :
    Calls Tryd.prog 90 #[.int .u8 a, .int .i64 n] w fun e w' => e = .returned (.int .u8 (Gf.rotl a n : Nat)) ∧ w' = w := by
  have e1 : bits BinOp.and IntKind.u64 1 7 = 1 := by decide
  have e2 : bits BinOp.and IntKind.u64 2 7 = 2 := by decide
  have e3 : bits BinOp.and IntKind.u64 3 7 = 3 := by decide
  have e4 : bits BinOp.and IntKind.u64 4 7 = 4 := by decide
  have e6 : bits BinOp.and IntKind.u64 6 7 = 6 := by decide
  rcases h with rfl | rfl | rfl | rfl | rfl
  · go_enter Tryd.func90, Tryd.ntmps90
    go_wp2
    go_ret
    exact ⟨ret_int (rot_end a 2 128 ha), rfl⟩
  · go_enter Tryd.func90, Tryd.ntmps90
    go_wp2
    go_ret
    exact ⟨ret_int (rot_end a 4 64 ha), rfl⟩
  · go_enter Tryd.func90, Tryd.ntmps90
    go_wp2
    go_ret
    exact ⟨ret_int (rot_end a 8 32 ha), rfl⟩
  · go_enter Tryd.func90, Tryd.ntmps90
    go_wp2
    go_ret
    exact ⟨ret_int (rot_end a 16 16 ha), rfl⟩
  · go_enter Tryd.func90, Tryd.ntmps90
    go_wp2
    go_ret
    exact ⟨ret_int (rot_end a 64 4 ha), rfl⟩
/-- impl.spreadBits -/
theorem spreadBits_any (a : Nat) (ha : a < 256) (w : World) :
    Calls Tryd.prog 82 #[.int .u8 a] w fun e w' => e = .returned (.int .u8 (Gf.spread a : Nat)) ∧ w' = w := by
  have E0 : Hid (bits BinOp.xor IntKind.u8 (a : Int) 99 = ((Gf.spTo 0 a : Nat) : Int)) := u8_xor_nat a 99 ha (by omega)
  go_enter Tryd.func82, Tryd.ntmps82
  go_wp2
  go_loop [3, 4] (fun o i => ∃ k : Nat, k ≤ 4 ∧ i = .int .i64 (k + 1 : Nat) ∧ o = .int .u8 (Gf.spTo k a : Nat)) (fun _ i => 5 - (intOf i).toNat)
  case atStart => exact ⟨0, by omega, rfl, val_int E0.out⟩
  case round =>
    obtain ⟨k, hk, rfl, rfl⟩ := hrel
    have hl := Gf.spTo_lt k a ha
    have hr := Gf.rotl_lt a (k + 1) ha
    have E1 : Hid (Gf.spTo (k + 1) a = Gf.spTo k a ^^^ Gf.rotl a (k + 1)) := rfl
    have E2 : Hid (k = 4 → Gf.spTo k a = Gf.spread a) := by intro h; subst h; rfl
    generalize Gf.spTo k a = O at *
    by_cases hlt : k < 4
    · have hn : Hid (k + 1 = 1 ∨ k + 1 = 2 ∨ k + 1 = 3 ∨ k + 1 = 4 ∨ k + 1 = 6) := by show _ ∨ _; omega
      go_wp2_with fail
      refine (rot_any a (k + 1) ha hn.out _).mono ?_; rintro e w' ⟨rfl, rfl⟩
      generalize Gf.rotl a (k + 1) = R at *
      go_wp2_with fail
      go_round
      case rel => exact ⟨k + 1, by omega, by go_num, val_int (by rw [E1.out]; exact u8_xor_nat O R hl hr)⟩
      case measure => simp [intOf]; omega
    · go_wp2
      go_ret
      exact ⟨ret_int (by rw [E2.out (by omega)]), rfl⟩
/-- spec.l01Affine -/
theorem affine_any (a : Nat) (ha : a < 256) (w : World) :
    Calls Tryd.prog 57 #[.int .i64 a] w fun e w' => e = .returned (.int .i64 (Gf.spread a : Nat)) ∧ w' = w := by
  have E0 : Hid (bits BinOp.xor IntKind.i64 (a : Int) 99 = (((Gf.affTo 0 a).2 : Nat) : Int)) := i64_xor_nat a 99 (by omega) (by omega)
  go_enter Tryd.func57, Tryd.ntmps57
  go_wp2
  go_loop [0, 3, 4] (fun x o i => ∃ k : Nat, k ≤ 4 ∧ i = .int .i64 k ∧ x = .int .i64 ((Gf.affTo k a).1 : Nat) ∧ o = .int .i64 ((Gf.affTo k a).2 : Nat)) (fun _ _ i => 4 - (intOf i).toNat)
  case atStart => exact ⟨0, by omega, rfl, rfl, val_int E0.out⟩
  case round =>
    obtain ⟨k, hk, rfl, rfl, rfl⟩ := hrel
    have hl := Gf.affTo_lt k a ha
    have E1 : Hid ((Gf.affTo (k + 1) a).1 = Gf.rot1 (Gf.affTo k a).1) := rfl
    have E3 : Hid ((Gf.affTo (k + 1) a).2 = (Gf.affTo k a).2 ^^^ Gf.rot1 (Gf.affTo k a).1) := rfl
    have E2 : Hid (k = 4 → (Gf.affTo k a).2 = Gf.spread a) := by intro h; subst h; exact Gf.aff_eq a ha
    generalize (Gf.affTo k a).1 = A at *
    generalize (Gf.affTo k a).2 = O at *
    obtain ⟨hA, hO⟩ := hl
    by_cases hlt : k < 4
    · have hR : A * 2 % 256 + A / 128 < 256 := by omega
      go_wp2
      go_round
      case rel => exact ⟨k + 1, by omega, by go_num, val_int (by rw [E1.out]; rfl), val_int (by rw [E3.out]; exact i64_xor_nat O (A * 2 % 256 + A / 128) (by omega) (by omega))⟩
      case measure => simp [intOf]; omega
    · go_wp2
      go_ret
      exact ⟨ret_int (by rw [E2.out (by omega)]), rfl⟩
end Go.Proofs.YtonccbgolbcjfabDoor
