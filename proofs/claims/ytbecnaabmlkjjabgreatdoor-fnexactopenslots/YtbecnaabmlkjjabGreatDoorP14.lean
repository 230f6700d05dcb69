/-
  Texts of the proof, joined: Added, Cols, Sub, GfPow.
-/
import Derived.Test.YtbecnaabmlkjjabGreatDoorP13
import Derived.Test.YtbecnaabmlkjjabGreatDoorP01
import Derived.Test.YtbecnaabmlkjjabGreatDoorRows
import Derived.WalkKit
import Derived.ProofKit
import Derived.OpenShut
import Derived.ShutString
import Derived.Laws.BitsAllLaws
namespace Go.Proofs.YtbecnaabmlkjjabGreatDoor
open Go.ChangeShapes Go.WideShapes Go.ChangeAt Go.RowKit
theorem Tryz.sizeSt : (Tryz.prog.info? 159).map (·.size) = some 16 := by kernel_rfl
theorem idxSt {f : Nat → Nat} {k : Nat} (h : k < 16) (w : World) : (Instr.index 159 (.agg (bA 16 f)) (.int .i64 (k : Int))).run Tryz.prog w = .ok (.int .u8 (f k : Nat)) w :=
  run_index_flat Tryz.underlying159 Tryz.underlying5 rfl (by kernel_rfl) h (bA_at h) w
set_option maxRecDepth 100000 in
theorem added_any (f g : Nat → Nat) (hf : ∀ i, i < 16 → f i < 256) (hg : ∀ i, i < 16 → g i < 256) (w : World) :
    Calls Tryz.prog 133 #[.agg (bA 16 f), .agg (bA 16 g)] w fun e w' => e = .returned (.agg (bA 16 (fun i => f i ^^^ g i))) ∧ Below w.heap.size w w' := by
  have HF : Hid (∀ i, i < 16 → f i < 256) := hf
  have HG : Hid (∀ i, i < 16 → g i < 256) := hg
  clear hf hg
  have R0 : Hid (Row8 ((w.alloc (.cells (bA 16 f) 159)).alloc (.cells (bA 16 g) 159)) (w.heap.size + 1) 159 16 g) := Row8.boxedAt (by simp) _ _ _
  go_enter Tryz.func133, Tryz.ntmps133
  go_wp2_with (refine wpList_load_mid rfl 159 (.tmp 3) rfl (w.heap.size + 1) 0 rfl (bv 16 g) _ (R0.out.alloc _).range Tryz.underlying159 rfl (by rw [bv_length]; exact Tryz.sizeSt) ?_)
  have Z' : Hid (Row8 (((w.alloc (.cells (bA 16 f) 159)).alloc (.cells (bA 16 g) 159)).alloc (.cells z16 159)) (w.heap.size + 1 + 1) 159 16 (fun _ => 0)) := Row8.z16At (by simp) _
  have R3' : Hid (Row8 (((w.alloc (.cells (bA 16 f) 159)).alloc (.cells (bA 16 g) 159)).alloc (.cells z16 159)) w.heap.size 159 16 f) := ((Row8.boxedAt rfl _ _ _).alloc _).alloc _
  have B3 : Hid (Below w.heap.size w (((w.alloc (.cells (bA 16 f) 159)).alloc (.cells (bA 16 g) 159)).alloc (.cells z16 159))) := (((Below.refl _ _).alloc (Nat.le_refl _) _).alloc (by simp) _).alloc (by simp; omega) _
  clear R0
  unfold z16 at Z' R3' B3
  generalize ((w.alloc (.cells (bA 16 f) 159)).alloc (.cells (bA 16 g) 159)).alloc (.cells #[.int .u8 0, .int .u8 0, .int .u8 0, .int .u8 0, .int .u8 0, .int .u8 0, .int .u8 0, .int .u8 0, .int .u8 0, .int .u8 0, .int .u8 0, .int .u8 0, .int .u8 0, .int .u8 0, .int .u8 0, .int .u8 0] 159) = wz at *
  have eA : (bv 16 g).toArray = bA 16 g := rfl
  rw [eA]
  clear eA
  go_loopw [5, 6, 8] (fun _ _ i wr => ∃ k : Nat, k ≤ 16 ∧ i = .int .i64 k ∧ Row8 wr w.heap.size 159 16 (fun j => if j < k then f j ^^^ g j else f j) ∧ Row8 wr (w.heap.size + 1 + 1) 159 16 (fun _ => 0) ∧ Below w.heap.size w wr) (fun _ _ i _ => 16 - (intOf i).toNat)
  case atStart => exact ⟨0, by omega, rfl, R3'.out.congr (fun j hj => by simp), Z'.out, B3.out⟩
  case round =>
    obtain ⟨k, hk, rfl, hr, hz, hb⟩ := hrel
    have HR : Hid (Row8 wr w.heap.size 159 16 (fun j => if j < k then f j ^^^ g j else f j)) := hr
    have HZ : Hid (Row8 wr (w.heap.size + 1 + 1) 159 16 (fun _ => 0)) := hz
    have HB : Hid (Below w.heap.size w wr) := hb
    by_cases hlt : k < 16
    · have c1 := World.rowIs.cell hr hlt
      have f1 := World.rowIs.frozen hr k
      simp only [Nat.lt_irrefl, if_false] at c1
      have ix := idxSt (f := g) hlt
      have lf := HF.out k hlt
      have lg := HG.out k hlt
      have ex : bits .xor .u8 (f k : Int) (g k : Int) = ((f k ^^^ g k : Nat) : Int) := u8_xor_nat _ _ lf lg
      clear hr hz hb Z' R3' B3
      go_wp2
      go_roundw
      case rel =>
        refine ⟨k + 1, by omega, by go_num, ?_, HZ.out.other (by show w.heap.size + 1 + 1 ≠ w.heap.size; omega) _, HB.out.setCell (by exact Nat.le_refl _) _⟩
        exact (HR.out.set k (f k ^^^ g k)).congr (fun j hj => by
          by_cases e : j = k
          · subst e; simp
          · simp only [if_neg e]
            by_cases h1 : j < k
            · rw [if_pos h1, if_pos (by omega)]
            · rw [if_neg h1, if_neg (by omega)])
      case measure => simp [intOf]; omega
    · have HR' : Hid (Row8 wr w.heap.size 159 16 (fun j => f j ^^^ g j)) := hr.congr (fun j hj => by rw [if_pos (by omega)])
      clear hr hz hb Z' R3' B3 HR
      go_wp2_with (first
        | (refine wpList_load_mid rfl 159 (.tmp 2) rfl w.heap.size 0 rfl (bv 16 (fun j => f j ^^^ g j)) _ HR'.out.range Tryz.underlying159 rfl (by rw [bv_length]; exact Tryz.sizeSt) ?_)
        | (refine wpList_store_mid rfl 159 (.tmp 4) (.tmp 19) rfl (w.heap.size + 1 + 1) 0 (bA 16 (fun j => f j ^^^ g j)) rfl rfl (by rw [bA_size]; exact HZ.out.there) (by rw [bA_size]; exact Tryz.sizeSt) (bA_one _ _) ?_))
      rw [bA_toList]
      have L : (loadVar 159 ⟨w.heap.size + 1 + 1, 0, none⟩).run Tryz.prog (wr.setCells (w.heap.size + 1 + 1) 0 (bv 16 (fun j => f j ^^^ g j))) = .ok (.agg (bA 16 (fun j => f j ^^^ g j))) (wr.setCells (w.heap.size + 1 + 1) 0 (bv 16 (fun j => f j ^^^ g j))) := (HZ.out.stored _).load Tryz.underlying159 rfl Tryz.sizeSt
      have B : Below w.heap.size w (wr.setCells (w.heap.size + 1 + 1) 0 (bv 16 (fun j => f j ^^^ g j))) := below_setCells (by omega) _ _ _ HB.out
      exact bodyPost_ret (v := .agg (bA 16 (fun j => f j ^^^ g j))) (results_cell_one (b := w.heap.size + 1 + 1) (o := 0) Tryz.results133 _ _ _ rfl L) rfl ⟨rfl, B⟩
end Go.Proofs.YtbecnaabmlkjjabGreatDoor
namespace Go.Proofs.YtbecnaabmlkjjabGreatDoor
open Go.ChangeShapes Go.WideShapes Go.ChangeAt Go.RowKit
theorem Tryz.sizeU8 : (Tryz.prog.info? 5).map (·.size) = some 1 := by kernel_rfl
theorem idx0 (x0 x1 x2 x3 : Int) (w : World) : (Instr.index 191 (.agg #[.int .u8 x0, .int .u8 x1, .int .u8 x2, .int .u8 x3]) (.int .i64 0)).run Tryz.prog w = .ok (.int .u8 x0) w := run_index_flat (k := 0) Tryz.underlying191 Tryz.underlying5 rfl Tryz.sizeU8 (by omega) rfl w
theorem idx1 (x0 x1 x2 x3 : Int) (w : World) : (Instr.index 191 (.agg #[.int .u8 x0, .int .u8 x1, .int .u8 x2, .int .u8 x3]) (.int .i64 1)).run Tryz.prog w = .ok (.int .u8 x1) w := run_index_flat (k := 1) Tryz.underlying191 Tryz.underlying5 rfl Tryz.sizeU8 (by omega) rfl w
theorem idx2 (x0 x1 x2 x3 : Int) (w : World) : (Instr.index 191 (.agg #[.int .u8 x0, .int .u8 x1, .int .u8 x2, .int .u8 x3]) (.int .i64 2)).run Tryz.prog w = .ok (.int .u8 x2) w := run_index_flat (k := 2) Tryz.underlying191 Tryz.underlying5 rfl Tryz.sizeU8 (by omega) rfl w
theorem idx3 (x0 x1 x2 x3 : Int) (w : World) : (Instr.index 191 (.agg #[.int .u8 x0, .int .u8 x1, .int .u8 x2, .int .u8 x3]) (.int .i64 3)).run Tryz.prog w = .ok (.int .u8 x3) w := run_index_flat (k := 3) Tryz.underlying191 Tryz.underlying5 rfl Tryz.sizeU8 (by omega) rfl w
end Go.Proofs.YtbecnaabmlkjjabGreatDoor
namespace Go.Proofs.YtbecnaabmlkjjabGreatDoor
open Go.ChangeShapes Go.WideShapes Go.ChangeAt Go.RowKit
namespace Gf
def rotl (a n : Nat) : Nat := (a * 2 ^ n % 256) ||| (a / 2 ^ (8 - n))
def spTo : Nat → Nat → Nat
  | 0, a => a ^^^ 99
  | k + 1, a => spTo k a ^^^ rotl a (k + 1)
/-- The spread of a byte's bits, and 0x63. -/
def spread (a : Nat) : Nat := spTo 4 a
def gather (a : Nat) : Nat := ((rotl a 1 ^^^ rotl a 3) ^^^ rotl a 6) ^^^ 5
def rot1 (x : Nat) : Nat := x * 2 % 256 + x / 128
def affTo : Nat → Nat → Nat × Nat
  | 0, a => (a, a ^^^ 99)
  | k + 1, a => (rot1 (affTo k a).1, (affTo k a).2 ^^^ rot1 (affTo k a).1)
theorem aff_eq : ∀ a, a < 256 → (affTo 4 a).2 = spread a := by decide +kernel
theorem rot1_lt (x : Nat) (h : x < 256) : rot1 x < 256 := by unfold rot1; omega
theorem or_lt {a b : Nat} (ha : a < 256) (hb : b < 256) : a ||| b < 256 := Nat.or_lt_two_pow (n := 8) ha hb
theorem rotl_lt (x n : Nat) (h : x < 256) : rotl x n < 256 := or_lt (by omega) (Nat.lt_of_le_of_lt (Nat.div_le_self _ _) h)
theorem affTo_lt (k a : Nat) (h : a < 256) : (affTo k a).1 < 256 ∧ (affTo k a).2 < 256 := by
  induction k with
  | zero => exact ⟨h, xor_lt h (by omega)⟩
  | succ k ih => exact ⟨rot1_lt _ ih.1, xor_lt ih.2 (rot1_lt _ ih.1)⟩
theorem spTo_lt (k a : Nat) (h : a < 256) : spTo k a < 256 := by
  induction k with
  | zero => exact xor_lt h (by omega)
  | succ k ih => exact xor_lt ih (rotl_lt _ _ h)
theorem spread_lt (a : Nat) (h : a < 256) : spread a < 256 := spTo_lt 4 a h
theorem gather_lt (a : Nat) (h : a < 256) : gather a < 256 := xor_lt (xor_lt (xor_lt (rotl_lt _ _ h) (rotl_lt _ _ h)) (rotl_lt _ _ h)) (by omega)
/-- The substitute of a byte, and that whose substitute it is. -/
def sub (a : Nat) : Nat := spread (inv a)
def unsub (a : Nat) : Nat := inv (gather a)
theorem sub_lt (a : Nat) (h : a < 256) : sub a < 256 := spread_lt _ (inv_lt a h)
theorem unsub_lt (a : Nat) (h : a < 256) : unsub a < 256 := inv_lt _ (gather_lt a h)
end Gf
theorem rot_end (a m d : Nat) (ha : a < 256) : bits BinOp.or IntKind.u8 ((a : Int) * m % 256) ((a : Int) / d) = ((a * m % 256 ||| a / d : Nat) : Int) := by
  have := u8_or_nat (a * m % 256) (a / d) (by omega) (Nat.lt_of_le_of_lt (Nat.div_le_self _ _) ha)
  rw [← this]
  congr 1
/-- math/bits.RotateLeft8, at the counts that are met. -/
theorem rot_any (a n : Nat) (ha : a < 256) (h : n = 1 ∨ n = 2 ∨ n = 3 ∨ n = 4 ∨ n = 6) (w : World) :
    Calls Tryz.prog 147 #[.int .u8 a, .int .i64 n] w fun e w' => e = .returned (.int .u8 (Gf.rotl a n : Nat)) ∧ w' = w := by
  have e1 : bits BinOp.and IntKind.u64 1 7 = 1 := by decide
  have e2 : bits BinOp.and IntKind.u64 2 7 = 2 := by decide
  have e3 : bits BinOp.and IntKind.u64 3 7 = 3 := by decide
  have e4 : bits BinOp.and IntKind.u64 4 7 = 4 := by decide
  have e6 : bits BinOp.and IntKind.u64 6 7 = 6 := by decide
  rcases h with rfl | rfl | rfl | rfl | rfl
  · go_enter Tryz.func147, Tryz.ntmps147
    go_wp2
    go_ret
    exact ⟨ret_int (rot_end a 2 128 ha), rfl⟩
  · go_enter Tryz.func147, Tryz.ntmps147
    go_wp2
    go_ret
    exact ⟨ret_int (rot_end a 4 64 ha), rfl⟩
  · go_enter Tryz.func147, Tryz.ntmps147
    go_wp2
    go_ret
    exact ⟨ret_int (rot_end a 8 32 ha), rfl⟩
  · go_enter Tryz.func147, Tryz.ntmps147
    go_wp2
    go_ret
    exact ⟨ret_int (rot_end a 16 16 ha), rfl⟩
  · go_enter Tryz.func147, Tryz.ntmps147
    go_wp2
    go_ret
    exact ⟨ret_int (rot_end a 64 4 ha), rfl⟩
/-- impl.spreadBits -/
theorem spreadBits_any (a : Nat) (ha : a < 256) (w : World) :
    Calls Tryz.prog 141 #[.int .u8 a] w fun e w' => e = .returned (.int .u8 (Gf.spread a : Nat)) ∧ w' = w := by
  have E0 : Hid (bits BinOp.xor IntKind.u8 (a : Int) 99 = ((Gf.spTo 0 a : Nat) : Int)) := u8_xor_nat a 99 ha (by omega)
  go_enter Tryz.func141, Tryz.ntmps141
  go_wp2
  go_loop [3, 4] (fun o i => ∃ k : Nat, k ≤ 4 ∧ i = .int .i64 (k + 1 : Nat) ∧ o = .int .u8 (Gf.spTo k a : Nat)) (fun _ i => 5 - (intOf i).toNat)
  case atStart => exact ⟨0, by omega, rfl, val_int E0.out⟩
  case round =>
    obtain ⟨k, hk, rfl, rfl⟩ := hrel
    have hl := Gf.spTo_lt k a ha
    have hr := Gf.rotl_lt a (k + 1) ha
    have E1 : Hid (Gf.spTo (k + 1) a = Gf.spTo k a ^^^ Gf.rotl a (k + 1)) := rfl
    have E2 : Hid (k = 4 → Gf.spTo k a = Gf.spread a) := by intro h; subst h; rfl
    generalize Gf.spTo k a = O at *
    by_cases hlt : k < 4
    · have hn : Hid (k + 1 = 1 ∨ k + 1 = 2 ∨ k + 1 = 3 ∨ k + 1 = 4 ∨ k + 1 = 6) := by show _ ∨ _; omega
      go_wp2_with fail
      refine (rot_any a (k + 1) ha hn.out _).mono ?_; rintro e w' ⟨rfl, rfl⟩
      generalize Gf.rotl a (k + 1) = R at *
      go_wp2_with fail
      go_round
      case rel => exact ⟨k + 1, by omega, by go_num, val_int (by rw [E1.out]; exact u8_xor_nat O R hl hr)⟩
      case measure => simp [intOf]; omega
    · go_wp2
      go_ret
      exact ⟨ret_int (by rw [E2.out (by omega)]), rfl⟩
/-- spec.l01Affine -/
theorem affine_any (a : Nat) (ha : a < 256) (w : World) :
    Calls Tryz.prog 106 #[.int .i64 a] w fun e w' => e = .returned (.int .i64 (Gf.spread a : Nat)) ∧ w' = w := by
  have E0 : Hid (bits BinOp.xor IntKind.i64 (a : Int) 99 = (((Gf.affTo 0 a).2 : Nat) : Int)) := i64_xor_nat a 99 (by omega) (by omega)
  go_enter Tryz.func106, Tryz.ntmps106
  go_wp2
  go_loop [0, 3, 4] (fun x o i => ∃ k : Nat, k ≤ 4 ∧ i = .int .i64 k ∧ x = .int .i64 ((Gf.affTo k a).1 : Nat) ∧ o = .int .i64 ((Gf.affTo k a).2 : Nat)) (fun _ _ i => 4 - (intOf i).toNat)
  case atStart => exact ⟨0, by omega, rfl, rfl, val_int E0.out⟩
  case round =>
    obtain ⟨k, hk, rfl, rfl, rfl⟩ := hrel
    have hl := Gf.affTo_lt k a ha
    have E1 : Hid ((Gf.affTo (k + 1) a).1 = Gf.rot1 (Gf.affTo k a).1) := rfl
    have E3 : Hid ((Gf.affTo (k + 1) a).2 = (Gf.affTo k a).2 ^^^ Gf.rot1 (Gf.affTo k a).1) := rfl
    have E2 : Hid (k = 4 → (Gf.affTo k a).2 = Gf.spread a) := by intro h; subst h; exact Gf.aff_eq a ha
    generalize (Gf.affTo k a).1 = A at *
    generalize (Gf.affTo k a).2 = O at *
    obtain ⟨hA, hO⟩ := hl
    by_cases hlt : k < 4
    · have hR : A * 2 % 256 + A / 128 < 256 := by omega
      go_wp2
      go_round
      case rel => exact ⟨k + 1, by omega, by go_num, val_int (by rw [E1.out]; rfl), val_int (by rw [E3.out]; exact i64_xor_nat O (A * 2 % 256 + A / 128) (by omega) (by omega))⟩
      case measure => simp [intOf]; omega
    · go_wp2
      go_ret
      exact ⟨ret_int (by rw [E2.out (by omega)]), rfl⟩
end Go.Proofs.YtbecnaabmlkjjabGreatDoor
namespace Go.Proofs.YtbecnaabmlkjjabGreatDoor.Gf
def pw : Nat → Nat
  | 0 => 1
  | k + 1 => pw k ^^^ dbl (pw k)
theorem pw_lt (k : Nat) : pw k < 256 := by
  induction k with
  | zero => decide
  | succ k ih => exact xor_lt ih (dbl_lt _ ih)
def lgL : List Nat := [0, 0, 25, 1, 50, 2, 26, 198, 75, 199, 27, 104, 51, 238, 223, 3, 100, 4, 224, 14, 52, 141, 129, 239, 76, 113, 8, 200, 248, 105, 28, 193, 125, 194, 29, 181, 249, 185, 39, 106, 77, 228, 166, 114, 154, 201, 9, 120, 101, 47, 138, 5, 33, 15, 225, 36, 18, 240, 130, 69, 53, 147, 218, 142, 150, 143, 219, 189, 54, 208, 206, 148, 19, 92, 210, 241, 64, 70, 131, 56, 102, 221, 253, 48, 191, 6, 139, 98, 179, 37, 226, 152, 34, 136, 145, 16, 126, 110, 72, 195, 163, 182, 30, 66, 58, 107, 40, 84, 250, 133, 61, 186, 43, 121, 10, 21, 155, 159, 94, 202, 78, 212, 172, 229, 243, 115, 167, 87, 175, 88, 168, 80, 244, 234, 214, 116, 79, 174, 233, 213, 231, 230, 173, 232, 44, 215, 117, 122, 235, 22, 11, 245, 89, 203, 95, 176, 156, 169, 81, 160, 127, 12, 246, 111, 23, 196, 73, 236, 216, 67, 31, 45, 164, 118, 123, 183, 204, 187, 62, 90, 251, 96, 177, 134, 59, 82, 161, 108, 170, 85, 41, 157, 151, 178, 135, 144, 97, 190, 220, 252, 188, 149, 207, 205, 55, 63, 91, 209, 83, 57, 132, 60, 65, 162, 109, 71, 20, 42, 158, 93, 86, 242, 211, 171, 68, 17, 146, 217, 35, 32, 46, 137, 180, 124, 184, 38, 119, 153, 227, 165, 103, 74, 237, 222, 197, 49, 254, 24, 13, 99, 140, 128, 192, 247, 112, 7]
theorem lg_all : ∀ j, j < 256 → j = 0 ∨ (lgL.getD j 0 < 255 ∧ pw (lgL.getD j 0) = j) := by decide +kernel
theorem pw_sub : ∀ k, k < 255 → pw k ≠ 0 ∧ spread (pw ((255 - k) % 255)) = sub (pw k) := by decide +kernel
/-- The table after k rounds. -/
def tabTo : Nat → Nat → Nat
  | 0, j => if j = 0 then 99 else 0
  | k + 1, j => if j = pw k then spread (pw ((255 - k) % 255)) else tabTo k j
theorem tabTo_hit (k i : Nat) (hi : i < k) (hk : k ≤ 255) : tabTo k (pw i) = sub (pw i) := by
  induction k with
  | zero => omega
  | succ k ih =>
    show (if pw i = pw k then spread (pw ((255 - k) % 255)) else tabTo k (pw i)) = _
    split
    · rename_i h; rw [h]; exact (pw_sub k (by omega)).2
    · rename_i h
      refine ih ?_ (by omega)
      rcases Nat.lt_or_ge i k with g | g
      · exact g
      · exact absurd (by rw [show i = k from by omega]) h
theorem tabTo_zero (k : Nat) (hk : k ≤ 255) : tabTo k 0 = 99 := by
  induction k with
  | zero => rfl
  | succ k ih =>
    show (if 0 = pw k then spread (pw ((255 - k) % 255)) else tabTo k 0) = _
    rw [if_neg (fun h => (pw_sub k (by omega)).1 h.symm)]
    exact ih (by omega)
theorem sub_zero : sub 0 = 99 := by decide +kernel
theorem tab_last (j : Nat) (hj : j < 256) : tabTo 255 j = sub j := by
  rcases lg_all j hj with h | ⟨h, e⟩
  · rw [h, tabTo_zero 255 (by omega), sub_zero]
  · have := tabTo_hit 255 _ h (by omega)
    rw [e] at this
    exact this
theorem unsub_sub : ∀ a, a < 256 → unsub (sub a) = a := by decide +kernel
theorem sub_unsub : ∀ a, a < 256 → sub (unsub a) = a := by decide +kernel
/-- The table backwards after k rounds. -/
def backTo : Nat → Nat → Nat
  | 0, _ => 0
  | k + 1, j => if j = sub k then k else backTo k j
theorem backTo_hit (k i : Nat) (hi : i < k) (hk : k ≤ 256) : backTo k (sub i) = i := by
  induction k with
  | zero => omega
  | succ k ih =>
    show (if sub i = sub k then k else backTo k (sub i)) = _
    split
    · rename_i h
      have := unsub_sub i (by omega)
      rw [h, unsub_sub k (by omega)] at this
      exact this
    · rename_i h
      refine ih ?_ (by omega)
      rcases Nat.lt_or_ge i k with g | g
      · exact g
      · exact absurd (by rw [show i = k from by omega]) h
theorem back_last (j : Nat) (hj : j < 256) : backTo 256 j = unsub j := by
  have := backTo_hit 256 (unsub j) (unsub_lt j hj) (by omega)
  rw [sub_unsub j hj] at this
  exact this
end Go.Proofs.YtbecnaabmlkjjabGreatDoor.Gf
