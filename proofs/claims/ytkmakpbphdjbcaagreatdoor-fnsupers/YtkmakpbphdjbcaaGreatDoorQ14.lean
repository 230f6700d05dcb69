/-
  Texts of the proof, joined: Cols, Sub, GfPow, Subst, States, Table.
-/
import Derived.Test.YtkmakpbphdjbcaaGreatDoorQ56
import Init
import Derived.Test.YtkmakpbphdjbcaaGreatDoorRows
import Derived.WalkKit
import Derived.ProofKit
import Derived.OpenShut
import Derived.ShutString
import Derived.Laws.BitsAllLaws
import Derived.Test.YtkmakpbphdjbcaaGreatDoorQ04
import Derived.Test.YtkmakpbphdjbcaaGreatDoorQ05
import Derived.Handy
import Derived.Deep.OwnRows
import Derived.Deep.RegionHeld3
namespace Go.Proofs.YtkmakpbphdjbcaaGreatDoor
open Go.ChangeShapes Go.WideShapes Go.ChangeAt Go.RowKit
theorem Tryz.sizeU8 : (Tryz.prog.info? 5).map (·.size) = some 1 := by kernel_rfl
theorem idx0 (x0 x1 x2 x3 : Int) (w : World) : (Instr.index 153 (.agg #[.int .u8 x0, .int .u8 x1, .int .u8 x2, .int .u8 x3]) (.int .i64 0)).run Tryz.prog w = .ok (.int .u8 x0) w := run_index_flat (k := 0) Tryz.underlying153 Tryz.underlying5 rfl Tryz.sizeU8 (by omega) rfl w
theorem idx1 (x0 x1 x2 x3 : Int) (w : World) : (Instr.index 153 (.agg #[.int .u8 x0, .int .u8 x1, .int .u8 x2, .int .u8 x3]) (.int .i64 1)).run Tryz.prog w = .ok (.int .u8 x1) w := run_index_flat (k := 1) Tryz.underlying153 Tryz.underlying5 rfl Tryz.sizeU8 (by omega) rfl w
theorem idx2 (x0 x1 x2 x3 : Int) (w : World) : (Instr.index 153 (.agg #[.int .u8 x0, .int .u8 x1, .int .u8 x2, .int .u8 x3]) (.int .i64 2)).run Tryz.prog w = .ok (.int .u8 x2) w := run_index_flat (k := 2) Tryz.underlying153 Tryz.underlying5 rfl Tryz.sizeU8 (by omega) rfl w
theorem idx3 (x0 x1 x2 x3 : Int) (w : World) : (Instr.index 153 (.agg #[.int .u8 x0, .int .u8 x1, .int .u8 x2, .int .u8 x3]) (.int .i64 3)).run Tryz.prog w = .ok (.int .u8 x3) w := run_index_flat (k := 3) Tryz.underlying153 Tryz.underlying5 rfl Tryz.sizeU8 (by omega) rfl w
end Go.Proofs.YtkmakpbphdjbcaaGreatDoor
namespace Go.Proofs.YtkmakpbphdjbcaaGreatDoor
open Go.ChangeShapes Go.WideShapes Go.ChangeAt Go.RowKit
namespace Gf
def rotl (a n : Nat) : Nat := (a * 2 ^ n % 256) ||| (a / 2 ^ (8 - n))
def spTo : Nat → Nat → Nat
  | 0, a => a ^^^ 99
  | k + 1, a => spTo k a ^^^ rotl a (k + 1)
def spread (a : Nat) : Nat := spTo 4 a
def gather (a : Nat) : Nat := ((rotl a 1 ^^^ rotl a 3) ^^^ rotl a 6) ^^^ 5
def rot1 (x : Nat) : Nat := x * 2 % 256 + x / 128
def affTo : Nat → Nat → Nat × Nat
  | 0, a => (a, a ^^^ 99)
  | k + 1, a => (rot1 (affTo k a).1, (affTo k a).2 ^^^ rot1 (affTo k a).1)
theorem aff_eq : ∀ a, a < 256 → (affTo 4 a).2 = spread a := by decide +kernel
theorem rot1_lt (x : Nat) (h : x < 256) : rot1 x < 256 := by unfold rot1; omega
theorem or_lt {a b : Nat} (ha : a < 256) (hb : b < 256) : a ||| b < 256 := Nat.or_lt_two_pow (n := 8) ha hb
theorem rotl_lt (x n : Nat) (h : x < 256) : rotl x n < 256 := or_lt (by omega) (Nat.lt_of_le_of_lt (Nat.div_le_self _ _) h)
theorem affTo_lt (k a : Nat) (h : a < 256) : (affTo k a).1 < 256 ∧ (affTo k a).2 < 256 := by
  induction k with
  | zero => exact ⟨h, xor_lt h (by omega)⟩
  | succ k ih => exact ⟨rot1_lt _ ih.1, xor_lt ih.2 (rot1_lt _ ih.1)⟩
theorem spTo_lt (k a : Nat) (h : a < 256) : spTo k a < 256 := by
  induction k with
  | zero => exact xor_lt h (by omega)
  | succ k ih => exact xor_lt ih (rotl_lt _ _ h)
theorem spread_lt (a : Nat) (h : a < 256) : spread a < 256 := spTo_lt 4 a h
theorem gather_lt (a : Nat) (h : a < 256) : gather a < 256 := xor_lt (xor_lt (xor_lt (rotl_lt _ _ h) (rotl_lt _ _ h)) (rotl_lt _ _ h)) (by omega)
def sub (a : Nat) : Nat := spread (inv a)
def unsub (a : Nat) : Nat := inv (gather a)
theorem sub_lt (a : Nat) (h : a < 256) : sub a < 256 := spread_lt _ (inv_lt a h)
theorem unsub_lt (a : Nat) (h : a < 256) : unsub a < 256 := inv_lt _ (gather_lt a h)
end Gf
theorem rot_end (a m d : Nat) (ha : a < 256) : bits BinOp.or IntKind.u8 ((a : Int) * m % 256) ((a : Int) / d) = ((a * m % 256 ||| a / d : Nat) : Int) := by
  have := u8_or_nat (a * m % 256) (a / d) (by omega) (Nat.lt_of_le_of_lt (Nat.div_le_self _ _) ha)
  rw [← this]
  congr 1
theorem rot_any (a n : Nat) (ha : a < 256) (h : n = 1 ∨ n = 2 ∨ n = 3 ∨ n = 4 ∨ n = 6) (w : World) :
    Calls Tryz.prog 121 #[.int .u8 a, .int .i64 n] w fun e w' => e = .returned (.int .u8 (Gf.rotl a n : Nat)) ∧ w' = w := by
  have e1 : bits BinOp.and IntKind.u64 1 7 = 1 := by decide
  have e2 : bits BinOp.and IntKind.u64 2 7 = 2 := by decide
  have e3 : bits BinOp.and IntKind.u64 3 7 = 3 := by decide
  have e4 : bits BinOp.and IntKind.u64 4 7 = 4 := by decide
  have e6 : bits BinOp.and IntKind.u64 6 7 = 6 := by decide
  rcases h with rfl | rfl | rfl | rfl | rfl
  · go_enter Tryz.func121, Tryz.ntmps121
    go_wp2
    go_ret
    exact ⟨ret_int (rot_end a 2 128 ha), rfl⟩
  · go_enter Tryz.func121, Tryz.ntmps121
    go_wp2
    go_ret
    exact ⟨ret_int (rot_end a 4 64 ha), rfl⟩
  · go_enter Tryz.func121, Tryz.ntmps121
    go_wp2
    go_ret
    exact ⟨ret_int (rot_end a 8 32 ha), rfl⟩
  · go_enter Tryz.func121, Tryz.ntmps121
    go_wp2
    go_ret
    exact ⟨ret_int (rot_end a 16 16 ha), rfl⟩
  · go_enter Tryz.func121, Tryz.ntmps121
    go_wp2
    go_ret
    exact ⟨ret_int (rot_end a 64 4 ha), rfl⟩
theorem spreadBits_any (a : Nat) (ha : a < 256) (w : World) :
    Calls Tryz.prog 114 #[.int .u8 a] w fun e w' => e = .returned (.int .u8 (Gf.spread a : Nat)) ∧ w' = w := by
  have E0 : Hid (bits BinOp.xor IntKind.u8 (a : Int) 99 = ((Gf.spTo 0 a : Nat) : Int)) := u8_xor_nat a 99 ha (by omega)
  go_enter Tryz.func114, Tryz.ntmps114
  go_wp2
  go_loop [3, 4] (fun o i => ∃ k : Nat, k ≤ 4 ∧ i = .int .i64 (k + 1 : Nat) ∧ o = .int .u8 (Gf.spTo k a : Nat)) (fun _ i => 5 - (intOf i).toNat)
  case atStart => exact ⟨0, by omega, rfl, val_int E0.out⟩
  case round =>
    obtain ⟨k, hk, rfl, rfl⟩ := hrel
    have hl := Gf.spTo_lt k a ha
    have hr := Gf.rotl_lt a (k + 1) ha
    have E1 : Hid (Gf.spTo (k + 1) a = Gf.spTo k a ^^^ Gf.rotl a (k + 1)) := rfl
    have E2 : Hid (k = 4 → Gf.spTo k a = Gf.spread a) := by intro h; subst h; rfl
    generalize Gf.spTo k a = O at *
    by_cases hlt : k < 4
    · have hn : Hid (k + 1 = 1 ∨ k + 1 = 2 ∨ k + 1 = 3 ∨ k + 1 = 4 ∨ k + 1 = 6) := by show _ ∨ _; omega
      go_wp2_with fail
      refine (rot_any a (k + 1) ha hn.out _).mono ?_; rintro e w' ⟨rfl, rfl⟩
      generalize Gf.rotl a (k + 1) = R at *
      go_wp2_with fail
      go_round
      case rel => exact ⟨k + 1, by omega, by go_num, val_int (by rw [E1.out]; exact u8_xor_nat O R hl hr)⟩
      case measure => simp [intOf]; omega
    · go_wp2
      go_ret
      exact ⟨ret_int (by rw [E2.out (by omega)]), rfl⟩
theorem affine_any (a : Nat) (ha : a < 256) (w : World) :
    Calls Tryz.prog 103 #[.int .i64 a] w fun e w' => e = .returned (.int .i64 (Gf.spread a : Nat)) ∧ w' = w := by
  have E0 : Hid (bits BinOp.xor IntKind.i64 (a : Int) 99 = (((Gf.affTo 0 a).2 : Nat) : Int)) := i64_xor_nat a 99 (by omega) (by omega)
  go_enter Tryz.func103, Tryz.ntmps103
  go_wp2
  go_loop [0, 3, 4] (fun x o i => ∃ k : Nat, k ≤ 4 ∧ i = .int .i64 k ∧ x = .int .i64 ((Gf.affTo k a).1 : Nat) ∧ o = .int .i64 ((Gf.affTo k a).2 : Nat)) (fun _ _ i => 4 - (intOf i).toNat)
  case atStart => exact ⟨0, by omega, rfl, rfl, val_int E0.out⟩
  case round =>
    obtain ⟨k, hk, rfl, rfl, rfl⟩ := hrel
    have hl := Gf.affTo_lt k a ha
    have E1 : Hid ((Gf.affTo (k + 1) a).1 = Gf.rot1 (Gf.affTo k a).1) := rfl
    have E3 : Hid ((Gf.affTo (k + 1) a).2 = (Gf.affTo k a).2 ^^^ Gf.rot1 (Gf.affTo k a).1) := rfl
    have E2 : Hid (k = 4 → (Gf.affTo k a).2 = Gf.spread a) := by intro h; subst h; exact Gf.aff_eq a ha
    generalize (Gf.affTo k a).1 = A at *
    generalize (Gf.affTo k a).2 = O at *
    obtain ⟨hA, hO⟩ := hl
    by_cases hlt : k < 4
    · have hR : A * 2 % 256 + A / 128 < 256 := by omega
      go_wp2
      go_round
      case rel => exact ⟨k + 1, by omega, by go_num, val_int (by rw [E1.out]; rfl), val_int (by rw [E3.out]; exact i64_xor_nat O (A * 2 % 256 + A / 128) (by omega) (by omega))⟩
      case measure => simp [intOf]; omega
    · go_wp2
      go_ret
      exact ⟨ret_int (by rw [E2.out (by omega)]), rfl⟩
end Go.Proofs.YtkmakpbphdjbcaaGreatDoor
namespace Go.Proofs.YtkmakpbphdjbcaaGreatDoor.Gf
def pw : Nat → Nat
  | 0 => 1
  | k + 1 => pw k ^^^ dbl (pw k)
theorem pw_lt (k : Nat) : pw k < 256 := by
  induction k with
  | zero => decide
  | succ k ih => exact xor_lt ih (dbl_lt _ ih)
def lgL : List Nat := [0, 0, 25, 1, 50, 2, 26, 198, 75, 199, 27, 104, 51, 238, 223, 3, 100, 4, 224, 14, 52, 141, 129, 239, 76, 113, 8, 200, 248, 105, 28, 193, 125, 194, 29, 181, 249, 185, 39, 106, 77, 228, 166, 114, 154, 201, 9, 120, 101, 47, 138, 5, 33, 15, 225, 36, 18, 240, 130, 69, 53, 147, 218, 142, 150, 143, 219, 189, 54, 208, 206, 148, 19, 92, 210, 241, 64, 70, 131, 56, 102, 221, 253, 48, 191, 6, 139, 98, 179, 37, 226, 152, 34, 136, 145, 16, 126, 110, 72, 195, 163, 182, 30, 66, 58, 107, 40, 84, 250, 133, 61, 186, 43, 121, 10, 21, 155, 159, 94, 202, 78, 212, 172, 229, 243, 115, 167, 87, 175, 88, 168, 80, 244, 234, 214, 116, 79, 174, 233, 213, 231, 230, 173, 232, 44, 215, 117, 122, 235, 22, 11, 245, 89, 203, 95, 176, 156, 169, 81, 160, 127, 12, 246, 111, 23, 196, 73, 236, 216, 67, 31, 45, 164, 118, 123, 183, 204, 187, 62, 90, 251, 96, 177, 134, 59, 82, 161, 108, 170, 85, 41, 157, 151, 178, 135, 144, 97, 190, 220, 252, 188, 149, 207, 205, 55, 63, 91, 209, 83, 57, 132, 60, 65, 162, 109, 71, 20, 42, 158, 93, 86, 242, 211, 171, 68, 17, 146, 217, 35, 32, 46, 137, 180, 124, 184, 38, 119, 153, 227, 165, 103, 74, 237, 222, 197, 49, 254, 24, 13, 99, 140, 128, 192, 247, 112, 7]
theorem lg_all : ∀ j, j < 256 → j = 0 ∨ (lgL.getD j 0 < 255 ∧ pw (lgL.getD j 0) = j) := by decide +kernel
theorem pw_sub : ∀ k, k < 255 → pw k ≠ 0 ∧ spread (pw ((255 - k) % 255)) = sub (pw k) := by decide +kernel
def tabTo : Nat → Nat → Nat
  | 0, j => if j = 0 then 99 else 0
  | k + 1, j => if j = pw k then spread (pw ((255 - k) % 255)) else tabTo k j
theorem tabTo_hit (k i : Nat) (hi : i < k) (hk : k ≤ 255) : tabTo k (pw i) = sub (pw i) := by
  induction k with
  | zero => omega
  | succ k ih =>
    show (if pw i = pw k then spread (pw ((255 - k) % 255)) else tabTo k (pw i)) = _
    split
    · rename_i h; rw [h]; exact (pw_sub k (by omega)).2
    · rename_i h
      refine ih ?_ (by omega)
      rcases Nat.lt_or_ge i k with g | g
      · exact g
      · exact absurd (by rw [show i = k from by omega]) h
theorem tabTo_zero (k : Nat) (hk : k ≤ 255) : tabTo k 0 = 99 := by
  induction k with
  | zero => rfl
  | succ k ih =>
    show (if 0 = pw k then spread (pw ((255 - k) % 255)) else tabTo k 0) = _
    rw [if_neg (fun h => (pw_sub k (by omega)).1 h.symm)]
    exact ih (by omega)
theorem sub_zero : sub 0 = 99 := by decide +kernel
theorem tab_last (j : Nat) (hj : j < 256) : tabTo 255 j = sub j := by
  rcases lg_all j hj with h | ⟨h, e⟩
  · rw [h, tabTo_zero 255 (by omega), sub_zero]
  · have := tabTo_hit 255 _ h (by omega)
    rw [e] at this
    exact this
theorem unsub_sub : ∀ a, a < 256 → unsub (sub a) = a := by decide +kernel
theorem sub_unsub : ∀ a, a < 256 → sub (unsub a) = a := by decide +kernel
def backTo : Nat → Nat → Nat
  | 0, _ => 0
  | k + 1, j => if j = sub k then k else backTo k j
theorem backTo_hit (k i : Nat) (hi : i < k) (hk : k ≤ 256) : backTo k (sub i) = i := by
  induction k with
  | zero => omega
  | succ k ih =>
    show (if sub i = sub k then k else backTo k (sub i)) = _
    split
    · rename_i h
      have := unsub_sub i (by omega)
      rw [h, unsub_sub k (by omega)] at this
      exact this
    · rename_i h
      refine ih ?_ (by omega)
      rcases Nat.lt_or_ge i k with g | g
      · exact g
      · exact absurd (by rw [show i = k from by omega]) h
theorem back_last (j : Nat) (hj : j < 256) : backTo 256 j = unsub j := by
  have := backTo_hit 256 (unsub j) (unsub_lt j hj) (by omega)
  rw [sub_unsub j hj] at this
  exact this
end Go.Proofs.YtkmakpbphdjbcaaGreatDoor.Gf
namespace Go.Proofs.YtkmakpbphdjbcaaGreatDoor
open Go.ChangeShapes Go.WideShapes Go.ChangeAt Go.RowKit
theorem Tryz.info256 : (Tryz.prog.info? 115).map (fun i => (i.zero, i.size)) = some (some (.agg (Array.replicate 256 (.int .u8 0))), 256) := by kernel_rfl
theorem Tryz.zero256 : ∀ w, (zeroValue 115).run Tryz.prog w = .ok (.agg (Array.replicate 256 (.int .u8 0))) w := (zero_of_info Tryz.info256).1
theorem Tryz.size256 : (Tryz.prog.info? 115).map (·.size) = some 256 := (zero_of_info Tryz.info256).2
theorem Tryz.info255 : (Tryz.prog.info? 150).map (fun i => (i.zero, i.size)) = some (some (.agg (Array.replicate 255 (.int .u8 0))), 255) := by kernel_rfl
theorem Tryz.zero255 : ∀ w, (zeroValue 150).run Tryz.prog w = .ok (.agg (Array.replicate 255 (.int .u8 0))) w := (zero_of_info Tryz.info255).1
theorem Tryz.size255 : (Tryz.prog.info? 150).map (·.size) = some 255 := (zero_of_info Tryz.info255).2
theorem Tryz.size8 : (Tryz.prog.info? 5).map (·.size) = some 1 := by kernel_rfl
theorem idx255 {f : Nat → Nat} {k : Nat} (h : k < 255) (w : World) : (Instr.index 150 (.agg (bA 255 f)) (.int .i64 (k : Int))).run Tryz.prog w = .ok (.int .u8 (f k : Nat)) w :=
  run_index_flat Tryz.underlying150 Tryz.underlying5 rfl Tryz.size8 h (bA_at h) w
theorem idx256 {f : Nat → Nat} {k : Nat} (h : k < 256) (w : World) : (Instr.index 115 (.agg (bA 256 f)) (.int .i64 (k : Int))).run Tryz.prog w = .ok (.int .u8 (f k : Nat)) w :=
  run_index_flat Tryz.underlying115 Tryz.underlying5 rfl Tryz.size8 h (bA_at h) w
theorem spread0 : Gf.spread 0 = 99 := by decide +kernel
set_option maxRecDepth 100000 in
set_option maxHeartbeats 2000000 in
theorem substitutes_any (w : World) :
    Calls Tryz.prog 94 #[] w fun e w' => e = .returned (.agg (bA 256 Gf.sub)) ∧ Below w.heap.size w w' := by
  have z1 := Tryz.zero256
  have z2 := Tryz.zero255
  have K0 : Hid (Row8 ((w.alloc (.cells (Array.replicate 256 (.int .u8 0)) 115)).alloc (.cells (Array.replicate 255 (.int .u8 0)) 150)) w.heap.size 115 256 (fun _ => 0)) := (Row8.zerosAt rfl _ _).alloc _
  have K1 : Hid (Row8 ((w.alloc (.cells (Array.replicate 256 (.int .u8 0)) 115)).alloc (.cells (Array.replicate 255 (.int .u8 0)) 150)) (w.heap.size + 1) 150 255 (fun _ => 0)) := Row8.zerosAt (by simp) _ _
  have K2 : Hid (Below w.heap.size w ((w.alloc (.cells (Array.replicate 256 (.int .u8 0)) 115)).alloc (.cells (Array.replicate 255 (.int .u8 0)) 150))) := ((Below.refl _ _).alloc (Nat.le_refl _) _).alloc (by simp) _
  have K3 : Hid (((w.alloc (.cells (Array.replicate 256 (.int .u8 0)) 115)).alloc (.cells (Array.replicate 255 (.int .u8 0)) 150)).heap.size = w.heap.size + 2) := by show _ = _; simp
  go_enter Tryz.func94, Tryz.ntmps94
  go_wp2
  generalize (w.alloc (.cells (Array.replicate 256 (.int .u8 0)) 115)).alloc (.cells (Array.replicate 255 (.int .u8 0)) 150) = wz at *
  go_loopw [2, 3, 7] (fun x _ i wr => ∃ k : Nat, k ≤ 255 ∧ i = .int .i64 k ∧ x = .int .u8 (Gf.pw k : Nat) ∧ Row8 wr w.heap.size 115 256 (fun _ => 0) ∧ Row8 wr (w.heap.size + 1) 150 255 (fun j => if j < k then Gf.pw j else 0) ∧ Below w.heap.size w wr ∧ wr.heap.size = w.heap.size + 2) (fun _ _ i _ => 255 - (intOf i).toNat)
  case atStart => exact ⟨0, by omega, rfl, rfl, K0.out, K1.out.congr (fun j hj => by simp), K2.out, K3.out⟩
  case round =>
    obtain ⟨k, hk, rfl, rfl, h0, h1, hb, hs⟩ := hrel
    have H0 : Hid (Row8 wr w.heap.size 115 256 (fun _ => 0)) := h0
    have H1 : Hid (Row8 wr (w.heap.size + 1) 150 255 (fun j => if j < k then Gf.pw j else 0)) := h1
    have HB : Hid (Below w.heap.size w wr) := hb
    have HS : Hid (wr.heap.size = w.heap.size + 2) := hs
    have hp := Gf.pw_lt k
    have E : Hid (bits BinOp.xor IntKind.u8 (Gf.pw k : Int) (Gf.dbl (Gf.pw k) : Int) = ((Gf.pw (k + 1) : Nat) : Int)) := u8_xor_nat _ _ hp (Gf.dbl_lt _ hp)
    by_cases hlt : k < 255
    · have c1 := World.rowIs.cell h1 hlt
      have f1 := World.rowIs.frozen h1 k
      clear h0 h1 hb hs K0 K1 K2 K3
      go_wp2_with (go_at_call 113; refine (double_any _ hp _).mono ?_; rintro e w' ⟨rfl, rfl⟩)
      go_roundw
      case rel =>
        refine ⟨k + 1, by omega, by go_num, val_int E.out, H0.out.other (by show w.heap.size ≠ w.heap.size + 1; omega) _, ?_, HB.out.setCell (by show w.heap.size ≤ w.heap.size + 1; omega) _, by simpa using HS.out⟩
        exact (H1.out.set k (Gf.pw k)).congr (fun j hj => by
          by_cases e : j = k
          · subst e; simp
          · simp only [if_neg e]
            by_cases h1 : j < k
            · rw [if_pos h1, if_pos (by omega)]
            · rw [if_neg h1, if_neg (by omega)])
      case measure => simp [intOf]; omega
    · have H1' : Hid (Row8 wr (w.heap.size + 1) 150 255 Gf.pw) := h1.congr (fun j hj => by rw [if_pos (by omega)])
      have hk' : ¬ (k : Int) < 255 := by omega
      clear h0 h1 hb K0 K1 K2 K3 E H1 hp
      generalize Gf.pw k = V
      generalize (k : Int) = kk at *
      clear hk hlt
      have P0 : Hid (Row8 (wr.alloc (.cells ((Array.replicate 256 (.int .u8 0)).setIfInBounds 0 (.int .u8 99)) 115)) (w.heap.size + 2) 115 256 (fun j => if j = 0 then 99 else 0)) := Row8.zerosSetAt HS.out 115 256 0 99
      have P1 : Hid (Row8 (wr.alloc (.cells ((Array.replicate 256 (.int .u8 0)).setIfInBounds 0 (.int .u8 99)) 115)) (w.heap.size + 1) 150 255 Gf.pw) := H1'.out.alloc _
      have P2 : Hid (Row8 (wr.alloc (.cells ((Array.replicate 256 (.int .u8 0)).setIfInBounds 0 (.int .u8 99)) 115)) w.heap.size 115 256 (fun _ => 0)) := H0.out.alloc _
      have P3 : Hid (Below w.heap.size w (wr.alloc (.cells ((Array.replicate 256 (.int .u8 0)).setIfInBounds 0 (.int .u8 99)) 115))) := HB.out.alloc (by rw [HS.out]; omega) _
      have q0 : (Array.replicate 256 (Value.int .u8 0))[0]? = some (.int .u8 0) := by simp
      have e0 := spread0
      go_wp2_with (first | (go_at_call 114; refine (spreadBits_any 0 (by omega) _).mono ?_; rintro e w' ⟨rfl, rfl⟩) | (refine wpList_load_mid rfl 150 (.tmp 1) rfl (w.heap.size + 1) 0 rfl (bv 255 Gf.pw) _ P1.out.range Tryz.underlying150 rfl (by rw [bv_length]; exact Tryz.size255) ?_))
      clear q0 e0 H0 H1' HB HS hs
      generalize (wr.alloc (.cells ((Array.replicate 256 (.int .u8 0)).setIfInBounds 0 (.int .u8 99)) 115)) = wy at *
      have eA : (bv 255 Gf.pw).toArray = bA 255 Gf.pw := rfl
      rw [eA]
      clear eA
      go_loopw [5, 6, 21] (fun _ _ i wq => ∃ k : Nat, k ≤ 255 ∧ i = .int .i64 k ∧ Row8 wq w.heap.size 115 256 (fun _ => 0) ∧ Row8 wq (w.heap.size + 1) 150 255 Gf.pw ∧ Row8 wq (w.heap.size + 2) 115 256 (Gf.tabTo k) ∧ Below w.heap.size w wq) (fun _ _ i _ => 255 - (intOf i).toNat)
      case atStart => exact ⟨0, by omega, rfl, P2.out, P1.out, P0.out.congr (fun j hj => rfl), P3.out⟩
      case round =>
        obtain ⟨k, hk, rfl, h0, h1, h2, hb⟩ := hrel
        have H0 : Hid (Row8 wr w.heap.size 115 256 (fun _ => 0)) := h0
        have H1 : Hid (Row8 wr (w.heap.size + 1) 150 255 Gf.pw) := h1
        have H2 : Hid (Row8 wr (w.heap.size + 2) 115 256 (Gf.tabTo k)) := h2
        have HB : Hid (Below w.heap.size w wr) := hb
        by_cases hlt : k < 255
        · have hp := Gf.pw_lt k
          have hm : (255 - k) % 255 < 255 := Nat.mod_lt _ (by omega)
          have hq := Gf.pw_lt ((255 - k) % 255)
          have c1 := World.rowIs.cell h1 hm
          have c2 := World.rowIs.cell h2 hp
          have f2 := World.rowIs.frozen h2 (Gf.pw k)
          have ix := idx255 (f := Gf.pw) hlt
          have em : (255 - (k : Int)) % 255 = (((255 - k) % 255 : Nat) : Int) := by omega
          have em' : -(k : Int) % 255 = (((255 - k) % 255 : Nat) : Int) := by omega
          have et : (255 - (k : Int)).tmod 255 = (((255 - k) % 255 : Nat) : Int) := by
            rw [show 255 - (k : Int) = ((255 - k : Nat) : Int) from by omega]
            exact (Int.ofNat_tmod (255 - k) 255).symm
          have E : Hid (∀ j, Gf.tabTo (k + 1) j = if j = Gf.pw k then Gf.spread (Gf.pw ((255 - k) % 255)) else Gf.tabTo k j) := fun j => rfl
          clear h0 h1 h2 hb P0 P1 P2 P3
          generalize (255 - k) % 255 = M at *
          generalize Gf.pw k = P at *
          generalize Gf.pw M = R at *
          go_wp2_with (go_at_call 114; refine (spreadBits_any R hq _).mono ?_; rintro e w' ⟨rfl, rfl⟩)
          go_roundw
          case rel =>
            refine ⟨k + 1, by omega, by go_num, H0.out.other (by show w.heap.size ≠ w.heap.size + 2; omega) _, H1.out.other (by show w.heap.size + 1 ≠ w.heap.size + 2; omega) _, ?_, HB.out.setCell (by show w.heap.size ≤ w.heap.size + 2; omega) _⟩
            exact (H2.out.set P (Gf.spread R)).congr (fun j hj => by rw [E.out j])
          case measure => simp [intOf]; omega
        · have H2' : Hid (Row8 wr (w.heap.size + 2) 115 256 Gf.sub) := h2.congr (fun j hj => by rw [show k = 255 from by omega]; exact Gf.tab_last j hj)
          clear h0 h1 h2 hb P0 P1 P2 P3 H1 H2
          go_wp2_with (first
            | (refine wpList_load_mid rfl 115 (.tmp 4) rfl (w.heap.size + 2) 0 rfl (bv 256 Gf.sub) _ H2'.out.range Tryz.underlying115 rfl (by rw [bv_length]; exact Tryz.size256) ?_)
            | (refine wpList_store_mid rfl 115 (.tmp 0) (.tmp 34) rfl w.heap.size 0 (bA 256 Gf.sub) rfl rfl (by rw [bA_size]; exact H0.out.there) (by rw [bA_size]; exact Tryz.size256) (bA_one _ _) ?_))
          rw [bA_toList]
          have L : (loadVar 115 ⟨w.heap.size, 0, none⟩).run Tryz.prog (wr.setCells w.heap.size 0 (bv 256 Gf.sub)) = .ok (.agg (bA 256 Gf.sub)) (wr.setCells w.heap.size 0 (bv 256 Gf.sub)) := (H0.out.stored _).load Tryz.underlying115 rfl Tryz.size256
          have B : Below w.heap.size w (wr.setCells w.heap.size 0 (bv 256 Gf.sub)) := below_setCells (Nat.le_refl _) _ _ _ HB.out
          exact bodyPost_ret (v := .agg (bA 256 Gf.sub)) (results_cell_one (b := w.heap.size) (o := 0) Tryz.results94 _ _ _ rfl L) rfl ⟨rfl, B⟩
set_option maxRecDepth 100000 in
set_option maxHeartbeats 2000000 in
theorem backwards_any (w : World) :
    Calls Tryz.prog 96 #[.agg (bA 256 Gf.sub)] w fun e w' => e = .returned (.agg (bA 256 Gf.unsub)) ∧ Below w.heap.size w w' := by
  have z1 := Tryz.zero256
  have K0 : Hid (Row8 (((w.alloc (.cells (bA 256 Gf.sub) 115)).alloc (.cells (Array.replicate 256 (.int .u8 0)) 115)).alloc (.cells (Array.replicate 256 (.int .u8 0)) 115)) w.heap.size 115 256 Gf.sub) := ((Row8.boxedAt rfl _ _ _).alloc _).alloc _
  have K1 : Hid (Row8 (((w.alloc (.cells (bA 256 Gf.sub) 115)).alloc (.cells (Array.replicate 256 (.int .u8 0)) 115)).alloc (.cells (Array.replicate 256 (.int .u8 0)) 115)) (w.heap.size + 1) 115 256 (fun _ => 0)) := (Row8.zerosAt (by simp) _ _).alloc _
  have K2 : Hid (Row8 (((w.alloc (.cells (bA 256 Gf.sub) 115)).alloc (.cells (Array.replicate 256 (.int .u8 0)) 115)).alloc (.cells (Array.replicate 256 (.int .u8 0)) 115)) (w.heap.size + 1 + 1) 115 256 (fun _ => 0)) := Row8.zerosAt (by simp) _ _
  have K3 : Hid (Below w.heap.size w (((w.alloc (.cells (bA 256 Gf.sub) 115)).alloc (.cells (Array.replicate 256 (.int .u8 0)) 115)).alloc (.cells (Array.replicate 256 (.int .u8 0)) 115))) := (((Below.refl _ _).alloc (Nat.le_refl _) _).alloc (by simp) _).alloc (by simp; omega) _
  go_enter Tryz.func96, Tryz.ntmps96
  go_wp2_with (refine wpList_load_mid rfl 115 (.tmp 1) rfl w.heap.size 0 rfl (bv 256 Gf.sub) _ K0.out.range Tryz.underlying115 rfl (by rw [bv_length]; exact Tryz.size256) ?_)
  generalize ((w.alloc (.cells (bA 256 Gf.sub) 115)).alloc (.cells (Array.replicate 256 (.int .u8 0)) 115)).alloc (.cells (Array.replicate 256 (.int .u8 0)) 115) = wz at *
  have eA : (bv 256 Gf.sub).toArray = bA 256 Gf.sub := rfl
  rw [eA]
  clear eA K0
  go_loopw [4, 5, 7] (fun _ _ i wr => ∃ k : Nat, k ≤ 256 ∧ i = .int .i64 k ∧ Row8 wr (w.heap.size + 1) 115 256 (fun _ => 0) ∧ Row8 wr (w.heap.size + 1 + 1) 115 256 (Gf.backTo k) ∧ Below w.heap.size w wr) (fun _ _ i _ => 256 - (intOf i).toNat)
  case atStart => exact ⟨0, by omega, rfl, K1.out, K2.out.congr (fun j hj => rfl), K3.out⟩
  case round =>
    obtain ⟨k, hk, rfl, h1, h2, hb⟩ := hrel
    have H1 : Hid (Row8 wr (w.heap.size + 1) 115 256 (fun _ => 0)) := h1
    have H2 : Hid (Row8 wr (w.heap.size + 1 + 1) 115 256 (Gf.backTo k)) := h2
    have HB : Hid (Below w.heap.size w wr) := hb
    by_cases hlt : k < 256
    · have hs := Gf.sub_lt k hlt
      have c2 := World.rowIs.cell h2 hs
      have f2 := World.rowIs.frozen h2 (Gf.sub k)
      have ix := idx256 (f := Gf.sub) hlt
      have E : Hid (∀ j, Gf.backTo (k + 1) j = if j = Gf.sub k then k else Gf.backTo k j) := fun j => rfl
      clear h1 h2 hb K1 K2 K3
      generalize Gf.sub k = P at *
      go_wp2
      go_roundw
      case rel =>
        refine ⟨k + 1, by omega, by go_num, H1.out.other (by show w.heap.size + 1 ≠ w.heap.size + 1 + 1; omega) _, ?_, HB.out.setCell (by show w.heap.size ≤ w.heap.size + 1 + 1; omega) _⟩
        exact (H2.out.set P k).congr (fun j hj => by rw [E.out j])
      case measure => simp [intOf]; omega
    · have H2' : Hid (Row8 wr (w.heap.size + 1 + 1) 115 256 Gf.unsub) := h2.congr (fun j hj => by rw [show k = 256 from by omega]; exact Gf.back_last j hj)
      clear h1 h2 hb K1 K2 K3 H2
      go_wp2_with (first
        | (refine wpList_load_mid rfl 115 (.tmp 3) rfl (w.heap.size + 1 + 1) 0 rfl (bv 256 Gf.unsub) _ H2'.out.range Tryz.underlying115 rfl (by rw [bv_length]; exact Tryz.size256) ?_)
        | (refine wpList_store_mid rfl 115 (.tmp 2) (.tmp 16) rfl (w.heap.size + 1) 0 (bA 256 Gf.unsub) rfl rfl (by rw [bA_size]; exact H1.out.there) (by rw [bA_size]; exact Tryz.size256) (bA_one _ _) ?_))
      rw [bA_toList]
      have L : (loadVar 115 ⟨w.heap.size + 1, 0, none⟩).run Tryz.prog (wr.setCells (w.heap.size + 1) 0 (bv 256 Gf.unsub)) = .ok (.agg (bA 256 Gf.unsub)) (wr.setCells (w.heap.size + 1) 0 (bv 256 Gf.unsub)) := (H1.out.stored _).load Tryz.underlying115 rfl Tryz.size256
      have B : Below w.heap.size w (wr.setCells (w.heap.size + 1) 0 (bv 256 Gf.unsub)) := below_setCells (by omega) _ _ _ HB.out
      exact bodyPost_ret (v := .agg (bA 256 Gf.unsub)) (results_cell_one (b := w.heap.size + 1) (o := 0) Tryz.results96 _ _ _ rfl L) rfl ⟨rfl, B⟩
set_option maxRecDepth 100000 in
set_option maxHeartbeats 2000000 in
theorem subWord_any (a b c d : Nat) (ha : a < 256) (hb : b < 256) (hc : c < 256) (hd : d < 256) (w : World) :
    Calls Tryz.prog 115 #[.agg #[.int .u8 a, .int .u8 b, .int .u8 c, .int .u8 d], .agg (bA 256 Gf.sub)] w fun e w' => e = .returned (.agg #[.int .u8 (Gf.sub a : Nat), .int .u8 (Gf.sub b : Nat), .int .u8 (Gf.sub c : Nat), .int .u8 (Gf.sub d : Nat)]) ∧ Below w.heap.size w w' := by
  have pa := bA_at (n := 256) (f := Gf.sub) ha
  have pb := bA_at (n := 256) (f := Gf.sub) hb
  have pc := bA_at (n := 256) (f := Gf.sub) hc
  have pd := bA_at (n := 256) (f := Gf.sub) hd
  have i0 := idx0
  have i1 := idx1
  have i2 := idx2
  have i3 := idx3
  generalize bA 256 Gf.sub = T at *
  generalize Gf.sub a = A at *
  generalize Gf.sub b = B at *
  generalize Gf.sub c = C at *
  generalize Gf.sub d = D at *
  go_enter Tryz.func115, Tryz.ntmps115
  go_wp2
  refine wp_loop_rounds 5 ?_
  rw [rounds_succ]
  go_wp2
  rw [rounds_succ]
  go_wp2
  rw [rounds_succ]
  go_wp2
  rw [rounds_succ]
  go_wp2
  rw [rounds_succ]
  go_wp2
  exact bodyPost_ret (v := .agg #[.int .u8 (A : Nat), .int .u8 (B : Nat), .int .u8 (C : Nat), .int .u8 (D : Nat)]) (by simp [results, Tryz.results115, go_sem]) rfl ⟨rfl, (((Below.refl _ _).alloc (Nat.le_refl _) _).alloc (by simp) _).alloc (by simp; omega) _⟩
end Go.Proofs.YtkmakpbphdjbcaaGreatDoor
namespace Go.Proofs.YtkmakpbphdjbcaaGreatDoor
open Go.ChangeShapes Go.WideShapes Go.ChangeAt Go.RowKit
theorem run_index_part {P : Program} {t e : TypeId} {n m : Nat} {d : TypeDesc} (hu : P.underlying t = some (.array n e)) (he : P.underlying e = some d) (hd : d.isRow = true)
    (hs : (P.info? e).map (·.size) = some m) {A : Array Value} {k : Nat} (hk : k < n) (w : World) :
    (Instr.index t (.agg A) (.int .i64 (k : Int))).run P w = .ok (.agg (A.extract (k * m) (k * m + m))) w := by
  cases hq : P.info? e with
  | none => simp [hq] at hs
  | some i =>
    have hz : i.size = m := by simpa [hq] using hs
    have hagg : (isAgg e).run P w = .ok true w := by
      unfold isAgg
      rw [Sem.run_bind, run_underlying he w]
      cases d <;> simp_all
    have hk1 : (0 : Int) ≤ (k : Int) ∧ (k : Int) < (n : Int) := by omega
    simp [Instr.index, asIntOf, Sem.run_bind, run_underlying hu w, hk1, sizeOf, typeInfo, hq, hz, part, hagg]
    intro h
    omega
theorem bA_extract4 {n : Nat} {f : Nat → Nat} {o : Nat} (h : o + 4 ≤ n) : (bA n f).extract o (o + 4) = #[.int .u8 (f o : Nat), .int .u8 (f (o + 1) : Nat), .int .u8 (f (o + 2) : Nat), .int .u8 (f (o + 3) : Nat)] := by
  apply Array.ext_getElem?
  intro i
  rw [Array.getElem?_extract]
  rcases (show i = 0 ∨ i = 1 ∨ i = 2 ∨ i = 3 ∨ 4 ≤ i by omega) with rfl | rfl | rfl | rfl | hi
  · rw [if_pos (by rw [bA_size]; omega), bA_at (by omega)]; rfl
  · rw [if_pos (by rw [bA_size]; omega), bA_at (by omega)]; rfl
  · rw [if_pos (by rw [bA_size]; omega), bA_at (by omega)]; rfl
  · rw [if_pos (by rw [bA_size]; omega), bA_at (by omega)]; rfl
  · rw [if_neg (by rw [bA_size]; omega)]
    simp [hi]
theorem Tryz.infoK : (Tryz.prog.info? 114).map (fun i => (i.zero, i.size)) = some (some (.agg (Array.replicate 240 (.int .u8 0))), 240) := by kernel_rfl
theorem Tryz.zeroK : ∀ w, (zeroValue 114).run Tryz.prog w = .ok (.agg (Array.replicate 240 (.int .u8 0))) w := (zero_of_info Tryz.infoK).1
theorem Tryz.sizeK : (Tryz.prog.info? 114).map (·.size) = some 240 := (zero_of_info Tryz.infoK).2
theorem Tryz.infoW : (Tryz.prog.info? 154).map (fun i => (i.zero, i.size)) = some (some (.agg (Array.replicate 240 (.int .u8 0))), 240) := by kernel_rfl
theorem Tryz.zeroW : ∀ w, (zeroValue 154).run Tryz.prog w = .ok (.agg (Array.replicate 240 (.int .u8 0))) w := (zero_of_info Tryz.infoW).1
theorem Tryz.sizeW : (Tryz.prog.info? 154).map (·.size) = some 240 := (zero_of_info Tryz.infoW).2
theorem idxW {f : Nat → Nat} {k : Nat} (h : k < 60) (w : World) : (Instr.index 154 (.agg (bA 240 f)) (.int .i64 (k : Int))).run Tryz.prog w = .ok (.agg #[.int .u8 (f (k * 4) : Nat), .int .u8 (f (k * 4 + 1) : Nat), .int .u8 (f (k * 4 + 2) : Nat), .int .u8 (f (k * 4 + 3) : Nat)]) w := by
  rw [run_index_part (m := 4) Tryz.underlying154 Tryz.underlying153 rfl (by kernel_rfl) h w, bA_extract4 (by omega)]
set_option maxRecDepth 100000 in
set_option maxHeartbeats 2000000 in
theorem statesOf_any (f : Nat → Nat) (w : World) :
    Calls Tryz.prog 116 #[.agg (bA 240 f)] w fun e w' => e = .returned (.agg (bA 240 f)) ∧ Below w.heap.size w w' := by
  have z1 := Tryz.zeroK
  have K0 : Hid (Row8 (((w.alloc (.cells (bA 240 f) 154)).alloc (.cells (Array.replicate 240 (.int .u8 0)) 114)).alloc (.cells (Array.replicate 240 (.int .u8 0)) 114)) w.heap.size 154 240 f) := ((Row8.boxedAt rfl _ _ _).alloc _).alloc _
  have K1 : Hid (Row8 (((w.alloc (.cells (bA 240 f) 154)).alloc (.cells (Array.replicate 240 (.int .u8 0)) 114)).alloc (.cells (Array.replicate 240 (.int .u8 0)) 114)) (w.heap.size + 1) 114 240 (fun _ => 0)) := (Row8.zerosAt (by simp) _ _).alloc _
  have K2 : Hid (Row8 (((w.alloc (.cells (bA 240 f) 154)).alloc (.cells (Array.replicate 240 (.int .u8 0)) 114)).alloc (.cells (Array.replicate 240 (.int .u8 0)) 114)) (w.heap.size + 1 + 1) 114 240 (fun _ => 0)) := Row8.zerosAt (by simp) _ _
  have K3 : Hid (Below w.heap.size w (((w.alloc (.cells (bA 240 f) 154)).alloc (.cells (Array.replicate 240 (.int .u8 0)) 114)).alloc (.cells (Array.replicate 240 (.int .u8 0)) 114))) := (((Below.refl _ _).alloc (Nat.le_refl _) _).alloc (by simp) _).alloc (by simp; omega) _
  go_enter Tryz.func116, Tryz.ntmps116
  go_wp2_with (refine wpList_load_mid rfl 154 (.tmp 1) rfl w.heap.size 0 rfl (bv 240 f) _ K0.out.range Tryz.underlying154 rfl (by rw [bv_length]; exact Tryz.sizeW) ?_)
  generalize ((w.alloc (.cells (bA 240 f) 154)).alloc (.cells (Array.replicate 240 (.int .u8 0)) 114)).alloc (.cells (Array.replicate 240 (.int .u8 0)) 114) = wz at *
  have eA : (bv 240 f).toArray = bA 240 f := rfl
  rw [eA]
  clear eA K0
  go_loopw [4, 5, 9] (fun _ _ i wr => ∃ k : Nat, k ≤ 60 ∧ i = .int .i64 k ∧ Row8 wr (w.heap.size + 1) 114 240 (fun _ => 0) ∧ Row8 wr (w.heap.size + 1 + 1) 114 240 (fun j => if j < k * 4 then f j else 0) ∧ Below w.heap.size w wr) (fun _ _ i _ => 60 - (intOf i).toNat)
  case atStart => exact ⟨0, by omega, rfl, K1.out, K2.out.congr (fun j hj => by simp), K3.out⟩
  case round =>
    obtain ⟨k, hk, rfl, h1, h2, hb⟩ := hrel
    have H1 : Hid (Row8 wr (w.heap.size + 1) 114 240 (fun _ => 0)) := h1
    have H2 : Hid (Row8 wr (w.heap.size + 1 + 1) 114 240 (fun j => if j < k * 4 then f j else 0)) := h2
    have HB : Hid (Below w.heap.size w wr) := hb
    by_cases hlt : k < 60
    · have ix := idxW (f := f) hlt
      have hl2 := World.rowIs.lt h2
      have j0 := idx0
      have j1 := idx1
      have j2 := idx2
      have j3 := idx3
      have g0 := World.rowIs.cell h2 (i := k * 4) (by omega)
      have g1 := World.rowIs.cell h2 (i := k * 4 + 1) (by omega)
      have g2 := World.rowIs.cell h2 (i := k * 4 + 2) (by omega)
      have g3 := World.rowIs.cell h2 (i := k * 4 + 3) (by omega)
      have q0 := World.rowIs.frozen h2 (k * 4)
      have q1 := World.rowIs.frozen h2 (k * 4 + 1)
      have q2 := World.rowIs.frozen h2 (k * 4 + 2)
      have q3 := World.rowIs.frozen h2 (k * 4 + 3)
      clear h1 h2 hb K1 K2 K3
      have o0 : k / 4 * 16 + k % 4 * 4 = k * 4 := by omega
      have o1 : k / 4 * 16 + (k % 4 * 4 + 1) = k * 4 + 1 := by omega
      have o2 : k / 4 * 16 + (k % 4 * 4 + 2) = k * 4 + 2 := by omega
      have o3 : k / 4 * 16 + (k % 4 * 4 + 3) = k * 4 + 3 := by omega
      go_wp2
      refine wp_loop_rounds 5 ?_
      rw [rounds_succ]
      go_wp2
      rw [rounds_succ]
      go_wp2
      rw [rounds_succ]
      go_wp2
      rw [rounds_succ]
      go_wp2
      rw [rounds_succ]
      go_wp2
      go_roundw
      case rel =>
        refine ⟨k + 1, by omega, by go_num, ((((H1.out.other (by show w.heap.size + 1 ≠ w.heap.size + 1 + 1; omega) _).other (by show w.heap.size + 1 ≠ w.heap.size + 1 + 1; omega) _).other (by show w.heap.size + 1 ≠ w.heap.size + 1 + 1; omega) _).other (by show w.heap.size + 1 ≠ w.heap.size + 1 + 1; omega) _).alloc _, ?_, ((((HB.out.setCell (by show w.heap.size ≤ w.heap.size + 1 + 1; omega) _).setCell (by show w.heap.size ≤ w.heap.size + 1 + 1; omega) _).setCell (by show w.heap.size ≤ w.heap.size + 1 + 1; omega) _).setCell (by show w.heap.size ≤ w.heap.size + 1 + 1; omega) _).alloc (by simpa using HB.out.size) _⟩
        exact (((((H2.out.set (k * 4) (f (k * 4))).set (k * 4 + 1) (f (k * 4 + 1))).set (k * 4 + 2) (f (k * 4 + 2))).set (k * 4 + 3) (f (k * 4 + 3))).alloc _).congr (fun j hj => by
          by_cases h1 : j < k * 4
          · rw [if_neg (by omega), if_neg (by omega), if_neg (by omega), if_neg (by omega), if_pos h1, if_pos (by omega)]
          · by_cases h2 : j < (k + 1) * 4
            · rw [if_pos h2]
              rcases (show j = k * 4 ∨ j = k * 4 + 1 ∨ j = k * 4 + 2 ∨ j = k * 4 + 3 by omega) with rfl | rfl | rfl | rfl <;> simp
            · rw [if_neg (by omega), if_neg (by omega), if_neg (by omega), if_neg (by omega), if_neg h1, if_neg h2])
      case measure => simp [intOf]; omega
    · have H2' : Hid (Row8 wr (w.heap.size + 1 + 1) 114 240 f) := h2.congr (fun j hj => by rw [if_pos (by omega)])
      clear h1 h2 hb K1 K2 K3 H2
      go_wp2_with (first
        | (refine wpList_load_mid rfl 114 (.tmp 3) rfl (w.heap.size + 1 + 1) 0 rfl (bv 240 f) _ H2'.out.range Tryz.underlying114 rfl (by rw [bv_length]; exact Tryz.sizeK) ?_)
        | (refine wpList_store_mid rfl 114 (.tmp 2) (.tmp 30) rfl (w.heap.size + 1) 0 (bA 240 f) rfl rfl (by rw [bA_size]; exact H1.out.there) (by rw [bA_size]; exact Tryz.sizeK) (bA_one _ _) ?_))
      rw [bA_toList]
      have L : (loadVar 114 ⟨w.heap.size + 1, 0, none⟩).run Tryz.prog (wr.setCells (w.heap.size + 1) 0 (bv 240 f)) = .ok (.agg (bA 240 f)) (wr.setCells (w.heap.size + 1) 0 (bv 240 f)) := (H1.out.stored _).load Tryz.underlying114 rfl Tryz.sizeK
      have B : Below w.heap.size w (wr.setCells (w.heap.size + 1) 0 (bv 240 f)) := below_setCells (by omega) _ _ _ HB.out
      exact bodyPost_ret (v := .agg (bA 240 f)) (results_cell_one (b := w.heap.size + 1) (o := 0) Tryz.results116 _ _ _ rfl L) rfl ⟨rfl, B⟩
end Go.Proofs.YtkmakpbphdjbcaaGreatDoor
namespace Go.Proofs.YtkmakpbphdjbcaaGreatDoor
open Go.ChangeShapes Go.WideShapes Go.ChangeAt Go.RowKit
theorem Tryz.info3 : (Tryz.prog.info? 3).map (fun i => (i.zero, i.size, i.bytes)) = some (some (.int .i64 0), 1, 8) := by kernel_rfl
theorem makeInts (n : Nat) (hn : n ≤ 100000) (w : World) : (Instr.makeSlice 32 (.int .i64 (n : Int)) (.int .i64 (n : Int))).run Tryz.prog w = .ok (.slice (some ⟨w.heap.size, 0, none⟩) n n) (w.alloc (.cells (madeCells #[.int .i64 0] n) 3)) :=
  run_make_row' 32 3 (.int .i64 0) 8 Tryz.underlying32 Tryz.info3 rfl .i64 .i64 n (by omega) (by omega) w
theorem make255 (w : World) : (Instr.makeSlice 32 (.int .i64 255) (.int .i64 255)).run Tryz.prog w = .ok (.slice (some ⟨w.heap.size, 0, none⟩) 255 255) (w.alloc (.cells (madeCells #[.int .i64 0] 255) 3)) := makeInts 255 (by omega) w
theorem make256 (w : World) : (Instr.makeSlice 32 (.int .i64 256) (.int .i64 256)).run Tryz.prog w = .ok (.slice (some ⟨w.heap.size, 0, none⟩) 256 256) (w.alloc (.cells (madeCells #[.int .i64 0] 256) 3)) := makeInts 256 (by omega) w
theorem l01Double_any (a : Nat) (h1 : a < 256) (w : World) :
    Calls Tryz.prog 102 #[.int .i64 a] w fun e w' => e = .returned (.int .i64 (Gf.dbl a : Nat)) ∧ w' = w := by
  by_cases h : (255 : Int) < a * 2
  · have E : Hid (bits BinOp.xor IntKind.i64 ((a : Int) * 2) 283 = ((Gf.dbl a : Nat) : Int)) := dbl_yes a h1 h
    go_enter Tryz.func102, Tryz.ntmps102
    go_wp2
    go_ret
    exact ⟨ret_int E.out, rfl⟩
  · have E : Hid ((a : Int) * 2 = ((Gf.dbl a : Nat) : Int)) := dbl_no a (by omega)
    go_enter Tryz.func102, Tryz.ntmps102
    go_wp2
    go_ret
    exact ⟨ret_int E.out, rfl⟩
theorem val_eq {k : IntKind} {a b : Nat} (h : a = b) : Value.int k (a : Int) = .int k (b : Int) := by rw [h]
set_option maxRecDepth 100000 in
set_option maxHeartbeats 1000000 in
theorem table_any (w : World) :
    Calls Tryz.prog 87 #[] w fun e w' => (∃ b, w.heap.size ≤ b ∧ e = .returned (.slice (some ⟨b, 0, none⟩) 256 256) ∧ w'.rowIs b 3 256 (fun j => .int .i64 (Gf.sub j : Nat))) ∧ Below w.heap.size w w' := by
  have m1 := make255
  have m2 := make256
  go_enter Tryz.func87, Tryz.ntmps87
  go_wp2
  go_loopw [2, 3] (fun x i wr => ∃ k : Nat, k ≤ 255 ∧ i = .int .i64 k ∧ x = .int .i64 (Gf.pw k : Nat) ∧ wr.rowIs w.heap.size 3 255 (fun j => .int .i64 ((if j < k then Gf.pw j else 0 : Nat) : Int)) ∧ Below w.heap.size w wr ∧ wr.heap.size = w.heap.size + 1) (fun _ i _ => 255 - (intOf i).toNat)
  case atStart =>
    refine ⟨0, by omega, rfl, rfl, ?_, (Below.refl _ _).alloc (Nat.le_refl _) _, by simp⟩
    exact (World.rowIs_made w (.int .i64 0) 255 3).congr (fun j hj => by simp)
  case round =>
    obtain ⟨k, hk, rfl, rfl, hrow, hb, hsz⟩ := hrel
    have HR : Hid (wr.rowIs w.heap.size 3 255 (fun j => .int .i64 ((if j < k then Gf.pw j else 0 : Nat) : Int))) := hrow
    have HB : Hid (Below w.heap.size w wr) := hb
    have HS : Hid (wr.heap.size = w.heap.size + 1) := hsz
    have hp := Gf.pw_lt k
    have E : Hid (bits BinOp.xor IntKind.i64 (Gf.pw k : Int) (Gf.dbl (Gf.pw k) : Int) = ((Gf.pw (k + 1) : Nat) : Int)) := i64_xor_nat _ _ (by omega) (by have := Gf.dbl_lt _ hp; omega)
    by_cases hlt : k < 255
    · have c1 := hrow.cell hlt
      have f1 := hrow.frozen k
      clear hrow hb hsz
      go_wp2_with (go_at_call 102; refine (l01Double_any _ hp _).mono ?_; rintro e w' ⟨rfl, rfl⟩)
      go_roundw
      case rel =>
        refine ⟨k + 1, by omega, by go_num, val_int E.out, ?_, HB.out.setCell (by exact Nat.le_refl _) _, by simpa using HS.out⟩
        exact (HR.out.set k _).congr (fun j hj => by
          by_cases e : j = k
          · subst e; simp
          · simp only [if_neg e]; exact val_eq (by by_cases g : j < k <;> simp [g] <;> omega))
      case measure => simp [intOf]; omega
    · have hrow' : wr.rowIs w.heap.size 3 255 (fun j => .int .i64 (Gf.pw j : Nat)) := hrow.congr (fun j hj => val_eq (by rw [if_pos (by omega)]))
      have HR' : Hid (wr.rowIs w.heap.size 3 255 (fun j => .int .i64 (Gf.pw j : Nat))) := hrow'
      clear hrow hrow' HR hb E hp
      have K1 : Hid ((wr.alloc (Obj.cells ((madeCells #[.int .i64 0] 256).setIfInBounds 0 (.int .i64 99)) 3)).rowIs (w.heap.size + 1) 3 256 (fun j => .int .i64 (Gf.tabTo 0 j : Nat))) := by
        have h := World.rowIs_alloc wr ((madeCells #[.int .i64 0] 256).setIfInBounds 0 (.int .i64 99)) 3 (fun j => .int .i64 (Gf.tabTo 0 j : Nat)) (fun j hj => by
          have hj' : j < 256 := by simpa [size_madeCells] using hj
          rw [Array.getElem?_setIfInBounds]
          by_cases e : j = 0
          · subst e; simp [size_madeCells, Gf.tabTo]
          · rw [if_neg (fun h => e h.symm)]
            simp [madeCells, hj', Nat.mod_one, Gf.tabTo, e])
        rw [HS.out] at h
        exact (by simpa [size_madeCells] using h : World.rowIs _ _ _ _ _)
      have K2 : Hid ((wr.alloc (Obj.cells ((madeCells #[.int .i64 0] 256).setIfInBounds 0 (.int .i64 99)) 3)).rowIs w.heap.size 3 255 (fun j => .int .i64 (Gf.pw j : Nat))) := HR'.out.alloc _
      have K3 : Hid (Below w.heap.size w (wr.alloc (Obj.cells ((madeCells #[.int .i64 0] 256).setIfInBounds 0 (.int .i64 99)) 3))) := HB.out.alloc (by rw [HS.out]; omega) _
      have mc0 : (madeCells #[Value.int IntKind.i64 0] 256)[0]? = some (.int .i64 0) := by simp [madeCells]
      go_wp2
      clear mc0
      generalize wr.alloc (Obj.cells ((madeCells #[.int .i64 0] 256).setIfInBounds 0 (.int .i64 99)) 3) = wz at *
      generalize Gf.pw k = V
      generalize (k : Int) = kk
      clear HR' HB HS hsz wr
      go_loopw [5] (fun i wq => ∃ k : Nat, k ≤ 255 ∧ i = .int .i64 k ∧ wq.rowIs w.heap.size 3 255 (fun j => .int .i64 (Gf.pw j : Nat)) ∧ wq.rowIs (w.heap.size + 1) 3 256 (fun j => .int .i64 (Gf.tabTo k j : Nat)) ∧ Below w.heap.size w wq) (fun i _ => 255 - (intOf i).toNat)
      case atStart => exact ⟨0, by omega, rfl, K2.out, K1.out, K3.out⟩
      case round =>
        obtain ⟨k, hk, rfl, hrow1, hrow2, hb⟩ := hrel
        have H1 : Hid (wr.rowIs w.heap.size 3 255 (fun j => .int .i64 (Gf.pw j : Nat))) := hrow1
        have H2 : Hid (wr.rowIs (w.heap.size + 1) 3 256 (fun j => .int .i64 (Gf.tabTo k j : Nat))) := hrow2
        have HB : Hid (Below w.heap.size w wr) := hb
        by_cases hlt : k < 255
        · have hp := Gf.pw_lt k
          have hq := Gf.pw_lt ((255 - k) % 255)
          have c1 := hrow1.cell hlt
          have hm : (255 - k) % 255 < 255 := Nat.mod_lt _ (by omega)
          have c2 := hrow1.cell hm
          have c3 := hrow2.cell hp
          have f3 := hrow2.frozen (Gf.pw k)
          have ew : IntKind.i64.wrap (255 - (k : Int)) = ((255 - k : Nat) : Int) := by
            rw [show 255 - (k : Int) = ((255 - k : Nat) : Int) from by omega]
            exact IntWalk.i64_in _ ⟨by omega, by omega⟩
          have et : ((255 - k : Nat) : Int).tmod 255 = (((255 - k) % 255 : Nat) : Int) := (Int.ofNat_tmod (255 - k) 255).symm
          have hp' : (Gf.pw k : Int) < 256 := by omega
          have hm' : (((255 - k) % 255 : Nat) : Int) < 255 := by omega
          have E : Hid (∀ j, Gf.tabTo (k + 1) j = if j = Gf.pw k then Gf.spread (Gf.pw ((255 - k) % 255)) else Gf.tabTo k j) := fun j => rfl
          clear hrow1 hrow2 hb K1 K2 K3
          generalize (255 - k) % 255 = M at *
          generalize 255 - k = N at *
          generalize Gf.pw k = P at *
          generalize Gf.pw M = R at *
          go_wp2
          go_region_held3 (fun w' => w'.cell? ⟨w.heap.size, k, none⟩ = some (.int .i64 P) ∧ w'.cell? ⟨w.heap.size, M, none⟩ = some (.int .i64 R) ∧ w'.frozen? ⟨w.heap.size + 1, P, none⟩ = false) (simp [go_sem, *]) ((go_at_call 103; refine (affine_any R hq _).mono ?_; rintro e w' ⟨rfl, rfl⟩))
          go_wp2
          go_roundw
          case rel =>
            refine ⟨k + 1, by omega, by go_num, (H1.out.setOther (by simp) _).drew, ?_, (HB.out.setCell (by simp) _).drew⟩
            exact ((H2.out.set P _).drew).congr (fun j hj => by
              rw [E.out j]
              by_cases e : j = P
              · simp [e]
              · simp [e])
          case measure => simp [intOf]; omega
        · obtain rfl : k = 255 := by omega
          clear hrow1 hrow2 hb K1 K2 K3
          go_wp2
          go_ret
          exact ⟨⟨w.heap.size + 1, by omega, rfl, H2.out.congr (fun j hj => val_eq (Gf.tab_last j hj))⟩, HB.out⟩
end Go.Proofs.YtkmakpbphdjbcaaGreatDoor
