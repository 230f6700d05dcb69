/-
  Contracts of the mixing of a column in the program (mix).
-/
import Derived.Test.YtbhlgcenfanicaaByte
import Derived.Test.YtbhlgcenfanicaaCols
import Derived.Test.YtbhlgcenfanicaaIntS
import Derived.Handy
import Derived.Deep.QuietTactic
import Derived.BigQuiet
import Derived.Below
namespace Go.Proofs.Ytbhlgcenfanicaa
open Go.ChangeShapes Go.WideShapes Go.ChangeAt Go.RowKit
namespace Gf
def mx (a b c d x y : Nat) : Nat := (((((a ^^^ b) ^^^ c) ^^^ d)) ^^^ x) ^^^ dbl (x ^^^ y)
theorem mx_lt {a b c d x y : Nat} (ha : a < 256) (hb : b < 256) (hc : c < 256) (hd : d < 256) (hx : x < 256) (hy : y < 256) : mx a b c d x y < 256 :=
  xor_lt (xor_lt (xor_lt (xor_lt (xor_lt ha hb) hc) hd) hx) (dbl_lt _ (xor_lt hx hy))
end Gf
set_option maxRecDepth 100000 in
set_option maxHeartbeats 2000000 in
theorem mix_any (a b c d : Nat) (ha : a < 256) (hb : b < 256) (hc : c < 256) (hd : d < 256) (w : World) :
    Calls Try.prog 79 #[.agg #[.int .u8 a, .int .u8 b, .int .u8 c, .int .u8 d]] w fun e w' =>
      e = .returned (.agg #[.int .u8 (Gf.mx a b c d a b : Nat), .int .u8 (Gf.mx a b c d b c : Nat), .int .u8 (Gf.mx a b c d c d : Nat), .int .u8 (Gf.mx a b c d d a : Nat)]) ∧ Below w.heap.size w w' := by
  have hx : ∀ x y : Nat, x < 256 → y < 256 → bits .xor .u8 (x : Int) (y : Int) = ((x ^^^ y : Nat) : Int) := u8_xor_nat
  have hl : ∀ x y : Nat, x < 256 → y < 256 → x ^^^ y < 256 := fun x y => Gf.xor_lt
  have l1 := Gf.xor_lt ha hb
  have l2 := Gf.xor_lt l1 hc
  have l3 := Gf.xor_lt l2 hd
  have m1 := Gf.xor_lt hb hc
  have m2 := Gf.xor_lt hc hd
  have m3 := Gf.xor_lt hd ha
  have d0 := Gf.dbl_lt _ l1
  have d1 := Gf.dbl_lt _ m1
  have d2 := Gf.dbl_lt _ m2
  have d3 := Gf.dbl_lt _ m3
  have i0 : ∀ w : World, (Instr.index 92 (.agg #[.int .u8 a, .int .u8 b, .int .u8 c, .int .u8 d]) (.int .i64 0)).run Try.prog w = .ok (.int .u8 a) w := fun w => run_index_flat (k := 0) Try.underlying92 Try.underlying5 rfl Try.sizeU8 (by omega) rfl w
  have i1 : ∀ w : World, (Instr.index 92 (.agg #[.int .u8 a, .int .u8 b, .int .u8 c, .int .u8 d]) (.int .i64 1)).run Try.prog w = .ok (.int .u8 b) w := fun w => run_index_flat (k := 1) Try.underlying92 Try.underlying5 rfl Try.sizeU8 (by omega) rfl w
  have i2 : ∀ w : World, (Instr.index 92 (.agg #[.int .u8 a, .int .u8 b, .int .u8 c, .int .u8 d]) (.int .i64 2)).run Try.prog w = .ok (.int .u8 c) w := fun w => run_index_flat (k := 2) Try.underlying92 Try.underlying5 rfl Try.sizeU8 (by omega) rfl w
  have i3 : ∀ w : World, (Instr.index 92 (.agg #[.int .u8 a, .int .u8 b, .int .u8 c, .int .u8 d]) (.int .i64 3)).run Try.prog w = .ok (.int .u8 d) w := fun w => run_index_flat (k := 3) Try.underlying92 Try.underlying5 rfl Try.sizeU8 (by omega) rfl w
  go_enter Try.func79, Try.ntmps79
  go_wp2
  refine wp_loop_rounds 5 ?_
  rw [rounds_succ]
  go_wp2_with (go_at_call 74; refine (double_any (a ^^^ b) l1 _).mono ?_; rintro e w' ⟨rfl, rfl⟩)
  rw [rounds_succ]
  go_wp2_with (go_at_call 74; refine (double_any (b ^^^ c) m1 _).mono ?_; rintro e w' ⟨rfl, rfl⟩)
  rw [rounds_succ]
  go_wp2_with (go_at_call 74; refine (double_any (c ^^^ d) m2 _).mono ?_; rintro e w' ⟨rfl, rfl⟩)
  rw [rounds_succ]
  go_wp2_with (go_at_call 74; refine (double_any (d ^^^ a) m3 _).mono ?_; rintro e w' ⟨rfl, rfl⟩)
  rw [rounds_succ]
  go_wp2
  exact bodyPost_ret (v := .agg #[.int .u8 (Gf.mx a b c d a b : Nat), .int .u8 (Gf.mx a b c d b c : Nat), .int .u8 (Gf.mx a b c d c d : Nat), .int .u8 (Gf.mx a b c d d a : Nat)]) (by simp [results, Try.results79, go_sem, Gf.mx]) rfl ⟨rfl, (((Below.refl _ _).alloc (Nat.le_refl _) _).alloc (by simp) _).alloc (by simp; omega) _⟩

/-- Is the number a byte? -/
def IsB (n : Int) : Prop := 0 ≤ n ∧ n ≤ 255
/-- What mixing a column of n numbers that read as f comes to: how many numbers, which, and the code. -/
def MixRes (n : Nat) (f : Nat → Int) (m : Nat) (g : Nat → Int) (code : Int) : Prop :=
  (4096 < n ∧ m = 0 ∧ code = 2) ∨ (n ≤ 4096 ∧ n ≠ 4 ∧ m = 0 ∧ code = 1) ∨ (n = 4 ∧ ¬ (IsB (f 0) ∧ IsB (f 1) ∧ IsB (f 2) ∧ IsB (f 3)) ∧ m = 0 ∧ code = 4) ∨
  (n = 4 ∧ (IsB (f 0) ∧ IsB (f 1) ∧ IsB (f 2) ∧ IsB (f 3)) ∧ m = 4 ∧ code = 0 ∧
    g 0 = (Gf.mx (f 0).toNat (f 1).toNat (f 2).toNat (f 3).toNat (f 0).toNat (f 1).toNat : Nat) ∧ g 1 = (Gf.mx (f 0).toNat (f 1).toNat (f 2).toNat (f 3).toNat (f 1).toNat (f 2).toNat : Nat) ∧
    g 2 = (Gf.mx (f 0).toNat (f 1).toNat (f 2).toNat (f 3).toNat (f 2).toNat (f 3).toNat : Nat) ∧ g 3 = (Gf.mx (f 0).toNat (f 1).toNat (f 2).toNat (f 3).toNat (f 3).toNat (f 0).toNat : Nat))
theorem MixRes.same {n m m' : Nat} {f g g' : Nat → Int} {code code' : Int} (h : MixRes n f m g code) (h' : MixRes n f m' g' code') : m = m' ∧ code = code' ∧ ∀ i, i < m → g i = g' i := by
  rcases h with ⟨a, rfl, rfl⟩ | ⟨a, b, rfl, rfl⟩ | ⟨rfl, b, rfl, rfl⟩ | ⟨rfl, b, rfl, rfl, e0, e1, e2, e3⟩ <;>
  rcases h' with ⟨a', rfl, rfl⟩ | ⟨a', b', rfl, rfl⟩ | ⟨a', b', rfl, rfl⟩ | ⟨a', b', rfl, rfl, e0', e1', e2', e3'⟩
  all_goals first
    | omega
    | exact absurd b b'
    | exact absurd b' b
    | exact ⟨rfl, rfl, fun i hi => absurd hi (by omega)⟩
    | (refine ⟨rfl, rfl, fun i hi => ?_⟩
       rcases (show i = 0 ∨ i = 1 ∨ i = 2 ∨ i = 3 by omega) with rfl | rfl | rfl | rfl
       · rw [e0, e0']
       · rw [e1, e1']
       · rw [e2, e2']
       · rw [e3, e3'])
theorem make4 (w : World) : (Instr.makeSlice 59 (.int .i64 4) (.int .i64 4)).run Try.prog w = .ok (.slice (some ⟨w.heap.size, 0, none⟩) 4 4) (w.alloc (.cells #[.int .i64 0, .int .i64 0, .int .i64 0, .int .i64 0] 3)) := by
  have e : madeCells #[Value.int .i64 0] 4 = #[.int .i64 0, .int .i64 0, .int .i64 0, .int .i64 0] := by kernel_rfl
  have h := mkInts 4 (by omega) w
  rw [e] at h
  exact h
/-- The mixed column, by the place. -/
def mixG (A B C D : Nat) : Nat → Int
  | 0 => (Gf.mx A B C D A B : Nat)
  | 1 => (Gf.mx A B C D B C : Nat)
  | 2 => (Gf.mx A B C D C D : Nat)
  | _ => (Gf.mx A B C D D A : Nat)
theorem four_rows {w : World} (x0 x1 x2 x3 : Value) (f : Nat → Value) (h0 : x0 = f 0) (h1 : x1 = f 1) (h2 : x2 = f 2) (h3 : x3 = f 3) (t : TypeId) : (w.alloc (.cells #[x0, x1, x2, x3] t)).rowIs w.heap.size t 4 f := by
  refine World.rowIs_alloc w #[x0, x1, x2, x3] t f (fun i hi => ?_)
  have hi' : i < 4 := hi
  rcases (show i = 0 ∨ i = 1 ∨ i = 2 ∨ i = 3 by omega) with rfl | rfl | rfl | rfl
  · simp [h0]
  · simp [h1]
  · simp [h2]
  · simp [h3]
theorem toNat_of {x : Int} {A : Nat} (h : x = A) : x.toNat = A := by rw [h]; rfl
theorem isB_nat {x : Int} (h : IsB x) : ∃ A : Nat, x = A ∧ A < 256 := ⟨x.toNat, by have := h.1; omega, by have := h.2; have := h.1; omega⟩
end Go.Proofs.Ytbhlgcenfanicaa
