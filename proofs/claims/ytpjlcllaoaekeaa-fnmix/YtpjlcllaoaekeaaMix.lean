/-
  Contracts of the mixing of a column in the program (mix).
-/
import Derived.Test.YtpjlcllaoaekeaaByte
import Derived.Test.YtpjlcllaoaekeaaCols
import Derived.Test.YtpjlcllaoaekeaaIntS
import Derived.Handy
import Derived.Deep.QuietTactic
import Derived.BigQuiet
import Derived.Below
namespace Go.Proofs.Ytpjlcllaoaekeaa
open Go.ChangeShapes Go.WideShapes Go.ChangeAt Go.RowKit
namespace Gf
def mx (a b c d x y : Nat) : Nat := (((((a ^^^ b) ^^^ c) ^^^ d)) ^^^ x) ^^^ dbl (x ^^^ y)
theorem mx_lt {a b c d x y : Nat} (ha : a < 256) (hb : b < 256) (hc : c < 256) (hd : d < 256) (hx : x < 256) (hy : y < 256) : mx a b c d x y < 256 :=
  xor_lt (xor_lt (xor_lt (xor_lt (xor_lt ha hb) hc) hd) hx) (dbl_lt _ (xor_lt hx hy))
end Gf
set_option maxRecDepth 100000 in
set_option maxHeartbeats 2000000 in
theorem mix_any (a b c d : Nat) (ha : a < 256) (hb : b < 256) (hc : c < 256) (hd : d < 256) (w : World) :
    Calls Try.prog 32 #[.agg #[.int .u8 a, .int .u8 b, .int .u8 c, .int .u8 d]] w fun e w' =>
      e = .returned (.agg #[.int .u8 (Gf.mx a b c d a b : Nat), .int .u8 (Gf.mx a b c d b c : Nat), .int .u8 (Gf.mx a b c d c d : Nat), .int .u8 (Gf.mx a b c d d a : Nat)]) ∧ Below w.heap.size w w' := by
  have hx : ∀ x y : Nat, x < 256 → y < 256 → bits .xor .u8 (x : Int) (y : Int) = ((x ^^^ y : Nat) : Int) := u8_xor_nat
  have hl : ∀ x y : Nat, x < 256 → y < 256 → x ^^^ y < 256 := fun x y => Gf.xor_lt
  have l1 := Gf.xor_lt ha hb
  have l2 := Gf.xor_lt l1 hc
  have l3 := Gf.xor_lt l2 hd
  have m1 := Gf.xor_lt hb hc
  have m2 := Gf.xor_lt hc hd
  have m3 := Gf.xor_lt hd ha
  have d0 := Gf.dbl_lt _ l1
  have d1 := Gf.dbl_lt _ m1
  have d2 := Gf.dbl_lt _ m2
  have d3 := Gf.dbl_lt _ m3
  have i0 : ∀ w : World, (Instr.index 47 (.agg #[.int .u8 a, .int .u8 b, .int .u8 c, .int .u8 d]) (.int .i64 0)).run Try.prog w = .ok (.int .u8 a) w := fun w => run_index_flat (k := 0) Try.underlying47 Try.underlying5 rfl Try.sizeU8 (by omega) rfl w
  have i1 : ∀ w : World, (Instr.index 47 (.agg #[.int .u8 a, .int .u8 b, .int .u8 c, .int .u8 d]) (.int .i64 1)).run Try.prog w = .ok (.int .u8 b) w := fun w => run_index_flat (k := 1) Try.underlying47 Try.underlying5 rfl Try.sizeU8 (by omega) rfl w
  have i2 : ∀ w : World, (Instr.index 47 (.agg #[.int .u8 a, .int .u8 b, .int .u8 c, .int .u8 d]) (.int .i64 2)).run Try.prog w = .ok (.int .u8 c) w := fun w => run_index_flat (k := 2) Try.underlying47 Try.underlying5 rfl Try.sizeU8 (by omega) rfl w
  have i3 : ∀ w : World, (Instr.index 47 (.agg #[.int .u8 a, .int .u8 b, .int .u8 c, .int .u8 d]) (.int .i64 3)).run Try.prog w = .ok (.int .u8 d) w := fun w => run_index_flat (k := 3) Try.underlying47 Try.underlying5 rfl Try.sizeU8 (by omega) rfl w
  go_enter Try.func32, Try.ntmps32
  go_wp2
  refine wp_loop_rounds 5 ?_
  rw [rounds_succ]
  go_wp2_with (go_at_call 46; refine (double_any (a ^^^ b) l1 _).mono ?_; rintro e w' ⟨rfl, rfl⟩)
  rw [rounds_succ]
  go_wp2_with (go_at_call 46; refine (double_any (b ^^^ c) m1 _).mono ?_; rintro e w' ⟨rfl, rfl⟩)
  rw [rounds_succ]
  go_wp2_with (go_at_call 46; refine (double_any (c ^^^ d) m2 _).mono ?_; rintro e w' ⟨rfl, rfl⟩)
  rw [rounds_succ]
  go_wp2_with (go_at_call 46; refine (double_any (d ^^^ a) m3 _).mono ?_; rintro e w' ⟨rfl, rfl⟩)
  rw [rounds_succ]
  go_wp2
  exact bodyPost_ret (v := .agg #[.int .u8 (Gf.mx a b c d a b : Nat), .int .u8 (Gf.mx a b c d b c : Nat), .int .u8 (Gf.mx a b c d c d : Nat), .int .u8 (Gf.mx a b c d d a : Nat)]) (by simp [results, Try.results32, go_sem, Gf.mx]) rfl ⟨rfl, (((Below.refl _ _).alloc (Nat.le_refl _) _).alloc (by simp) _).alloc (by simp; omega) _⟩

/-- Is the number a byte? -/
def IsB (n : Int) : Prop := 0 ≤ n ∧ n ≤ 255
/-- What mixing a column of n numbers that read as f comes to: how many numbers, which, and the code. -/
def MixRes (n : Nat) (f : Nat → Int) (m : Nat) (g : Nat → Int) (code : Int) : Prop :=
  (4096 < n ∧ m = 0 ∧ code = 2) ∨ (n ≤ 4096 ∧ n ≠ 4 ∧ m = 0 ∧ code = 1) ∨ (n = 4 ∧ ¬ (IsB (f 0) ∧ IsB (f 1) ∧ IsB (f 2) ∧ IsB (f 3)) ∧ m = 0 ∧ code = 4) ∨
  (n = 4 ∧ (IsB (f 0) ∧ IsB (f 1) ∧ IsB (f 2) ∧ IsB (f 3)) ∧ m = 4 ∧ code = 0 ∧
    g 0 = (Gf.mx (f 0).toNat (f 1).toNat (f 2).toNat (f 3).toNat (f 0).toNat (f 1).toNat : Nat) ∧ g 1 = (Gf.mx (f 0).toNat (f 1).toNat (f 2).toNat (f 3).toNat (f 1).toNat (f 2).toNat : Nat) ∧
    g 2 = (Gf.mx (f 0).toNat (f 1).toNat (f 2).toNat (f 3).toNat (f 2).toNat (f 3).toNat : Nat) ∧ g 3 = (Gf.mx (f 0).toNat (f 1).toNat (f 2).toNat (f 3).toNat (f 3).toNat (f 0).toNat : Nat))
theorem MixRes.same {n m m' : Nat} {f g g' : Nat → Int} {code code' : Int} (h : MixRes n f m g code) (h' : MixRes n f m' g' code') : m = m' ∧ code = code' ∧ ∀ i, i < m → g i = g' i := by
  rcases h with ⟨a, rfl, rfl⟩ | ⟨a, b, rfl, rfl⟩ | ⟨rfl, b, rfl, rfl⟩ | ⟨rfl, b, rfl, rfl, e0, e1, e2, e3⟩ <;>
  rcases h' with ⟨a', rfl, rfl⟩ | ⟨a', b', rfl, rfl⟩ | ⟨a', b', rfl, rfl⟩ | ⟨a', b', rfl, rfl, e0', e1', e2', e3'⟩
  all_goals first
    | omega
    | exact absurd b b'
    | exact absurd b' b
    | exact ⟨rfl, rfl, fun i hi => absurd hi (by omega)⟩
    | (refine ⟨rfl, rfl, fun i hi => ?_⟩
       rcases (show i = 0 ∨ i = 1 ∨ i = 2 ∨ i = 3 by omega) with rfl | rfl | rfl | rfl
       · rw [e0, e0']
       · rw [e1, e1']
       · rw [e2, e2']
       · rw [e3, e3'])
theorem make4 (w : World) : (Instr.makeSlice 30 (.int .i64 4) (.int .i64 4)).run Try.prog w = .ok (.slice (some ⟨w.heap.size, 0, none⟩) 4 4) (w.alloc (.cells #[.int .i64 0, .int .i64 0, .int .i64 0, .int .i64 0] 3)) := by
  have e : madeCells #[Value.int .i64 0] 4 = #[.int .i64 0, .int .i64 0, .int .i64 0, .int .i64 0] := by kernel_rfl
  have h := mkInts 4 (by omega) w
  rw [e] at h
  exact h
/-- The mixed column, by the place. -/
def mixG (A B C D : Nat) : Nat → Int
  | 0 => (Gf.mx A B C D A B : Nat)
  | 1 => (Gf.mx A B C D B C : Nat)
  | 2 => (Gf.mx A B C D C D : Nat)
  | _ => (Gf.mx A B C D D A : Nat)
theorem four_rows {w : World} (x0 x1 x2 x3 : Value) (f : Nat → Value) (h0 : x0 = f 0) (h1 : x1 = f 1) (h2 : x2 = f 2) (h3 : x3 = f 3) (t : TypeId) : (w.alloc (.cells #[x0, x1, x2, x3] t)).rowIs w.heap.size t 4 f := by
  refine World.rowIs_alloc w #[x0, x1, x2, x3] t f (fun i hi => ?_)
  have hi' : i < 4 := hi
  rcases (show i = 0 ∨ i = 1 ∨ i = 2 ∨ i = 3 by omega) with rfl | rfl | rfl | rfl
  · simp [h0]
  · simp [h1]
  · simp [h2]
  · simp [h3]
theorem toNat_of {x : Int} {A : Nat} (h : x = A) : x.toNat = A := by rw [h]; rfl
theorem isB_nat {x : Int} (h : IsB x) : ∃ A : Nat, x = A ∧ A < 256 := ⟨x.toNat, by have := h.1; omega, by have := h.2; have := h.1; omega⟩
set_option maxRecDepth 100000 in
set_option maxHeartbeats 2000000 in
/-- impl.MixColumn -/
theorem implMix_any (a : Option Addr) (n c : Nat) (f : Nat → Int) (w : World) (h : Ints w a n f) (hn : n ≤ 1048576) :
    Calls Try.prog 14 #[.slice a n c] w fun e w' => (∃ p m k g code, e = .returned (.tuple #[.slice p m k, .int .i64 code]) ∧ MixRes n f m g code ∧ OwnInts w' w.heap.size p m g) ∧ Below w.heap.size w w' := by
  by_cases h1 : 4096 < n
  · have H : Hid (MixRes n f 0 f 2) := .inl ⟨h1, rfl, rfl⟩
    go_enter Try.func14, Try.ntmps14
    go_wp2
    go_ret2
    exact ⟨⟨none, 0, 0, f, 2, rfl, H.out, .inl rfl⟩, Below.refl _ _⟩
  by_cases h2 : n ≠ 4
  · have H : Hid (MixRes n f 0 f 1) := .inr (.inl ⟨by omega, h2, rfl, rfl⟩)
    have g2 : ((n : Int) != 4) = true := by simp; omega
    go_enter Try.func14, Try.ntmps14
    go_wp2
    go_ret2
    exact ⟨⟨none, 0, 0, f, 1, rfl, H.out, .inl rfl⟩, Below.refl _ _⟩
  obtain rfl : n = 4 := by omega
  obtain ⟨b, off, rfl, hc⟩ := h.opened (by omega)
  have hbl := cellBlock (hc 0 (by omega))
  have e0 := hc 0 (by omega)
  have e1 := hc 1 (by omega)
  have e2 := hc 2 (by omega)
  have e3 := hc 3 (by omega)
  rw [Nat.add_zero] at e0
  clear h hc h1 h2
  by_cases hb : IsB (f 0) ∧ IsB (f 1) ∧ IsB (f 2) ∧ IsB (f 3)
  · obtain ⟨b0, b1, b2, b3⟩ := hb
    obtain ⟨A, hA, lA⟩ := isB_nat b0
    obtain ⟨B, hB, lB⟩ := isB_nat b1
    obtain ⟨C, hC, lC⟩ := isB_nat b2
    obtain ⟨D, hD, lD⟩ := isB_nat b3
    have H : Hid (MixRes 4 f 4 (mixG A B C D) 0) := .inr (.inr (.inr ⟨rfl, ⟨b0, b1, b2, b3⟩, rfl, rfl, by rw [toNat_of hA, toNat_of hB, toNat_of hC, toNat_of hD]; exact ⟨rfl, rfl, rfl, rfl⟩⟩))
    rw [hA] at e0
    rw [hB] at e1
    rw [hC] at e2
    rw [hD] at e3
    have x0 := Gf.mx_lt lA lB lC lD lA lB
    have x1 := Gf.mx_lt lA lB lC lD lB lC
    have x2 := Gf.mx_lt lA lB lC lD lC lD
    have x3 := Gf.mx_lt lA lB lC lD lD lA
    have G : Hid (mixG A B C D = mixG A B C D ∧ mixG A B C D 0 = (Gf.mx A B C D A B : Nat) ∧ mixG A B C D 1 = (Gf.mx A B C D B C : Nat) ∧ mixG A B C D 2 = (Gf.mx A B C D C D : Nat) ∧ mixG A B C D 3 = (Gf.mx A B C D D A : Nat)) := ⟨rfl, rfl, rfl, rfl, rfl⟩
    have j0 := idx0
    have j1 := idx1
    have j2 := idx2
    have j3 := idx3
    have mk := make4
    clear b0 b1 b2 b3 hA hB hC hD
    go_enter Try.func14, Try.ntmps14
    go_wp2
    refine wp_loop_rounds 5 ?_
    rw [rounds_succ]
    go_wp2_with (go_at_call 24; refine (isByte_yes _ (by omega) (by omega) _).mono ?_; rintro e w' ⟨rfl, rfl⟩)
    rw [rounds_succ]
    go_wp2_with (go_at_call 24; refine (isByte_yes _ (by omega) (by omega) _).mono ?_; rintro e w' ⟨rfl, rfl⟩)
    rw [rounds_succ]
    go_wp2_with (go_at_call 24; refine (isByte_yes _ (by omega) (by omega) _).mono ?_; rintro e w' ⟨rfl, rfl⟩)
    rw [rounds_succ]
    go_wp2_with (go_at_call 24; refine (isByte_yes _ (by omega) (by omega) _).mono ?_; rintro e w' ⟨rfl, rfl⟩)
    rw [rounds_succ]
    go_wp2_with fail
    refine (mix_any A B C D lA lB lC lD _).mono ?_; rintro e w1 ⟨rfl, hbel⟩
    have row0 := four_rows (w := w.alloc (Obj.cells #[.int .u8 A, .int .u8 B, .int .u8 C, .int .u8 D] 47)) (.int .i64 0) (.int .i64 0) (.int .i64 0) (.int .i64 0) (fun _ => .int .i64 0) rfl rfl rfl rfl 3
    have row1 : w1.rowIs (w.heap.size + 1) 3 4 (fun _ => .int .i64 0) := by
      have := row0.of_block (hbel.block _ (by simp))
      simpa using this
    have HB : Hid (Below w.heap.size w w1) := ((((Below.refl _ _).alloc (Nat.le_refl _) _).alloc (by simp) _).trans (hbel.mono (by simp; omega)))
    have R1 : Hid (w1.rowIs (w.heap.size + 1) 3 4 (fun _ => .int .i64 0)) := row1
    have k0 := row1.cell (i := 0) (by omega)
    have k1 := row1.cell (i := 1) (by omega)
    have k2 := row1.cell (i := 2) (by omega)
    have k3 := row1.cell (i := 3) (by omega)
    have q0 := row1.frozen 0
    have q1 := row1.frozen 1
    have q2 := row1.frozen 2
    have q3 := row1.frozen 3
    clear row0 row1 hbel e0 e1 e2 e3
    go_wp2_with fail
    refine wp_loop_rounds 5 ?_
    rw [rounds_succ]
    go_wp2
    rw [rounds_succ]
    go_wp2
    rw [rounds_succ]
    go_wp2
    rw [rounds_succ]
    go_wp2
    rw [rounds_succ]
    go_wp2
    go_ret2
    refine ⟨⟨some ⟨w.heap.size + 1, 0, none⟩, 4, 4, mixG A B C D, 0, rfl, H.out, .inr ⟨w.heap.size + 1, by omega, rfl, ?_⟩⟩, ?_⟩
    · refine ((((R1.out.set 0 _).set 1 _).set 2 _).set 3 _).congr (fun i hi => ?_)
      rcases (show i = 0 ∨ i = 1 ∨ i = 2 ∨ i = 3 by omega) with rfl | rfl | rfl | rfl
      · simp [G.out.2.1]
      · simp [G.out.2.2.1]
      · simp [G.out.2.2.2.1]
      · simp [G.out.2.2.2.2]
    · exact (((HB.out.setCell (by simp) _).setCell (by simp) _).setCell (by simp) _).setCell (by simp) _
  · have H : Hid (MixRes 4 f 0 f 4) := .inr (.inr (.inl ⟨rfl, hb, rfl, rfl⟩))
    by_cases b0 : IsB (f 0)
    · by_cases b1 : IsB (f 1)
      · by_cases b2 : IsB (f 2)
        · have n3 : Hid (f 3 < 0 ∨ 255 < f 3) := by
            have : ¬ IsB (f 3) := fun b3 => hb ⟨b0, b1, b2, b3⟩
            show _ ∨ _; unfold IsB at this; omega
          obtain ⟨b0, b0'⟩ := b0; obtain ⟨b1, b1'⟩ := b1; obtain ⟨b2, b2'⟩ := b2
          clear hb
          generalize f 0 = y0 at *; generalize f 1 = y1 at *; generalize f 2 = y2 at *; generalize f 3 = y3 at *
          go_enter Try.func14, Try.ntmps14
          go_wp2
          refine wp_loop_rounds 5 ?_
          rw [rounds_succ]
          go_wp2_with (go_at_call 24; refine (isByte_yes y0 b0 b0' _).mono ?_; rintro e w' ⟨rfl, rfl⟩)
          rw [rounds_succ]
          go_wp2_with (go_at_call 24; refine (isByte_yes y1 b1 b1' _).mono ?_; rintro e w' ⟨rfl, rfl⟩)
          rw [rounds_succ]
          go_wp2_with (go_at_call 24; refine (isByte_yes y2 b2 b2' _).mono ?_; rintro e w' ⟨rfl, rfl⟩)
          rw [rounds_succ]
          go_wp2_with (go_at_call 24; refine (isByte_no y3 n3.out _).mono ?_; rintro e w' ⟨rfl, rfl⟩)
          go_ret2
          exact ⟨⟨none, 0, 0, f, 4, rfl, H.out, .inl rfl⟩, (((((Below.refl _ _).alloc (Nat.le_refl _) _))))⟩
        · have n2 : Hid (f 2 < 0 ∨ 255 < f 2) := by show _ ∨ _; unfold IsB at b2; omega
          obtain ⟨b0, b0'⟩ := b0; obtain ⟨b1, b1'⟩ := b1
          clear hb b2
          generalize f 0 = y0 at *; generalize f 1 = y1 at *; generalize f 2 = y2 at *; generalize f 3 = y3 at *
          go_enter Try.func14, Try.ntmps14
          go_wp2
          refine wp_loop_rounds 5 ?_
          rw [rounds_succ]
          go_wp2_with (go_at_call 24; refine (isByte_yes y0 b0 b0' _).mono ?_; rintro e w' ⟨rfl, rfl⟩)
          rw [rounds_succ]
          go_wp2_with (go_at_call 24; refine (isByte_yes y1 b1 b1' _).mono ?_; rintro e w' ⟨rfl, rfl⟩)
          rw [rounds_succ]
          go_wp2_with (go_at_call 24; refine (isByte_no y2 n2.out _).mono ?_; rintro e w' ⟨rfl, rfl⟩)
          go_ret2
          exact ⟨⟨none, 0, 0, f, 4, rfl, H.out, .inl rfl⟩, (Below.refl _ _).alloc (Nat.le_refl _) _⟩
      · have n1 : Hid (f 1 < 0 ∨ 255 < f 1) := by show _ ∨ _; unfold IsB at b1; omega
        obtain ⟨b0, b0'⟩ := b0
        clear hb b1
        generalize f 0 = y0 at *; generalize f 1 = y1 at *; generalize f 2 = y2 at *; generalize f 3 = y3 at *
        go_enter Try.func14, Try.ntmps14
        go_wp2
        refine wp_loop_rounds 5 ?_
        rw [rounds_succ]
        go_wp2_with (go_at_call 24; refine (isByte_yes y0 b0 b0' _).mono ?_; rintro e w' ⟨rfl, rfl⟩)
        rw [rounds_succ]
        go_wp2_with (go_at_call 24; refine (isByte_no y1 n1.out _).mono ?_; rintro e w' ⟨rfl, rfl⟩)
        go_ret2
        exact ⟨⟨none, 0, 0, f, 4, rfl, H.out, .inl rfl⟩, (Below.refl _ _).alloc (Nat.le_refl _) _⟩
    · have n0 : Hid (f 0 < 0 ∨ 255 < f 0) := by show _ ∨ _; unfold IsB at b0; omega
      clear hb b0
      generalize f 0 = y0 at *; generalize f 1 = y1 at *; generalize f 2 = y2 at *; generalize f 3 = y3 at *
      go_enter Try.func14, Try.ntmps14
      go_wp2
      refine wp_loop_rounds 5 ?_
      rw [rounds_succ]
      go_wp2_with (go_at_call 24; refine (isByte_no y0 n0.out _).mono ?_; rintro e w' ⟨rfl, rfl⟩)
      go_ret2
      exact ⟨⟨none, 0, 0, f, 4, rfl, H.out, .inl rfl⟩, (Below.refl _ _).alloc (Nat.le_refl _) _⟩
end Go.Proofs.Ytpjlcllaoaekeaa
