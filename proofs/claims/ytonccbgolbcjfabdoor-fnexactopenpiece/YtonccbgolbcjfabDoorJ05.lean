/-
  Contracts of slices.Repeat and slices.Concat at slices of bytes.
-/
import Derived.Test.YtonccbgolbcjfabDoorSlices
import Derived.Deep.Cut
import Derived.Deep.CutRange
import Derived.Deep.DeepCutAuto
import Derived.Deep.RegionHeld3
import Derived.Test.YtonccbgolbcjfabDoorPadMath
import Derived.Test.YtonccbgolbcjfabDoorRows
import Derived.WalkKit
import Derived.ProofKit
import Derived.OpenShut
import Derived.Below
import Derived.WalkSmall
import Derived.Deep.QuietTactic
import Derived.BigQuiet
import Derived.Deep.OwnRows
import Derived.Test.YtonccbgolbcjfabDoorJ02
import Derived.Handy
import Derived.Test.YtonccbgolbcjfabDoorArr
import Derived.Laws.ComplexArith
import Derived.Deep.RegionWith
import Derived.Deep.MidRow
import Derived.Test.YtonccbgolbcjfabDoorBytes
namespace Go.Proofs.YtonccbgolbcjfabDoor
open Go.ChangeShapes Go.WideShapes Go.ChangeAt Go.RowKit
theorem mem_two {w w' : World} {sb : Nat} {a1 a2 : Value} (h1 : w.cell? ⟨sb, 0, none⟩ = some a1) (h2 : w.cell? ⟨sb, 1, none⟩ = some a2) (hb : Below w.heap.size w w') : w'.cell? ⟨sb, 0, none⟩ = some a1 ∧ w'.cell? ⟨sb, 1, none⟩ = some a2 :=
  ⟨by rw [hb.cell (p := ⟨sb, 0, none⟩) (strBlock h1)]; exact h1, by rw [hb.cell (p := ⟨sb, 1, none⟩) (strBlock h2)]; exact h2⟩
set_option maxRecDepth 100000 in
set_option maxHeartbeats 2000000 in
/-- slices.Concat of two slices of bytes, the second one not empty. -/
theorem concat_any (sb b1 o1 n1 c1 b2 o2 n2 c2 : Nat) (f1 f2 : Nat → Nat) (hn1 : n1 ≤ 100000) (hn2 : 1 ≤ n2) (hn2' : n2 ≤ 100000) (w : World)
    (s1 : w.cell? ⟨sb, 0, none⟩ = some (.slice (some ⟨b1, o1, none⟩) n1 c1)) (s2 : w.cell? ⟨sb, 1, none⟩ = some (.slice (some ⟨b2, o2, none⟩) n2 c2))
    (h1 : Code8 w (some ⟨b1, o1, none⟩) n1 f1) (h2 : Code8 w (some ⟨b2, o2, none⟩) n2 f2) :
    Calls Tryd.prog 39 #[.slice (some ⟨sb, 0, none⟩) 2 2] w fun e w' => RetB w w' e (n1 + n2) (fun i => if i < n1 then f1 i else f2 (i - n1)) ∧ Below w.heap.size w w' := by
  obtain ⟨i0, hi⟩ := info_parts Tryd.info8
  have HI : Hid (Tryd.prog.info? 5 = some i0 ∧ i0.zero = some (.int .u8 0) ∧ i0.size = 1 ∧ i0.bytes = 1) := hi
  have GN : Hid (∀ w : World, Calls Tryd.prog 54 #[.slice none 0 0, .int .i64 ((n1 : Int) + (n2 : Int))] w fun e w' => (∃ b c, w.heap.size ≤ b ∧ e = .returned (.slice (some ⟨b, 0, none⟩) 0 c) ∧ w'.ownsRow w.heap.size 5 1 (.slice (some ⟨b, 0, none⟩) 0 c) 0 []) ∧ Below w.heap.size w w') := grow_nil (n1 + n2) (by omega) (by omega)
  have H1 : Hid (Code8 w (some ⟨b1, o1, none⟩) n1 f1) := h1
  have H2 : Hid (Code8 w (some ⟨b2, o2, none⟩) n2 f2) := h2
  have hb2 : b2 < w.heap.size := h2.lt _ (by omega) rfl
  have HS : Hid (w.cell? ⟨sb, 0, none⟩ = some (.slice (some ⟨b1, o1, none⟩) n1 c1) ∧ w.cell? ⟨sb, 1, none⟩ = some (.slice (some ⟨b2, o2, none⟩) n2 c2)) := ⟨s1, s2⟩
  have x1 : ¬ (n1 : Int) < 0 := by omega
  have x2 : ¬ (n1 : Int) + (n2 : Int) < 0 := by omega
  have hsb : sb < w.heap.size := strBlock s1
  clear h1 h2 hi
  go_enter Tryd.func39, Tryd.ntmps39
  go_wp2
  refine wp_loop_rounds 3 ?_
  rw [rounds_succ]
  go_wp2
  rw [rounds_succ]
  go_wp2
  rw [rounds_succ]
  go_wp2_with fail
  refine (GN.out _).mono ?_
  rintro e w1 ⟨⟨b, c, hb, rfl, hown⟩, hB⟩
  obtain ⟨t1, t2⟩ := mem_two HS.out.1 HS.out.2 hB
  have K1 : Hid (Code8 w1 (some ⟨b1, o1, none⟩) n1 f1) := H1.out.below hB
  have K2 : Hid (Code8 w1 (some ⟨b2, o2, none⟩) n2 f2) := H2.out.below hB
  have HO : Hid (w1.ownsRow w.heap.size 5 1 (.slice (some ⟨b, 0, none⟩) 0 c) 0 []) := hown
  have HB1 : Hid (Below w.heap.size w w1) := hB
  have hsz := hB.size
  clear hown hB s1 s2 HS
  go_wp2
  refine wp_loop_rounds 3 ?_
  rw [rounds_succ]
  go_wp2_with (at_builtin; refine wpList_append_own _ rfl _ _ 30 rfl w.heap.size 5 i0 (.int .u8 0) 1 1 Tryd.underlying30 HI.out.1 HI.out.2.1 HI.out.2.2.1 HI.out.2.2.2 rfl (by decide) _ _ _ rfl HO.out ⟨b1, o1, none⟩ n1 c1 (bv n1 f1) rfl (by rw [bv_length, Nat.mul_one]) (bv_news K1.out) (bv_one n1 f1) (by unfold maxLen; omega) (by omega) hsz ?_)
  intro v2 w2 hown2 hgrow2 hnil2
  have BG := grown_below HO.out hgrow2 hsz
  have K2' : Hid (Code8 w2 (some ⟨b2, o2, none⟩) n2 f2) := K2.out.belowAt BG hb2
  have t2' : w2.cell? ⟨sb, 1, none⟩ = some (.slice (some ⟨b2, o2, none⟩) n2 c2) := by rw [BG.cell (p := ⟨sb, 1, none⟩) hsb]; exact t2
  have HB2 : Hid (Below w.heap.size w w2) := HB1.out.trans BG
  obtain ⟨b', c', hb', rfl, -⟩ := own8_of_own hown2 hnil2
  have HO2 : Hid (w2.ownsRow w.heap.size 5 1 (.slice (some ⟨b', 0, none⟩) n1 c') n1 (bv n1 f1)) := hown2
  have hsz2 : w.heap.size ≤ w2.heap.size := HB2.out.size
  clear hown2 hgrow2 hnil2 BG K2 t1 t2 HO HB1 K1
  go_wp2
  rw [rounds_succ]
  go_wp2_with (at_builtin; refine wpList_append_own _ rfl _ _ 30 rfl w.heap.size 5 i0 (.int .u8 0) 1 1 Tryd.underlying30 HI.out.1 HI.out.2.1 HI.out.2.2.1 HI.out.2.2.2 rfl (by decide) _ _ _ rfl HO2.out ⟨b2, o2, none⟩ n2 c2 (bv n2 f2) rfl (by rw [bv_length, Nat.mul_one]) (bv_news K2'.out) (bv_one n2 f2) (by unfold maxLen; omega) (by omega) hsz2 ?_)
  intro v3 w3 hown3 hgrow3 hnil3
  have BG := grown_below HO2.out hgrow3 hsz2
  have HB3 : Hid (Below w.heap.size w w3) := HB2.out.trans BG
  rw [bv_append] at hown3
  obtain ⟨b'', c'', hb'', rfl, ho3⟩ := own8_of_own hown3 hnil3
  have HO3 : Hid (Own8 w3 b'' (n1 + n2) (fun i => if i < n1 then f1 i else f2 (i - n1))) := ho3
  clear hown3 hgrow3 hnil3 BG HB2 HO2 K2' t2' ho3
  go_wp2
  rw [rounds_succ]
  go_wp2
  go_ret
  exact ⟨⟨_, _, hb'', rfl, HO3.out⟩, HB3.out⟩
end Go.Proofs.YtonccbgolbcjfabDoor

/-
  Contracts of padding: impl's padded, unpaddedSize, PadBlocks, UnpadBlocks.
-/
namespace Go.Proofs.YtonccbgolbcjfabDoor
open Go.ChangeShapes Go.WideShapes Go.ChangeAt Go.RowKit
end Go.Proofs.YtonccbgolbcjfabDoor

/-
  Contracts of the exact laws' helpers on slices of ints (a copy, an equality, a marking, a look at the marks), and what is said of a slice that is read and of one that is a call's own.
-/
namespace Go.Proofs.YtonccbgolbcjfabDoor
open Go.ChangeShapes Go.WideShapes Go.ChangeAt Go.RowKit

theorem cellBlock {w : World} {p : Addr} {v : Value} (h : w.cell? p = some v) : p.block < w.heap.size := by
  rcases Nat.lt_or_ge p.block w.heap.size with g | g
  · exact g
  · simp [World.cell?, Array.getElem?_eq_none g] at h
theorem numEq {k : IntKind} {a b : Int} (h : a = b) : Value.int k a = .int k b := by rw [h]

/-- A slice of n ints that reads as f. -/
def Ints (w : World) (a : Option Addr) (n : Nat) (f : Nat → Int) : Prop := ∀ i, i < n → ∃ b off, a = some ⟨b, off, none⟩ ∧ w.cell? ⟨b, off + i, none⟩ = some (.int .i64 (f i))
theorem Ints.opened {w : World} {a : Option Addr} {n : Nat} {f : Nat → Int} (h : Ints w a n f) (hn : 0 < n) :
    ∃ b off, a = some ⟨b, off, none⟩ ∧ ∀ i, i < n → w.cell? ⟨b, off + i, none⟩ = some (.int .i64 (f i)) := by
  obtain ⟨b, off, ha, _⟩ := h 0 hn
  refine ⟨b, off, ha, fun i hi => ?_⟩
  obtain ⟨b', off', ha', hc⟩ := h i hi
  rw [ha] at ha'
  cases ha'
  exact hc
theorem Ints.below {w w' : World} {a : Option Addr} {n : Nat} {f : Nat → Int} (h : Ints w a n f) (hb : Below w.heap.size w w') : Ints w' a n f := fun i hi => by
  obtain ⟨b, off, ha, hc⟩ := h i hi
  exact ⟨b, off, ha, by rw [hb.cell (cellBlock hc)]; exact hc⟩
theorem Ints.congr {w : World} {a : Option Addr} {n : Nat} {f g : Nat → Int} (h : Ints w a n f) (e : ∀ i, i < n → f i = g i) : Ints w a n g := fun i hi => by
  obtain ⟨b, off, ha, hc⟩ := h i hi
  exact ⟨b, off, ha, by rw [← e i hi]; exact hc⟩
/-- A slice of ints that came in, as the kit's shell tells of it. -/
theorem ints_of_came {w : World} {a : Option Addr} {len cap : Nat} {zs : List Int}
    (h : (a = none ∧ len = 0 ∧ cap = 0 ∧ zs = []) ∨ ∃ x, a = some x ∧ len ≤ cap ∧ cap ≤ maxLen ∧ zs.length = cap ∧ (∀ i, i < zs.length → w.cell? (x.add i) = some (.int .i64 (zs.getD i 0))) ∧ ∀ n ∈ zs, (Lit.int .i64 n).wf = true) :
    Ints w a len (fun i => zs.getD i 0) ∧ len ≤ maxLen := by
  rcases h with ⟨rfl, rfl, rfl, rfl⟩ | ⟨x, rfl, hl, hm, hz, hc, _⟩
  · exact ⟨fun i hi => absurd hi (by omega), Nat.zero_le _⟩
  · refine ⟨fun i hi => ?_, Nat.le_trans hl hm⟩
    obtain ⟨b, off, rfl, hc'⟩ := ints_at hc (by omega)
    exact ⟨b, off, rfl, hc' i (by omega)⟩
/-- A slice of n ints at the head of a row of the call's own, from block B on. -/
def OwnInts (w : World) (B : Nat) (a : Option Addr) (n : Nat) (f : Nat → Int) : Prop := n = 0 ∨ ∃ b, B ≤ b ∧ a = some ⟨b, 0, none⟩ ∧ w.rowIs b 3 n (fun i => .int .i64 (f i))
theorem OwnInts.ints {w : World} {B : Nat} {a : Option Addr} {n : Nat} {f : Nat → Int} (h : OwnInts w B a n f) : Ints w a n f := fun i hi => by
  rcases h with h | ⟨b, _, ha, hr⟩
  · omega
  · exact ⟨b, 0, ha, by rw [Nat.zero_add]; exact hr.cell hi⟩
theorem OwnInts.below {w w' : World} {B : Nat} {a : Option Addr} {n : Nat} {f : Nat → Int} (h : OwnInts w B a n f) (hb : Below w.heap.size w w') : OwnInts w' B a n f := by
  rcases h with h | ⟨b, hB, ha, hr⟩
  · exact .inl h
  · exact .inr ⟨b, hB, ha, hr.of_block (hb.block b hr.lt)⟩
/-- Nothing but the block that a leads to has turned. -/
structure Only (a : Option Addr) (w w' : World) : Prop where
  os : w'.os = w.os
  tape : w'.tape = w.tape
  output : w'.output = w.output
  size : w'.heap.size = w.heap.size
  block : ∀ k, (∀ p, a = some p → p.block ≠ k) → w'.heap[k]? = w.heap[k]?
theorem Only.refl (a : Option Addr) (w : World) : Only a w w := ⟨rfl, rfl, rfl, rfl, fun _ _ => rfl⟩
theorem Only.toBelow {a : Option Addr} {w w' : World} (h : Only a w w') (B : Nat) (hB : ∀ p, a = some p → B ≤ p.block) : Below B w w' :=
  ⟨h.os, h.tape, h.output, by rw [h.size]; exact Nat.le_refl _, fun k hk => h.block k (fun p hp e => by have := hB p hp; omega)⟩
theorem Only.setCell {b : Nat} {w w' : World} (h : Only (some ⟨b, 0, none⟩) w w') (i : Nat) (v : Value) : Only (some ⟨b, 0, none⟩) w (w'.setCell ⟨b, i, none⟩ v) :=
  ⟨h.os, h.tape, h.output, by simpa using h.size, fun k hk => by rw [Below.heap_setCell w' ⟨b, i, none⟩ v k (fun e => hk ⟨b, 0, none⟩ rfl e.symm)]; exact h.block k hk⟩
theorem Ints.only {w w' : World} {a p : Option Addr} {n : Nat} {f : Nat → Int} (h : Ints w a n f) (ho : Only p w w') (hd : ∀ x y, a = some x → p = some y → y.block ≠ x.block) : Ints w' a n f := fun i hi => by
  obtain ⟨b, off, ha, hc⟩ := h i hi
  refine ⟨b, off, ha, ?_⟩
  rw [World.cell?_of_block (w := w) (ho.block b (fun y hy => hd _ y ha hy))]
  exact hc
theorem OwnInts.only {w w' : World} {B : Nat} {a p : Option Addr} {n : Nat} {f : Nat → Int} (h : OwnInts w B a n f) (ho : Only p w w') (hd : ∀ x y, a = some x → p = some y → y.block ≠ x.block) : OwnInts w' B a n f := by
  rcases h with h | ⟨b, hB, ha, hr⟩
  · exact .inl h
  · exact .inr ⟨b, hB, ha, hr.of_block (ho.block b (fun y hy => hd _ y ha hy))⟩

theorem Tryd.infoI : (Tryd.prog.info? 3).map (fun i => (i.zero, i.size, i.bytes)) = some (some (.int .i64 0), 1, 8) := by kernel_rfl
theorem mkInts (n : Nat) (hn : n ≤ 10000000) (w : World) : (Instr.makeSlice 69 (.int .i64 (n : Int)) (.int .i64 (n : Int))).run Tryd.prog w = .ok (.slice (some ⟨w.heap.size, 0, none⟩) n n) (w.alloc (.cells (madeCells #[.int .i64 0] n) 3)) :=
  run_make_row' 69 3 (.int .i64 0) 8 Tryd.underlying69 Tryd.infoI rfl .i64 .i64 n (by omega) (by omega) w
end Go.Proofs.YtonccbgolbcjfabDoor

/-
  Contracts of the mixing of a column in the program (mix).
-/
namespace Go.Proofs.YtonccbgolbcjfabDoor
open Go.ChangeShapes Go.WideShapes Go.ChangeAt Go.RowKit
namespace Gf
def mx (a b c d x y : Nat) : Nat := (((((a ^^^ b) ^^^ c) ^^^ d)) ^^^ x) ^^^ dbl (x ^^^ y)
theorem mx_lt {a b c d x y : Nat} (ha : a < 256) (hb : b < 256) (hc : c < 256) (hd : d < 256) (hx : x < 256) (hy : y < 256) : mx a b c d x y < 256 :=
  xor_lt (xor_lt (xor_lt (xor_lt (xor_lt ha hb) hc) hd) hx) (dbl_lt _ (xor_lt hx hy))
end Gf
set_option maxRecDepth 100000 in
set_option maxHeartbeats 2000000 in
theorem mix_any (a b c d : Nat) (ha : a < 256) (hb : b < 256) (hc : c < 256) (hd : d < 256) (w : World) :
    Calls Tryd.prog 86 #[.agg #[.int .u8 a, .int .u8 b, .int .u8 c, .int .u8 d]] w fun e w' =>
      e = .returned (.agg #[.int .u8 (Gf.mx a b c d a b : Nat), .int .u8 (Gf.mx a b c d b c : Nat), .int .u8 (Gf.mx a b c d c d : Nat), .int .u8 (Gf.mx a b c d d a : Nat)]) ∧ Below w.heap.size w w' := by
  have hx : ∀ x y : Nat, x < 256 → y < 256 → bits .xor .u8 (x : Int) (y : Int) = ((x ^^^ y : Nat) : Int) := u8_xor_nat
  have hl : ∀ x y : Nat, x < 256 → y < 256 → x ^^^ y < 256 := fun x y => Gf.xor_lt
  have l1 := Gf.xor_lt ha hb
  have l2 := Gf.xor_lt l1 hc
  have l3 := Gf.xor_lt l2 hd
  have m1 := Gf.xor_lt hb hc
  have m2 := Gf.xor_lt hc hd
  have m3 := Gf.xor_lt hd ha
  have d0 := Gf.dbl_lt _ l1
  have d1 := Gf.dbl_lt _ m1
  have d2 := Gf.dbl_lt _ m2
  have d3 := Gf.dbl_lt _ m3
  have i0 : ∀ w : World, (Instr.index 118 (.agg #[.int .u8 a, .int .u8 b, .int .u8 c, .int .u8 d]) (.int .i64 0)).run Tryd.prog w = .ok (.int .u8 a) w := fun w => run_index_flat (k := 0) Tryd.underlying118 Tryd.underlying5 rfl Tryd.sizeU8 (by omega) rfl w
  have i1 : ∀ w : World, (Instr.index 118 (.agg #[.int .u8 a, .int .u8 b, .int .u8 c, .int .u8 d]) (.int .i64 1)).run Tryd.prog w = .ok (.int .u8 b) w := fun w => run_index_flat (k := 1) Tryd.underlying118 Tryd.underlying5 rfl Tryd.sizeU8 (by omega) rfl w
  have i2 : ∀ w : World, (Instr.index 118 (.agg #[.int .u8 a, .int .u8 b, .int .u8 c, .int .u8 d]) (.int .i64 2)).run Tryd.prog w = .ok (.int .u8 c) w := fun w => run_index_flat (k := 2) Tryd.underlying118 Tryd.underlying5 rfl Tryd.sizeU8 (by omega) rfl w
  have i3 : ∀ w : World, (Instr.index 118 (.agg #[.int .u8 a, .int .u8 b, .int .u8 c, .int .u8 d]) (.int .i64 3)).run Tryd.prog w = .ok (.int .u8 d) w := fun w => run_index_flat (k := 3) Tryd.underlying118 Tryd.underlying5 rfl Tryd.sizeU8 (by omega) rfl w
  go_enter Tryd.func86, Tryd.ntmps86
  go_wp2
  refine wp_loop_rounds 5 ?_
  rw [rounds_succ]
  go_wp2_with (go_at_call 81; refine (double_any (a ^^^ b) l1 _).mono ?_; rintro e w' ⟨rfl, rfl⟩)
  rw [rounds_succ]
  go_wp2_with (go_at_call 81; refine (double_any (b ^^^ c) m1 _).mono ?_; rintro e w' ⟨rfl, rfl⟩)
  rw [rounds_succ]
  go_wp2_with (go_at_call 81; refine (double_any (c ^^^ d) m2 _).mono ?_; rintro e w' ⟨rfl, rfl⟩)
  rw [rounds_succ]
  go_wp2_with (go_at_call 81; refine (double_any (d ^^^ a) m3 _).mono ?_; rintro e w' ⟨rfl, rfl⟩)
  rw [rounds_succ]
  go_wp2
  exact bodyPost_ret (v := .agg #[.int .u8 (Gf.mx a b c d a b : Nat), .int .u8 (Gf.mx a b c d b c : Nat), .int .u8 (Gf.mx a b c d c d : Nat), .int .u8 (Gf.mx a b c d d a : Nat)]) (by simp [results, Tryd.results86, go_sem, Gf.mx]) rfl ⟨rfl, (((Below.refl _ _).alloc (Nat.le_refl _) _).alloc (by simp) _).alloc (by simp; omega) _⟩

/-- Is the number a byte? -/
def IsB (n : Int) : Prop := 0 ≤ n ∧ n ≤ 255
/-- What mixing a column of n numbers that read as f comes to: how many numbers, which, and the code. -/
def MixRes (n : Nat) (f : Nat → Int) (m : Nat) (g : Nat → Int) (code : Int) : Prop :=
  (4096 < n ∧ m = 0 ∧ code = 2) ∨ (n ≤ 4096 ∧ n ≠ 4 ∧ m = 0 ∧ code = 1) ∨ (n = 4 ∧ ¬ (IsB (f 0) ∧ IsB (f 1) ∧ IsB (f 2) ∧ IsB (f 3)) ∧ m = 0 ∧ code = 4) ∨
  (n = 4 ∧ (IsB (f 0) ∧ IsB (f 1) ∧ IsB (f 2) ∧ IsB (f 3)) ∧ m = 4 ∧ code = 0 ∧
    g 0 = (Gf.mx (f 0).toNat (f 1).toNat (f 2).toNat (f 3).toNat (f 0).toNat (f 1).toNat : Nat) ∧ g 1 = (Gf.mx (f 0).toNat (f 1).toNat (f 2).toNat (f 3).toNat (f 1).toNat (f 2).toNat : Nat) ∧
    g 2 = (Gf.mx (f 0).toNat (f 1).toNat (f 2).toNat (f 3).toNat (f 2).toNat (f 3).toNat : Nat) ∧ g 3 = (Gf.mx (f 0).toNat (f 1).toNat (f 2).toNat (f 3).toNat (f 3).toNat (f 0).toNat : Nat))
theorem MixRes.same {n m m' : Nat} {f g g' : Nat → Int} {code code' : Int} (h : MixRes n f m g code) (h' : MixRes n f m' g' code') : m = m' ∧ code = code' ∧ ∀ i, i < m → g i = g' i := by
  rcases h with ⟨a, rfl, rfl⟩ | ⟨a, b, rfl, rfl⟩ | ⟨rfl, b, rfl, rfl⟩ | ⟨rfl, b, rfl, rfl, e0, e1, e2, e3⟩ <;>
  rcases h' with ⟨a', rfl, rfl⟩ | ⟨a', b', rfl, rfl⟩ | ⟨a', b', rfl, rfl⟩ | ⟨a', b', rfl, rfl, e0', e1', e2', e3'⟩
  all_goals first
    | omega
    | exact absurd b b'
    | exact absurd b' b
    | exact ⟨rfl, rfl, fun i hi => absurd hi (by omega)⟩
    | (refine ⟨rfl, rfl, fun i hi => ?_⟩
       rcases (show i = 0 ∨ i = 1 ∨ i = 2 ∨ i = 3 by omega) with rfl | rfl | rfl | rfl
       · rw [e0, e0']
       · rw [e1, e1']
       · rw [e2, e2']
       · rw [e3, e3'])
theorem make4 (w : World) : (Instr.makeSlice 69 (.int .i64 4) (.int .i64 4)).run Tryd.prog w = .ok (.slice (some ⟨w.heap.size, 0, none⟩) 4 4) (w.alloc (.cells #[.int .i64 0, .int .i64 0, .int .i64 0, .int .i64 0] 3)) := by
  have e : madeCells #[Value.int .i64 0] 4 = #[.int .i64 0, .int .i64 0, .int .i64 0, .int .i64 0] := by kernel_rfl
  have h := mkInts 4 (by omega) w
  rw [e] at h
  exact h
/-- The mixed column, by the place. -/
def mixG (A B C D : Nat) : Nat → Int
  | 0 => (Gf.mx A B C D A B : Nat)
  | 1 => (Gf.mx A B C D B C : Nat)
  | 2 => (Gf.mx A B C D C D : Nat)
  | _ => (Gf.mx A B C D D A : Nat)
theorem four_rows {w : World} (x0 x1 x2 x3 : Value) (f : Nat → Value) (h0 : x0 = f 0) (h1 : x1 = f 1) (h2 : x2 = f 2) (h3 : x3 = f 3) (t : TypeId) : (w.alloc (.cells #[x0, x1, x2, x3] t)).rowIs w.heap.size t 4 f := by
  refine World.rowIs_alloc w #[x0, x1, x2, x3] t f (fun i hi => ?_)
  have hi' : i < 4 := hi
  rcases (show i = 0 ∨ i = 1 ∨ i = 2 ∨ i = 3 by omega) with rfl | rfl | rfl | rfl
  · simp [h0]
  · simp [h1]
  · simp [h2]
  · simp [h3]
theorem toNat_of {x : Int} {A : Nat} (h : x = A) : x.toNat = A := by rw [h]; rfl
theorem isB_nat {x : Int} (h : IsB x) : ∃ A : Nat, x = A ∧ A < 256 := ⟨x.toNat, by have := h.1; omega, by have := h.2; have := h.1; omega⟩
end Go.Proofs.YtonccbgolbcjfabDoor

/-
  Plain mathematics of blocks: adding a key, substituting and turning, mixing; a block encrypted. No function of the program in sight.
-/
namespace Go.Proofs.YtonccbgolbcjfabDoor
namespace Gf
def addK (s k : Nat → Nat) (j : Nat) : Nat := s j ^^^ k j
/-- Which byte comes to place j where rows are turned left. -/
def ord (j : Nat) : Nat := (j + 4 * (j % 4)) % 16
def subTurn (s : Nat → Nat) (j : Nat) : Nat := sub (s (ord j))
/-- Byte r of column o .. o + 3, mixed. -/
def mixAt (s : Nat → Nat) (o r : Nat) : Nat := mx (s o) (s (o + 1)) (s (o + 2)) (s (o + 3)) (s (o + r)) (s (o + (r + 1) % 4))
def mixS (s : Nat → Nat) (j : Nat) : Nat := mixAt s (j / 4 * 4) (j % 4)
/-- The i-th round key of 16 bytes. -/
def keyAt (K : Nat → Nat) (i j : Nat) : Nat := K (i * 16 + j)
def encTo (K : Nat → Nat) (s : Nat → Nat) : Nat → Nat → Nat
  | 0 => addK s (keyAt K 0)
  | i + 1 => addK (mixS (subTurn (encTo K s i))) (keyAt K (i + 1))
def enc (K : Nat → Nat) (R : Nat) (s : Nat → Nat) : Nat → Nat := addK (subTurn (encTo K s (R - 1))) (keyAt K R)
theorem ord_lt (j : Nat) : ord j < 16 := Nat.mod_lt _ (by omega)
theorem addK_lt {s k : Nat → Nat} {j : Nat} (hs : s j < 256) (hk : k j < 256) : addK s k j < 256 := xor_lt hs hk
theorem subTurn_lt {s : Nat → Nat} (hs : ∀ j, j < 16 → s j < 256) (j : Nat) : subTurn s j < 256 := sub_lt _ (hs _ (ord_lt j))
theorem mixAt_lt {s : Nat → Nat} {o r : Nat} (hs : ∀ j, j < 16 → s j < 256) (ho : o + 4 ≤ 16) (hr : r < 4) : mixAt s o r < 256 :=
  mx_lt (hs _ (by omega)) (hs _ (by omega)) (hs _ (by omega)) (hs _ (by omega)) (hs _ (by omega)) (hs _ (by have := Nat.mod_lt (r + 1) (show 0 < 4 by omega); omega))
theorem mixS_lt {s : Nat → Nat} (hs : ∀ j, j < 16 → s j < 256) (j : Nat) (hj : j < 16) : mixS s j < 256 := mixAt_lt hs (by omega) (Nat.mod_lt _ (by omega))
theorem encTo_lt {K s : Nat → Nat} (hK : ∀ j, K j < 256) (hs : ∀ j, j < 16 → s j < 256) : ∀ i j, j < 16 → encTo K s i j < 256 := by
  intro i
  induction i with
  | zero => intro j hj; exact addK_lt (hs j hj) (hK _)
  | succ i ih => intro j hj; exact addK_lt (mixS_lt (fun j _ => subTurn_lt ih j) j hj) (hK _)
theorem enc_lt {K s : Nat → Nat} {R : Nat} (hK : ∀ j, K j < 256) (hs : ∀ j, j < 16 → s j < 256) (j : Nat) : enc K R s j < 256 := addK_lt (subTurn_lt (encTo_lt hK hs _) j) (hK _)
end Gf
end Go.Proofs.YtonccbgolbcjfabDoor

/-
  Contracts of the program's order of turned rows and of its check (rootOf, turnsLeft, rowOrder).
-/
namespace Go.Proofs.YtonccbgolbcjfabDoor
open Go.ChangeShapes Go.WideShapes Go.ChangeAt Go.RowKit
/-- The bits of 1, of -1 and of the nought below nought. -/
def fOne : Nat := 4607182418800017408
def fMin : Nat := 13830554455654793216
def fNeg : Nat := 9223372036854775808
theorem root0_any (w : World) : Calls Tryd.prog 91 #[.int .i64 0] w fun e w' => e = .returned (.complex .f64 fOne 0) ∧ w' = w := by
  go_enter Tryd.func91, Tryd.ntmps91
  go_wp2
  go_ret
  exact ⟨rfl, rfl⟩
theorem root1_any (w : World) : Calls Tryd.prog 91 #[.int .i64 1] w fun e w' => e = .returned (.complex .f64 0 fOne) ∧ w' = w := by
  go_enter Tryd.func91, Tryd.ntmps91
  go_wp2
  go_ret
  exact ⟨rfl, rfl⟩
theorem root2_any (w : World) : Calls Tryd.prog 91 #[.int .i64 2] w fun e w' => e = .returned (.complex .f64 fMin 0) ∧ w' = w := by
  go_enter Tryd.func91, Tryd.ntmps91
  go_wp2
  go_ret
  exact ⟨rfl, rfl⟩
theorem root3_any (w : World) : Calls Tryd.prog 91 #[.int .i64 3] w fun e w' => e = .returned (.complex .f64 0 fMin) ∧ w' = w := by
  go_enter Tryd.func91, Tryd.ntmps91
  go_wp2
  go_ret
  exact ⟨rfl, rfl⟩
theorem mul00 (w : World) : (binOp .mul 127 (.complex .f64 fOne 0) (.complex .f64 fOne 0)).run Tryd.prog w = .ok (.complex .f64 fOne 0) w := run_complex_mul w 127 fOne 0 fOne 0 fOne 0 (by kernel_rfl)
theorem neq00 (w : World) : (binOp .neq 127 (.complex .f64 fOne 0) (.complex .f64 fOne 0)).run Tryd.prog w = .ok (.bool false) w := by
  rw [run_neq_complex]; rw [show (!((FloatKind.f64.format.order fOne fOne == some .eq) && (FloatKind.f64.format.order 0 0 == some .eq))) = false by kernel_rfl]
theorem mul01 (w : World) : (binOp .mul 127 (.complex .f64 fOne 0) (.complex .f64 0 fOne)).run Tryd.prog w = .ok (.complex .f64 0 fOne) w := run_complex_mul w 127 fOne 0 0 fOne 0 fOne (by kernel_rfl)
theorem neq01 (w : World) : (binOp .neq 127 (.complex .f64 0 fOne) (.complex .f64 0 fOne)).run Tryd.prog w = .ok (.bool false) w := by
  rw [run_neq_complex]; rw [show (!((FloatKind.f64.format.order 0 0 == some .eq) && (FloatKind.f64.format.order fOne fOne == some .eq))) = false by kernel_rfl]
theorem mul02 (w : World) : (binOp .mul 127 (.complex .f64 fOne 0) (.complex .f64 fMin 0)).run Tryd.prog w = .ok (.complex .f64 fMin 0) w := run_complex_mul w 127 fOne 0 fMin 0 fMin 0 (by kernel_rfl)
theorem neq02 (w : World) : (binOp .neq 127 (.complex .f64 fMin 0) (.complex .f64 fMin 0)).run Tryd.prog w = .ok (.bool false) w := by
  rw [run_neq_complex]; rw [show (!((FloatKind.f64.format.order fMin fMin == some .eq) && (FloatKind.f64.format.order 0 0 == some .eq))) = false by kernel_rfl]
theorem mul03 (w : World) : (binOp .mul 127 (.complex .f64 fOne 0) (.complex .f64 0 fMin)).run Tryd.prog w = .ok (.complex .f64 0 fMin) w := run_complex_mul w 127 fOne 0 0 fMin 0 fMin (by kernel_rfl)
theorem neq03 (w : World) : (binOp .neq 127 (.complex .f64 0 fMin) (.complex .f64 0 fMin)).run Tryd.prog w = .ok (.bool false) w := by
  rw [run_neq_complex]; rw [show (!((FloatKind.f64.format.order 0 0 == some .eq) && (FloatKind.f64.format.order fMin fMin == some .eq))) = false by kernel_rfl]
theorem mul10 (w : World) : (binOp .mul 127 (.complex .f64 0 fOne) (.complex .f64 fOne 0)).run Tryd.prog w = .ok (.complex .f64 0 fOne) w := run_complex_mul w 127 0 fOne fOne 0 0 fOne (by kernel_rfl)
theorem neq10 (w : World) : (binOp .neq 127 (.complex .f64 0 fOne) (.complex .f64 0 fOne)).run Tryd.prog w = .ok (.bool false) w := by
  rw [run_neq_complex]; rw [show (!((FloatKind.f64.format.order 0 0 == some .eq) && (FloatKind.f64.format.order fOne fOne == some .eq))) = false by kernel_rfl]
theorem mul11 (w : World) : (binOp .mul 127 (.complex .f64 0 fOne) (.complex .f64 0 fOne)).run Tryd.prog w = .ok (.complex .f64 fMin 0) w := run_complex_mul w 127 0 fOne 0 fOne fMin 0 (by kernel_rfl)
theorem neq11 (w : World) : (binOp .neq 127 (.complex .f64 fMin 0) (.complex .f64 fMin 0)).run Tryd.prog w = .ok (.bool false) w := by
  rw [run_neq_complex]; rw [show (!((FloatKind.f64.format.order fMin fMin == some .eq) && (FloatKind.f64.format.order 0 0 == some .eq))) = false by kernel_rfl]
theorem mul12 (w : World) : (binOp .mul 127 (.complex .f64 0 fOne) (.complex .f64 fMin 0)).run Tryd.prog w = .ok (.complex .f64 fNeg fMin) w := run_complex_mul w 127 0 fOne fMin 0 fNeg fMin (by kernel_rfl)
theorem neq12 (w : World) : (binOp .neq 127 (.complex .f64 0 fMin) (.complex .f64 fNeg fMin)).run Tryd.prog w = .ok (.bool false) w := by
  rw [run_neq_complex]; rw [show (!((FloatKind.f64.format.order 0 fNeg == some .eq) && (FloatKind.f64.format.order fMin fMin == some .eq))) = false by kernel_rfl]
theorem mul13 (w : World) : (binOp .mul 127 (.complex .f64 0 fOne) (.complex .f64 0 fMin)).run Tryd.prog w = .ok (.complex .f64 fOne 0) w := run_complex_mul w 127 0 fOne 0 fMin fOne 0 (by kernel_rfl)
theorem neq13 (w : World) : (binOp .neq 127 (.complex .f64 fOne 0) (.complex .f64 fOne 0)).run Tryd.prog w = .ok (.bool false) w := by
  rw [run_neq_complex]; rw [show (!((FloatKind.f64.format.order fOne fOne == some .eq) && (FloatKind.f64.format.order 0 0 == some .eq))) = false by kernel_rfl]
theorem mul20 (w : World) : (binOp .mul 127 (.complex .f64 fMin 0) (.complex .f64 fOne 0)).run Tryd.prog w = .ok (.complex .f64 fMin 0) w := run_complex_mul w 127 fMin 0 fOne 0 fMin 0 (by kernel_rfl)
theorem neq20 (w : World) : (binOp .neq 127 (.complex .f64 fMin 0) (.complex .f64 fMin 0)).run Tryd.prog w = .ok (.bool false) w := by
  rw [run_neq_complex]; rw [show (!((FloatKind.f64.format.order fMin fMin == some .eq) && (FloatKind.f64.format.order 0 0 == some .eq))) = false by kernel_rfl]
theorem mul21 (w : World) : (binOp .mul 127 (.complex .f64 fMin 0) (.complex .f64 0 fOne)).run Tryd.prog w = .ok (.complex .f64 fNeg fMin) w := run_complex_mul w 127 fMin 0 0 fOne fNeg fMin (by kernel_rfl)
theorem neq21 (w : World) : (binOp .neq 127 (.complex .f64 0 fMin) (.complex .f64 fNeg fMin)).run Tryd.prog w = .ok (.bool false) w := by
  rw [run_neq_complex]; rw [show (!((FloatKind.f64.format.order 0 fNeg == some .eq) && (FloatKind.f64.format.order fMin fMin == some .eq))) = false by kernel_rfl]
theorem mul22 (w : World) : (binOp .mul 127 (.complex .f64 fMin 0) (.complex .f64 fMin 0)).run Tryd.prog w = .ok (.complex .f64 fOne fNeg) w := run_complex_mul w 127 fMin 0 fMin 0 fOne fNeg (by kernel_rfl)
theorem neq22 (w : World) : (binOp .neq 127 (.complex .f64 fOne 0) (.complex .f64 fOne fNeg)).run Tryd.prog w = .ok (.bool false) w := by
  rw [run_neq_complex]; rw [show (!((FloatKind.f64.format.order fOne fOne == some .eq) && (FloatKind.f64.format.order 0 fNeg == some .eq))) = false by kernel_rfl]
theorem mul23 (w : World) : (binOp .mul 127 (.complex .f64 fMin 0) (.complex .f64 0 fMin)).run Tryd.prog w = .ok (.complex .f64 0 fOne) w := run_complex_mul w 127 fMin 0 0 fMin 0 fOne (by kernel_rfl)
theorem neq23 (w : World) : (binOp .neq 127 (.complex .f64 0 fOne) (.complex .f64 0 fOne)).run Tryd.prog w = .ok (.bool false) w := by
  rw [run_neq_complex]; rw [show (!((FloatKind.f64.format.order 0 0 == some .eq) && (FloatKind.f64.format.order fOne fOne == some .eq))) = false by kernel_rfl]
theorem mul30 (w : World) : (binOp .mul 127 (.complex .f64 0 fMin) (.complex .f64 fOne 0)).run Tryd.prog w = .ok (.complex .f64 0 fMin) w := run_complex_mul w 127 0 fMin fOne 0 0 fMin (by kernel_rfl)
theorem neq30 (w : World) : (binOp .neq 127 (.complex .f64 0 fMin) (.complex .f64 0 fMin)).run Tryd.prog w = .ok (.bool false) w := by
  rw [run_neq_complex]; rw [show (!((FloatKind.f64.format.order 0 0 == some .eq) && (FloatKind.f64.format.order fMin fMin == some .eq))) = false by kernel_rfl]
theorem mul31 (w : World) : (binOp .mul 127 (.complex .f64 0 fMin) (.complex .f64 0 fOne)).run Tryd.prog w = .ok (.complex .f64 fOne 0) w := run_complex_mul w 127 0 fMin 0 fOne fOne 0 (by kernel_rfl)
theorem neq31 (w : World) : (binOp .neq 127 (.complex .f64 fOne 0) (.complex .f64 fOne 0)).run Tryd.prog w = .ok (.bool false) w := by
  rw [run_neq_complex]; rw [show (!((FloatKind.f64.format.order fOne fOne == some .eq) && (FloatKind.f64.format.order 0 0 == some .eq))) = false by kernel_rfl]
theorem mul32 (w : World) : (binOp .mul 127 (.complex .f64 0 fMin) (.complex .f64 fMin 0)).run Tryd.prog w = .ok (.complex .f64 0 fOne) w := run_complex_mul w 127 0 fMin fMin 0 0 fOne (by kernel_rfl)
theorem neq32 (w : World) : (binOp .neq 127 (.complex .f64 0 fOne) (.complex .f64 0 fOne)).run Tryd.prog w = .ok (.bool false) w := by
  rw [run_neq_complex]; rw [show (!((FloatKind.f64.format.order 0 0 == some .eq) && (FloatKind.f64.format.order fOne fOne == some .eq))) = false by kernel_rfl]
theorem mul33 (w : World) : (binOp .mul 127 (.complex .f64 0 fMin) (.complex .f64 0 fMin)).run Tryd.prog w = .ok (.complex .f64 fMin fNeg) w := run_complex_mul w 127 0 fMin 0 fMin fMin fNeg (by kernel_rfl)
theorem neq33 (w : World) : (binOp .neq 127 (.complex .f64 fMin 0) (.complex .f64 fMin fNeg)).run Tryd.prog w = .ok (.bool false) w := by
  rw [run_neq_complex]; rw [show (!((FloatKind.f64.format.order fMin fMin == some .eq) && (FloatKind.f64.format.order 0 fNeg == some .eq))) = false by kernel_rfl]
def ordA : Array Value := #[.int .i64 0, .int .i64 5, .int .i64 10, .int .i64 15, .int .i64 4, .int .i64 9, .int .i64 14, .int .i64 3, .int .i64 8, .int .i64 13, .int .i64 2, .int .i64 7, .int .i64 12, .int .i64 1, .int .i64 6, .int .i64 11]
theorem ordI (k : Nat) (v : Int) (hk : k < 16) (hv : ordA[k]? = some (.int .i64 v)) (w : World) : (Instr.index 80 (.agg ordA) (.int .i64 (k : Int))).run Tryd.prog w = .ok (.int .i64 v) w :=
  run_index_flat Tryd.underlying80 Tryd.underlying3 rfl (by kernel_rfl) hk hv w
theorem range_alloc (w : World) (A : Array Value) (t : TypeId) : (w.alloc (.cells A t)).rangeAt w.heap.size 0 A.toList := fun j v hv => by
  rw [Nat.zero_add]
  have h := World.rowIs_alloc w A t (fun i => A.getD i undef) (fun i hi => by simp [hi])
  have hj : j < A.size := by have := (List.getElem?_eq_some_iff.1 hv).1; simpa using this
  rw [h.cell hj]
  have : A[j]? = some v := by simpa using hv
  simp [this]
theorem Tryd.sizeO : (Tryd.prog.info? 80).map (·.size) = some 16 := by kernel_rfl
theorem ordA_len : ordA.toList.length = 16 := rfl
set_option maxRecDepth 100000 in
set_option maxHeartbeats 4000000 in
theorem turnsLeft_any (w : World) : Calls Tryd.prog 85 #[.agg ordA] w fun e w' => e = .returned (.bool true) ∧ Below w.heap.size w w' := by
  have i0 : ∀ w, (Instr.index 80 (.agg ordA) (.int .i64 0)).run Tryd.prog w = .ok (.int .i64 0) w := ordI 0 0 (by omega) rfl
  have i1 : ∀ w, (Instr.index 80 (.agg ordA) (.int .i64 1)).run Tryd.prog w = .ok (.int .i64 5) w := ordI 1 5 (by omega) rfl
  have i2 : ∀ w, (Instr.index 80 (.agg ordA) (.int .i64 2)).run Tryd.prog w = .ok (.int .i64 10) w := ordI 2 10 (by omega) rfl
  have i3 : ∀ w, (Instr.index 80 (.agg ordA) (.int .i64 3)).run Tryd.prog w = .ok (.int .i64 15) w := ordI 3 15 (by omega) rfl
  have i4 : ∀ w, (Instr.index 80 (.agg ordA) (.int .i64 4)).run Tryd.prog w = .ok (.int .i64 4) w := ordI 4 4 (by omega) rfl
  have i5 : ∀ w, (Instr.index 80 (.agg ordA) (.int .i64 5)).run Tryd.prog w = .ok (.int .i64 9) w := ordI 5 9 (by omega) rfl
  have i6 : ∀ w, (Instr.index 80 (.agg ordA) (.int .i64 6)).run Tryd.prog w = .ok (.int .i64 14) w := ordI 6 14 (by omega) rfl
  have i7 : ∀ w, (Instr.index 80 (.agg ordA) (.int .i64 7)).run Tryd.prog w = .ok (.int .i64 3) w := ordI 7 3 (by omega) rfl
  have i8 : ∀ w, (Instr.index 80 (.agg ordA) (.int .i64 8)).run Tryd.prog w = .ok (.int .i64 8) w := ordI 8 8 (by omega) rfl
  have i9 : ∀ w, (Instr.index 80 (.agg ordA) (.int .i64 9)).run Tryd.prog w = .ok (.int .i64 13) w := ordI 9 13 (by omega) rfl
  have i10 : ∀ w, (Instr.index 80 (.agg ordA) (.int .i64 10)).run Tryd.prog w = .ok (.int .i64 2) w := ordI 10 2 (by omega) rfl
  have i11 : ∀ w, (Instr.index 80 (.agg ordA) (.int .i64 11)).run Tryd.prog w = .ok (.int .i64 7) w := ordI 11 7 (by omega) rfl
  have i12 : ∀ w, (Instr.index 80 (.agg ordA) (.int .i64 12)).run Tryd.prog w = .ok (.int .i64 12) w := ordI 12 12 (by omega) rfl
  have i13 : ∀ w, (Instr.index 80 (.agg ordA) (.int .i64 13)).run Tryd.prog w = .ok (.int .i64 1) w := ordI 13 1 (by omega) rfl
  have i14 : ∀ w, (Instr.index 80 (.agg ordA) (.int .i64 14)).run Tryd.prog w = .ok (.int .i64 6) w := ordI 14 6 (by omega) rfl
  have i15 : ∀ w, (Instr.index 80 (.agg ordA) (.int .i64 15)).run Tryd.prog w = .ok (.int .i64 11) w := ordI 15 11 (by omega) rfl
  have R : Hid ((w.alloc (.cells ordA 80)).rangeAt w.heap.size 0 ordA.toList) := range_alloc w ordA 80
  have m00 := mul00
  have n00 := neq00
  have m01 := mul01
  have n01 := neq01
  have m02 := mul02
  have n02 := neq02
  have m03 := mul03
  have n03 := neq03
  have m10 := mul10
  have n10 := neq10
  have m11 := mul11
  have n11 := neq11
  have m12 := mul12
  have n12 := neq12
  have m13 := mul13
  have n13 := neq13
  have m20 := mul20
  have n20 := neq20
  have m21 := mul21
  have n21 := neq21
  have m22 := mul22
  have n22 := neq22
  have m23 := mul23
  have n23 := neq23
  have m30 := mul30
  have n30 := neq30
  have m31 := mul31
  have n31 := neq31
  have m32 := mul32
  have n32 := neq32
  have m33 := mul33
  have n33 := neq33
  go_enter Tryd.func85, Tryd.ntmps85
  go_wp2_with (refine wpList_load_mid rfl 80 (.tmp 1) rfl w.heap.size 0 rfl ordA.toList _ R.out Tryd.underlying80 rfl (by rw [ordA_len]; exact Tryd.sizeO) ?_)
  clear R
  have r0 := root0_any
  have r1 := root1_any
  have r2 := root2_any
  have r3 := root3_any
  have RR : Hid ((∀ w : World, Calls Tryd.prog 91 #[.int .i64 0] w fun e w' => e = .returned (.complex .f64 fOne 0) ∧ w' = w) ∧ (∀ w : World, Calls Tryd.prog 91 #[.int .i64 1] w fun e w' => e = .returned (.complex .f64 0 fOne) ∧ w' = w) ∧ (∀ w : World, Calls Tryd.prog 91 #[.int .i64 2] w fun e w' => e = .returned (.complex .f64 fMin 0) ∧ w' = w) ∧ (∀ w : World, Calls Tryd.prog 91 #[.int .i64 3] w fun e w' => e = .returned (.complex .f64 0 fMin) ∧ w' = w)) := ⟨r0, r1, r2, r3⟩
  clear r0 r1 r2 r3
  generalize ordA = A at *
  generalize fOne = F1 at *
  generalize fMin = F2 at *
  generalize fNeg = F3 at *
  refine wp_loop_rounds 17 ?_
  rw [rounds_succ]
  go_wp2_with fail
  refine (RR.out.1 _).mono ?_; rintro e w' ⟨rfl, rfl⟩
  go_wp2_with fail
  refine (RR.out.1 _).mono ?_; rintro e w' ⟨rfl, rfl⟩
  go_wp2_with fail
  refine (RR.out.1 _).mono ?_; rintro e w' ⟨rfl, rfl⟩
  go_wp2_with fail
  rw [rounds_succ]
  go_wp2_with fail
  refine (RR.out.2.1 _).mono ?_; rintro e w' ⟨rfl, rfl⟩
  go_wp2_with fail
  refine (RR.out.1 _).mono ?_; rintro e w' ⟨rfl, rfl⟩
  go_wp2_with fail
  refine (RR.out.2.1 _).mono ?_; rintro e w' ⟨rfl, rfl⟩
  go_wp2_with fail
  rw [rounds_succ]
  go_wp2_with fail
  refine (RR.out.2.2.1 _).mono ?_; rintro e w' ⟨rfl, rfl⟩
  go_wp2_with fail
  refine (RR.out.1 _).mono ?_; rintro e w' ⟨rfl, rfl⟩
  go_wp2_with fail
  refine (RR.out.2.2.1 _).mono ?_; rintro e w' ⟨rfl, rfl⟩
  go_wp2_with fail
  rw [rounds_succ]
  go_wp2_with fail
  refine (RR.out.2.2.2 _).mono ?_; rintro e w' ⟨rfl, rfl⟩
  go_wp2_with fail
  refine (RR.out.1 _).mono ?_; rintro e w' ⟨rfl, rfl⟩
  go_wp2_with fail
  refine (RR.out.2.2.2 _).mono ?_; rintro e w' ⟨rfl, rfl⟩
  go_wp2_with fail
  rw [rounds_succ]
  go_wp2_with fail
  refine (RR.out.2.1 _).mono ?_; rintro e w' ⟨rfl, rfl⟩
  go_wp2_with fail
  refine (RR.out.2.1 _).mono ?_; rintro e w' ⟨rfl, rfl⟩
  go_wp2_with fail
  refine (RR.out.1 _).mono ?_; rintro e w' ⟨rfl, rfl⟩
  go_wp2_with fail
  rw [rounds_succ]
  go_wp2_with fail
  refine (RR.out.2.2.1 _).mono ?_; rintro e w' ⟨rfl, rfl⟩
  go_wp2_with fail
  refine (RR.out.2.1 _).mono ?_; rintro e w' ⟨rfl, rfl⟩
  go_wp2_with fail
  refine (RR.out.2.1 _).mono ?_; rintro e w' ⟨rfl, rfl⟩
  go_wp2_with fail
  rw [rounds_succ]
  go_wp2_with fail
  refine (RR.out.2.2.2 _).mono ?_; rintro e w' ⟨rfl, rfl⟩
  go_wp2_with fail
  refine (RR.out.2.1 _).mono ?_; rintro e w' ⟨rfl, rfl⟩
  go_wp2_with fail
  refine (RR.out.2.2.1 _).mono ?_; rintro e w' ⟨rfl, rfl⟩
  go_wp2_with fail
  rw [rounds_succ]
  go_wp2_with fail
  refine (RR.out.1 _).mono ?_; rintro e w' ⟨rfl, rfl⟩
  go_wp2_with fail
  refine (RR.out.2.1 _).mono ?_; rintro e w' ⟨rfl, rfl⟩
  go_wp2_with fail
  refine (RR.out.2.2.2 _).mono ?_; rintro e w' ⟨rfl, rfl⟩
  go_wp2_with fail
  rw [rounds_succ]
  go_wp2_with fail
  refine (RR.out.2.2.1 _).mono ?_; rintro e w' ⟨rfl, rfl⟩
  go_wp2_with fail
  refine (RR.out.2.2.1 _).mono ?_; rintro e w' ⟨rfl, rfl⟩
  go_wp2_with fail
  refine (RR.out.1 _).mono ?_; rintro e w' ⟨rfl, rfl⟩
  go_wp2_with fail
  rw [rounds_succ]
  go_wp2_with fail
  refine (RR.out.2.2.2 _).mono ?_; rintro e w' ⟨rfl, rfl⟩
  go_wp2_with fail
  refine (RR.out.2.2.1 _).mono ?_; rintro e w' ⟨rfl, rfl⟩
  go_wp2_with fail
  refine (RR.out.2.1 _).mono ?_; rintro e w' ⟨rfl, rfl⟩
  go_wp2_with fail
  rw [rounds_succ]
  go_wp2_with fail
  refine (RR.out.1 _).mono ?_; rintro e w' ⟨rfl, rfl⟩
  go_wp2_with fail
  refine (RR.out.2.2.1 _).mono ?_; rintro e w' ⟨rfl, rfl⟩
  go_wp2_with fail
  refine (RR.out.2.2.1 _).mono ?_; rintro e w' ⟨rfl, rfl⟩
  go_wp2_with fail
  rw [rounds_succ]
  go_wp2_with fail
  refine (RR.out.2.1 _).mono ?_; rintro e w' ⟨rfl, rfl⟩
  go_wp2_with fail
  refine (RR.out.2.2.1 _).mono ?_; rintro e w' ⟨rfl, rfl⟩
  go_wp2_with fail
  refine (RR.out.2.2.2 _).mono ?_; rintro e w' ⟨rfl, rfl⟩
  go_wp2_with fail
  rw [rounds_succ]
  go_wp2_with fail
  refine (RR.out.2.2.2 _).mono ?_; rintro e w' ⟨rfl, rfl⟩
  go_wp2_with fail
  refine (RR.out.2.2.2 _).mono ?_; rintro e w' ⟨rfl, rfl⟩
  go_wp2_with fail
  refine (RR.out.1 _).mono ?_; rintro e w' ⟨rfl, rfl⟩
  go_wp2_with fail
  rw [rounds_succ]
  go_wp2_with fail
  refine (RR.out.1 _).mono ?_; rintro e w' ⟨rfl, rfl⟩
  go_wp2_with fail
  refine (RR.out.2.2.2 _).mono ?_; rintro e w' ⟨rfl, rfl⟩
  go_wp2_with fail
  refine (RR.out.2.1 _).mono ?_; rintro e w' ⟨rfl, rfl⟩
  go_wp2_with fail
  rw [rounds_succ]
  go_wp2_with fail
  refine (RR.out.2.1 _).mono ?_; rintro e w' ⟨rfl, rfl⟩
  go_wp2_with fail
  refine (RR.out.2.2.2 _).mono ?_; rintro e w' ⟨rfl, rfl⟩
  go_wp2_with fail
  refine (RR.out.2.2.1 _).mono ?_; rintro e w' ⟨rfl, rfl⟩
  go_wp2_with fail
  rw [rounds_succ]
  go_wp2_with fail
  refine (RR.out.2.2.1 _).mono ?_; rintro e w' ⟨rfl, rfl⟩
  go_wp2_with fail
  refine (RR.out.2.2.2 _).mono ?_; rintro e w' ⟨rfl, rfl⟩
  go_wp2_with fail
  refine (RR.out.2.2.2 _).mono ?_; rintro e w' ⟨rfl, rfl⟩
  go_wp2_with fail
  rw [rounds_succ]
  go_wp2
  go_ret
  exact ⟨rfl, (Below.refl _ _).alloc (Nat.le_refl _) _⟩
end Go.Proofs.YtonccbgolbcjfabDoor

/-
  The contract of impl.rowOrder: it hands back the table, and what was there stays.
-/
namespace Go.Proofs.YtonccbgolbcjfabDoor
open Go.ChangeShapes Go.WideShapes Go.ChangeAt Go.RowKit
theorem range_below {w w' : World} {b o : Nat} {cs : List Value} (h : w.rangeAt b o cs) (hb : Below w.heap.size w w') : w'.rangeAt b o cs := fun j v hv => by
  have c := h j v hv
  have hlt : b < w.heap.size := by
    rcases Nat.lt_or_ge b w.heap.size with g | g
    · exact g
    · simp [World.cell?, Array.getElem?_eq_none g] at c
  rw [hb.cell (p := ⟨b, o + j, none⟩) hlt]; exact c
theorem there_below {w w' : World} {b o n : Nat} (h : w.there b o n) (hlt : b < w.heap.size) (hb : Below w.heap.size w w') : w'.there b o n := fun j hj => by
  rw [hb.cell (p := ⟨b, o + j, none⟩) hlt, hb.frozen (p := ⟨b, o + j, none⟩) hlt]; exact h j hj
theorem there_alloc (w : World) (A : Array Value) (t : TypeId) : (w.alloc (.cells A t)).there w.heap.size 0 A.size := fun j hj => by
  have h := World.rowIs_alloc w A t (fun i => A.getD i undef) (fun i hi => by simp [hi])
  rw [Nat.zero_add, h.cell hj, h.frozen j]
  exact ⟨rfl, rfl⟩
def zI16 : Array Value := #[.int .i64 0, .int .i64 0, .int .i64 0, .int .i64 0, .int .i64 0, .int .i64 0, .int .i64 0, .int .i64 0, .int .i64 0, .int .i64 0, .int .i64 0, .int .i64 0, .int .i64 0, .int .i64 0, .int .i64 0, .int .i64 0]
theorem ordA_size : ordA.size = 16 := rfl
theorem ordA_one : ordA.all (·.oneCell') = true := by kernel_rfl
set_option maxRecDepth 100000 in
set_option maxHeartbeats 4000000 in
/-- impl.rowOrder -/
theorem rowOrder_any (w : World) : Calls Tryd.prog 72 #[] w fun e w' => e = .returned (.agg ordA) ∧ Below w.heap.size w w' := by
  have T := turnsLeft_any ((w.alloc (.cells zI16 80)).alloc (.cells ordA 80))
  have Z0 : ((w.alloc (.cells zI16 80)).alloc (.cells ordA 80)).there w.heap.size 0 16 := there_below (there_alloc w zI16 80) (by simp) ((Below.refl _ _).alloc (Nat.le_refl _) _)
  have R0 : ((w.alloc (.cells zI16 80)).alloc (.cells ordA 80)).rangeAt (w.heap.size + 1) 0 ordA.toList := by
    have := range_alloc (w.alloc (.cells zI16 80)) ordA 80
    simpa using this
  have B0 : Below w.heap.size w ((w.alloc (.cells zI16 80)).alloc (.cells ordA 80)) := ((Below.refl _ _).alloc (Nat.le_refl _) _).alloc (by simp) _
  have C : Hid (Calls Tryd.prog 85 #[.agg ordA] ((w.alloc (.cells zI16 80)).alloc (.cells ordA 80)) fun e w' => e = .returned (.bool true) ∧ (w'.there w.heap.size 0 16 ∧ w'.rangeAt (w.heap.size + 1) 0 ordA.toList ∧ Below w.heap.size w w')) :=
    T.mono fun e w' ⟨he, hb⟩ => ⟨he, there_below Z0 (by simp; omega) hb, range_below R0 hb, B0.trans (hb.mono (by simp; omega))⟩
  clear T Z0 R0 B0
  go_enter Tryd.func72, Tryd.ntmps72
  go_wp2_with fail
  have C' := C.out
  unfold zI16 ordA at C'
  refine Calls.mono C' ?_
  clear C'
  rw [← ordA.eq_1]
  rintro e w1 ⟨rfl, hz, hr, hb⟩
  have HZ : Hid (w1.there w.heap.size 0 16) := hz
  have HR : Hid (w1.rangeAt (w.heap.size + 1) 0 ordA.toList) := hr
  have HB : Hid (Below w.heap.size w w1) := hb
  clear hz hr hb C
  have hA1 : Hid ((Tryd.prog.info? 80).map (·.size) = some ordA.toList.length) := Tryd.sizeO
  have hA2 : Hid (ordA.all (·.oneCell') = true) := ordA_one
  have hA3 : Hid (ordA.size = 16) := ordA_size
  generalize hE : ordA = A at *
  have HE : Hid (ordA = A) := hE
  clear hE
  go_wp2_with (first
    | (refine wpList_load_mid rfl 80 (.tmp 1) rfl (w.heap.size + 1) 0 rfl A.toList _ HR.out Tryd.underlying80 rfl hA1.out ?_)
    | (refine wpList_store_mid rfl 80 (.tmp 0) (.tmp 6) rfl w.heap.size 0 A rfl rfl (by rw [hA3.out]; exact HZ.out) (by rw [hA3.out]; exact Tryd.sizeO) hA2.out ?_))
  have hL : (w1.setCells w.heap.size 0 A.toList).rangeAt w.heap.size 0 A.toList := World.rangeAt_setCells_same w1 w.heap.size 0 A.toList (by rw [Array.length_toList, hA3.out]; exact HZ.out)
  have Lo : (loadVar 80 ⟨w.heap.size, 0, none⟩).run Tryd.prog (w1.setCells w.heap.size 0 A.toList) = .ok (.agg A) (w1.setCells w.heap.size 0 A.toList) := run_loadVar_mid _ w.heap.size 0 80 A.toList _ hL Tryd.underlying80 rfl hA1.out
  have Bo : Below w.heap.size w (w1.setCells w.heap.size 0 A.toList) := below_setCells (Nat.le_refl _) _ _ _ HB.out
  rw [HE.out]
  exact bodyPost_ret (v := .agg A) (results_cell_one (b := w.heap.size) (o := 0) Tryd.results72 _ _ _ rfl Lo) rfl ⟨rfl, Bo⟩
end Go.Proofs.YtonccbgolbcjfabDoor
