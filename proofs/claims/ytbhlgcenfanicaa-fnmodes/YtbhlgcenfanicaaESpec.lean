/-
  The model's states of sixteen numbers: l01State, l01Xor, l01Swap, l01Shift, l01Fast, l01Text.
-/
import Derived.Test.YtbhlgcenfanicaaKSpec
import Derived.Test.YtbhlgcenfanicaaEncMath
import Derived.Test.YtbhlgcenfanicaaStrS
namespace Go.Proofs.Ytbhlgcenfanicaa
open Go.ChangeShapes Go.WideShapes Go.ChangeAt Go.RowKit
/-- Sixteen numbers in a block that may be written. -/
def I16 (w : World) (b : Nat) (f : Nat → Nat) : Prop := ∀ j, j < 16 → w.cell? ⟨b, j, none⟩ = some (.int .i64 (f j : Nat)) ∧ w.frozen? ⟨b, j, none⟩ = false
theorem I16.lt {w : World} {b : Nat} {f : Nat → Nat} (h : I16 w b f) : b < w.heap.size := cellBlockK (h 0 (by omega)).1
theorem I16.below {w w' : World} {b : Nat} {f : Nat → Nat} (h : I16 w b f) (hb : Below w.heap.size w w') : I16 w' b f := fun j hj => by
  rw [hb.cell (p := ⟨b, j, none⟩) h.lt, hb.frozen (p := ⟨b, j, none⟩) h.lt]; exact h j hj
theorem I16.congr {w : World} {b : Nat} {f g : Nat → Nat} (h : I16 w b f) (e : ∀ j, j < 16 → f j = g j) : I16 w b g := fun j hj => by rw [← e j hj]; exact h j hj
theorem I16.drew {w : World} {b : Nat} {f : Nat → Nat} (h : I16 w b f) : I16 w.drew b f := h
theorem I16.set {w : World} {b : Nat} {f : Nat → Nat} (h : I16 w b f) (i v : Nat) : I16 (w.setCell ⟨b, i, none⟩ (.int .i64 (v : Nat))) b (fun j => if j = i then v else f j) := fun j hj => by
  have hj' := h j hj
  refine ⟨?_, by rw [World.frozen?_setCell]; exact hj'.2⟩
  by_cases e : j = i
  · subst e
    simp only [if_true]
    exact World.cell?_setCell_same _ _ _ hj'.1
  · simp only [if_neg e]
    rw [← hj'.1]
    exact World.cell?_setCell_other _ _ _ _ (by intro h; cases h; exact e rfl)
theorem I16.other {w : World} {b : Nat} {f : Nat → Nat} (h : I16 w b f) {a : Addr} (ha : b ≠ a.block) (v : Value) : I16 (w.setCell a v) b f := fun j hj => by
  refine ⟨?_, by rw [World.frozen?_setCell]; exact (h j hj).2⟩
  rw [World.cell?_setCell_other _ _ _ _ (by intro e; rw [e] at ha; exact ha rfl)]; exact (h j hj).1
theorem I16.onlyB {w w' : World} {b c : Nat} {f : Nat → Nat} (h : I16 w b f) (ho : OnlyB c w w') (hne : b ≠ c) : I16 w' b f := fun j hj => by
  have hb := ho.block b h.lt hne
  rw [World.cell?_of_block (w := w) hb, World.frozen?_of_block (w := w) hb]; exact h j hj
theorem I16.ofOwned {w : World} {base g cap : Nat} {f : Nat → Nat} (h : w.ownsRow base 3 1 (.slice (some ⟨g, 0, none⟩) 16 cap) 16 ((List.range 16).map fun j => .int .i64 (f j : Nat))) : I16 w g f := fun j hj => by
  refine ⟨?_, h.frozenAt j⟩
  rw [h.cellAt j (by omega)]
  simp [hj]
theorem OnlyB.drew {b : Nat} {w w' : World} (h : OnlyB b w w') : OnlyB b w w'.drew := ⟨h.os, h.tape, h.output, h.size, h.block⟩
theorem Try.infoInt : (Try.prog.info? 3).map (fun i => (i.zero, i.size, i.bytes)) = some (some (.int .i64 0), 1, 8) := by kernel_rfl
set_option maxRecDepth 100000 in
set_option maxHeartbeats 1000000 in
/-- spec.l01State -/
theorem l01State_any (s : ByteArray) (hs : s.size = 16) (w : World) :
    Calls Try.prog 66 #[.string s] w fun e w' => (∃ b c, w.heap.size ≤ b ∧ e = .returned (.slice (some ⟨b, 0, none⟩) 16 c) ∧ I16 w' b (strB s)) ∧ Below w.heap.size w w' := by
  obtain ⟨i0, hi, hz0, hz1, hz2⟩ := info_parts Try.infoInt
  have HI : Hid (Try.prog.info? 3 = some i0 ∧ i0.zero = some (.int .i64 0) ∧ i0.size = 1 ∧ i0.bytes = 8) := ⟨hi, hz0, hz1, hz2⟩
  clear hi hz0 hz1 hz2
  go_enter Try.func66, Try.ntmps66
  go_wp2
  go_loopw [3, 4] (fun v i wr => ∃ k : Nat, k ≤ 16 ∧ i = .int .i64 k ∧ wr.ownsRow w.heap.size 3 1 v k ((List.range k).map fun j => .int .i64 (strB s j : Nat)) ∧ Below w.heap.size w wr) (fun _ i _ => 16 - (intOf i).toNat)
  case atStart =>
    refine ⟨0, by omega, rfl, ?_, (Below.refl _ _).alloc (Nat.le_refl _) _⟩
    exact ⟨rfl, .inr ⟨w.heap.size, 0, #[], rfl, Nat.le_refl _, Deep.blk_alloc_new _ _, Nat.le_refl _, by simp [maxLen], rfl, rfl⟩⟩
  case round =>
    obtain ⟨k, hk, rfl, hown, hb⟩ := hrel
    have HO : Hid (wr.ownsRow w.heap.size 3 1 u3 k ((List.range k).map fun j => .int .i64 (strB s j : Nat))) := hown
    have HB : Hid (Below w.heap.size w wr) := hb
    clear hown hb
    by_cases hlt : k < 16
    · have es := strB_eq s k (by omega)
      have hks : (k : Int) < s.size := by omega
      have hsz := HB.out.size
      have lb := strB_lt s k
      generalize hX : strB s k = X at *
      have HX : Hid (strB s k = X) := hX
      clear hX
      go_wp2_with (at_builtin; refine wpList_append_own _ rfl _ _ 59 rfl w.heap.size 3 i0 (.int .i64 0) 1 8 Try.underlying59 HI.out.1 HI.out.2.1 HI.out.2.2.1 HI.out.2.2.2 rfl (by decide) u3 k _ rfl (HO.out.alloc _) ⟨wr.heap.size, 0, none⟩ 1 1 [.int .i64 (X : Nat)] rfl rfl (one_newK _ _ _) (one_oneK _ rfl) (by unfold maxLen; omega) (by omega) (by simp; omega) ?_)
      intro v' w1 hown' hgrow _
      have HO1 : Hid (w1.ownsRow w.heap.size 3 1 v' (k + 1) ((List.range (k + 1)).map fun j => .int .i64 (strB s j : Nat))) := by
        rw [List.range_succ, List.map_append]
        have e := HX.out
        subst e
        exact hown'
      have HB1 : Hid (Below w.heap.size w w1) := (HB.out.alloc hsz _).grown hgrow (by simp; omega) (fun b hb => (HO.out.lt b hb).1)
      clear hown' hgrow hsz HO HB
      go_wp2
      go_roundw
      case rel => exact ⟨k + 1, by omega, by go_num, HO1.out, HB1.out⟩
      case measure => simp [intOf]; omega
    · obtain rfl : k = 16 := by omega
      obtain ⟨g, cap, hg1, hg2, rfl, hcell⟩ := owned_open HO.out (by omega)
      have HF : Hid (I16 wr g (strB s)) := I16.ofOwned HO.out
      clear hcell
      go_wp2
      go_ret
      exact ⟨⟨g, cap, hg1, rfl, HF.out⟩, HB.out⟩
set_option maxRecDepth 100000 in
set_option maxHeartbeats 1000000 in
/-- spec.l01Xor -/
theorem l01Xor_any (b c : Nat) (f : Nat → Nat) (hf : ∀ j, j < 16 → f j < 256) (k : ByteArray) (hk : k.size = 16) (w : World) (h : I16 w b f) :
    Calls Try.prog 67 #[.slice (some ⟨b, 0, none⟩) 16 c, .string k] w fun e w' => e = .returned (.tuple #[]) ∧ I16 w' b (fun j => f j ^^^ strB k j) ∧ OnlyB b w w' := by
  have HI : Hid (I16 w b f) := h
  have HF : Hid (∀ j, j < 16 → f j < 256) := hf
  clear h hf
  go_enter Try.func67, Try.ntmps67
  go_wp2
  go_loopw [4] (fun i wr => ∃ q : Nat, q ≤ 16 ∧ i = .int .i64 q ∧ I16 wr b (fun j => if j < q then f j ^^^ strB k j else f j) ∧ OnlyB b w wr) (fun i _ => 16 - (intOf i).toNat)
  case atStart => exact ⟨0, by omega, rfl, HI.out.congr (fun j _ => by rw [if_neg (by omega)]), OnlyB.refl _ _⟩
  case round =>
    obtain ⟨q, hq, rfl, hi, ho⟩ := hrel
    have HJ : Hid (I16 wr b (fun j => if j < q then f j ^^^ strB k j else f j)) := hi
    have HO : Hid (OnlyB b w wr) := ho
    by_cases hlt : q < 16
    · have c1 : wr.cell? ⟨b, q, none⟩ = some (.int .i64 (f q : Nat)) := by have := (hi q hlt).1; simp only [] at this; rw [if_neg (by omega)] at this; exact this
      have f1 := (hi q hlt).2
      have es := strB_eq k q (by omega)
      have hks : (q : Int) < k.size := by omega
      have lf := HF.out q hlt
      have lk := strB_lt k q
      have ex : bits .xor .i64 (f q : Int) (strB k q : Int) = ((f q ^^^ strB k q : Nat) : Int) := i64_xor_nat _ _ (by omega) (by omega)
      have x1 : (q : Int) < 16 := by omega
      clear hi ho
      generalize hX : f q ^^^ strB k q = X at *
      have HX : Hid (f q ^^^ strB k q = X) := hX
      clear hX
      generalize strB k q = Y at es ex lk
      generalize f q = Z at c1 ex lf
      go_wp2
      go_region
      go_wp2
      go_roundw
      case rel =>
        refine ⟨q + 1, by omega, by go_num, ?_, (HO.out.setCell q _).drew⟩
        exact ((HJ.out.set q X).drew).congr (fun j hj => by
          by_cases e : j = q
          · subst e; rw [if_pos rfl, if_pos (by omega), HX.out]
          · rw [if_neg e]
            by_cases h1 : j < q
            · rw [if_pos h1, if_pos (by omega)]
            · rw [if_neg h1, if_neg (by omega)])
      case measure => simp [intOf]; omega
    · have HF' : Hid (I16 wr b (fun j => f j ^^^ strB k j)) := hi.congr (fun j hj => by rw [if_pos (by omega)])
      have hq' : ¬ (q : Int) < 16 := by omega
      clear hi ho HJ
      generalize (q : Int) = qq at *
      go_wp2
      go_end0
      exact ⟨rfl, HF'.out, HO.out⟩
set_option maxRecDepth 100000 in
set_option maxHeartbeats 1000000 in
/-- spec.l01Swap -/
theorem l01Swap_any (b c t : Nat) (f g : Nat → Nat) (hf : ∀ j, j < 16 → f j < 256) (hbt : b ≠ t) (w : World) (h : I16 w b f) (ht : ∀ x, x < 256 → w.cell? ⟨t, x, none⟩ = some (.int .i64 (g x : Nat))) :
    Calls Try.prog 70 #[.slice (some ⟨b, 0, none⟩) 16 c, .slice (some ⟨t, 0, none⟩) 256 256] w fun e w' => e = .returned (.tuple #[]) ∧ I16 w' b (fun j => g (f j)) ∧ OnlyB b w w' := by
  have HI : Hid (I16 w b f) := h
  have HF : Hid (∀ j, j < 16 → f j < 256) := hf
  have HT : Hid (∀ x, x < 256 → w.cell? ⟨t, x, none⟩ = some (.int .i64 (g x : Nat))) := ht
  have htl : t < w.heap.size := cellBlockK (ht 0 (by omega))
  clear h hf ht
  go_enter Try.func70, Try.ntmps70
  go_wp2
  go_loopw [4] (fun i wr => ∃ q : Nat, q ≤ 16 ∧ i = .int .i64 q ∧ I16 wr b (fun j => if j < q then g (f j) else f j) ∧ OnlyB b w wr) (fun i _ => 16 - (intOf i).toNat)
  case atStart => exact ⟨0, by omega, rfl, HI.out.congr (fun j _ => by rw [if_neg (by omega)]), OnlyB.refl _ _⟩
  case round =>
    obtain ⟨q, hq, rfl, hi, ho⟩ := hrel
    have HJ : Hid (I16 wr b (fun j => if j < q then g (f j) else f j)) := hi
    have HO : Hid (OnlyB b w wr) := ho
    by_cases hlt : q < 16
    · have c1 : wr.cell? ⟨b, q, none⟩ = some (.int .i64 (f q : Nat)) := by have := (hi q hlt).1; simp only [] at this; rw [if_neg (by omega)] at this; exact this
      have f1 := (hi q hlt).2
      have lf := HF.out q hlt
      have c2 : wr.cell? ⟨t, f q, none⟩ = some (.int .i64 (g (f q) : Nat)) := by
        rw [World.cell?_of_block (w := w) (ho.block t htl (fun e => hbt e.symm))]; exact HT.out _ lf
      have x1 : (q : Int) < 16 := by omega
      have x2 : (f q : Int) < 256 := by omega
      clear hi ho
      generalize hX : g (f q) = X at *
      have HX : Hid (g (f q) = X) := hX
      clear hX
      generalize f q = Z at c1 c2 lf x2
      go_wp2
      go_roundw
      case rel =>
        refine ⟨q + 1, by omega, by go_num, ?_, HO.out.setCell q _⟩
        exact (HJ.out.set q X).congr (fun j hj => by
          by_cases e : j = q
          · subst e; rw [if_pos rfl, if_pos (by omega), HX.out]
          · rw [if_neg e]
            by_cases h1 : j < q
            · rw [if_pos h1, if_pos (by omega)]
            · rw [if_neg h1, if_neg (by omega)])
      case measure => simp [intOf]; omega
    · have HF' : Hid (I16 wr b (fun j => g (f j))) := hi.congr (fun j hj => by rw [if_pos (by omega)])
      have hq' : ¬ (q : Int) < 16 := by omega
      clear hi ho HJ
      generalize (q : Int) = qq at *
      go_wp2
      go_end0
      exact ⟨rfl, HF'.out, HO.out⟩
theorem mkI16 (w : World) : (Instr.makeSlice 59 (.int .i64 16) (.int .i64 16)).run Try.prog w = .ok (.slice (some ⟨w.heap.size, 0, none⟩) 16 16) (w.alloc (.cells (madeCells #[.int .i64 0] 16) 3)) :=
  run_make_row' 59 3 (.int .i64 0) 8 Try.underlying59 Try.infoInt rfl .i64 .i64 16 (by omega) (by omega) w
theorem I16.made (w : World) : I16 (w.alloc (.cells (madeCells #[.int .i64 0] 16) 3)) w.heap.size (fun _ => 0) := fun j hj => by
  have h := World.rowIs_made w (.int .i64 0) 16 3
  exact ⟨h.cell hj, h.frozen j⟩
theorem Try.infoU8 : (Try.prog.info? 5).map (fun i => (i.zero, i.size, i.bytes)) = some (some (.int .u8 0), 1, 1) := by kernel_rfl
set_option maxRecDepth 100000 in
set_option maxHeartbeats 1000000 in
/-- spec.l01Text -/
theorem l01Text_any (b c : Nat) (f : Nat → Nat) (hf : ∀ j, j < 16 → f j < 256) (w : World) (h : I16 w b f) :
    Calls Try.prog 71 #[.slice (some ⟨b, 0, none⟩) 16 c] w fun e w' => e = .returned (.string (kstr f 0 16)) ∧ Below w.heap.size w w' := by
  have HC : Hid (I16 w b f) := h
  have HF : Hid (∀ j, j < 16 → f j < 256) := hf
  clear h hf
  obtain ⟨i0, hi, hz0, hz1, hz2⟩ := info_parts Try.infoU8
  have HI : Hid (Try.prog.info? 5 = some i0 ∧ i0.zero = some (.int .u8 0) ∧ i0.size = 1 ∧ i0.bytes = 1) := ⟨hi, hz0, hz1, hz2⟩
  clear hi hz0 hz1 hz2
  go_enter Try.func71, Try.ntmps71
  go_wp2
  go_loopw [3, 4] (fun v i wr => ∃ k : Nat, k ≤ 16 ∧ i = .int .i64 k ∧ wr.ownsRow w.heap.size 5 1 v k ((List.range k).map fun j => .int .u8 (f j : Nat)) ∧ Below w.heap.size w wr) (fun _ i _ => 16 - (intOf i).toNat)
  case atStart =>
    refine ⟨0, by omega, rfl, ?_, (Below.refl _ _).alloc (Nat.le_refl _) _⟩
    exact ⟨rfl, .inr ⟨w.heap.size, 0, #[], rfl, Nat.le_refl _, Deep.blk_alloc_new _ _, Nat.le_refl _, by simp [maxLen], rfl, rfl⟩⟩
  case round =>
    obtain ⟨k, hk, rfl, hown, hb⟩ := hrel
    have HO : Hid (wr.ownsRow w.heap.size 5 1 u3 k ((List.range k).map fun j => .int .u8 (f j : Nat))) := hown
    have HB : Hid (Below w.heap.size w wr) := hb
    by_cases hlt : k < 16
    · have c1 : wr.cell? ⟨b, k, none⟩ = some (.int .i64 (f k : Nat)) := by rw [hb.cell (p := ⟨b, k, none⟩) HC.out.lt]; exact (HC.out k hlt).1
      have lf := HF.out k hlt
      have y0 : IntKind.u8.wrap (f k : Int) = (f k : Int) := u8in _ lf
      have hsz := HB.out.size
      have x1 : (k : Int) < 16 := by omega
      clear hown hb
      generalize hX : f k = X at *
      have HX : Hid (f k = X) := hX
      clear hX
      go_wp2_with (at_builtin; refine wpList_append_own _ rfl _ _ 22 rfl w.heap.size 5 i0 (.int .u8 0) 1 1 Try.underlying22 HI.out.1 HI.out.2.1 HI.out.2.2.1 HI.out.2.2.2 rfl (by decide) u3 k _ rfl (HO.out.alloc _) ⟨wr.heap.size, 0, none⟩ 1 1 [.int .u8 (X : Nat)] rfl rfl (one_newK _ _ _) (one_oneK _ rfl) (by unfold maxLen; omega) (by omega) (by simp; omega) ?_)
      intro v' w1 hown' hgrow _
      have HO1 : Hid (w1.ownsRow w.heap.size 5 1 v' (k + 1) ((List.range (k + 1)).map fun j => .int .u8 (f j : Nat))) := by
        rw [List.range_succ, List.map_append]
        have e := HX.out
        subst e
        exact hown'
      have HB1 : Hid (Below w.heap.size w w1) := (HB.out.alloc hsz _).grown hgrow (by simp; omega) (fun b hb => (HO.out.lt b hb).1)
      clear hown' hgrow hsz HO HB
      go_wp2
      go_roundw
      case rel => exact ⟨k + 1, by omega, by go_num, HO1.out, HB1.out⟩
      case measure => simp [intOf]; omega
    · obtain rfl : k = 16 := by omega
      obtain ⟨g, cap, hg1, hg2, rfl, hcell⟩ := owned_open HO.out (by omega)
      have hcv : (convert 22 9 (.slice (some ⟨g, 0, none⟩) 16 cap)).run Try.prog wr = .ok (.string (kstr f 0 16)) wr := by
        refine run_convert_bytes_arg wr 22 5 Try.underlying22 Try.underlying5 g 0 16 cap ((List.range 16).map fun i => ((f (0 + i) : Nat) : Int)) (by simp) (fun i hi => ?_) 9 Try.underlying9
        rw [Nat.zero_add, hcell i hi]
        simp [hi]
      clear hcell hown hb HO
      go_wp2
      go_ret
      exact ⟨rfl, HB.out⟩
set_option maxRecDepth 100000 in
set_option maxHeartbeats 1000000 in
/-- spec.l01Shift to the left -/
theorem l01Shift_any (b c : Nat) (f : Nat → Nat) (w : World) (h : I16 w b f) :
    Calls Try.prog 69 #[.slice (some ⟨b, 0, none⟩) 16 c, .int .i64 1] w fun e w' => (∃ L, w.heap.size ≤ L ∧ e = .returned (.slice (some ⟨L, 0, none⟩) 16 16) ∧ I16 w' L (fun j => f (Gf.ord j))) ∧ Below w.heap.size w w' := by
  have HC : Hid (I16 w b f) := h
  have hbl : b < w.heap.size := h.lt
  clear h
  have mk := mkI16
  have M0 : Hid (I16 (w.alloc (.cells (madeCells #[.int .i64 0] 16) 3)) w.heap.size (fun _ => 0)) := I16.made w
  have B0 : Hid (Below w.heap.size w (w.alloc (.cells (madeCells #[.int .i64 0] 16) 3))) := (Below.refl _ _).alloc (Nat.le_refl _) _
  go_enter Try.func69, Try.ntmps69
  go_wp2
  clear mk
  generalize w.alloc (.cells (madeCells #[.int .i64 0] 16) 3) = wz at *
  go_loopw [6] (fun i wr => ∃ q : Nat, q ≤ 4 ∧ i = .int .i64 q ∧ I16 wr w.heap.size (fun j => if j < 4 * q then f (Gf.ord j) else 0) ∧ Below w.heap.size w wr) (fun i _ => 4 - (intOf i).toNat)
  case atStart => exact ⟨0, by omega, rfl, M0.out.congr (fun j _ => by rw [if_neg (by omega)]), B0.out⟩
  case round =>
    clear M0 B0
    obtain ⟨q, hq, rfl, hi, hb⟩ := hrel
    have HJ : Hid (I16 wr w.heap.size (fun j => if j < 4 * q then f (Gf.ord j) else 0)) := hi
    have HB : Hid (Below w.heap.size w wr) := hb
    clear hi hb
    by_cases hlt : q < 4
    · go_wp2
      go_loopw [7] (fun i wr => ∃ r : Nat, r ≤ 4 ∧ i = .int .i64 r ∧ I16 wr w.heap.size (fun j => if j < 4 * q + r then f (Gf.ord j) else 0) ∧ Below w.heap.size w wr) (fun i _ => 4 - (intOf i).toNat)
      case atStart => exact ⟨0, by omega, rfl, HJ.out, HB.out⟩
      case round =>
        clear HJ HB
        obtain ⟨r, hr, rfl, hi, hb⟩ := hrel
        have HJ : Hid (I16 wr w.heap.size (fun j => if j < 4 * q + r then f (Gf.ord j) else 0)) := hi
        have HB : Hid (Below w.heap.size w wr) := hb
        by_cases hr4 : r < 4
        · have eo : Gf.ord (4 * q + r) = 4 * ((q + r + 16) % 4) + r := by unfold Gf.ord; omega
          have hol : 4 * ((q + r + 16) % 4) + r < 16 := by omega
          have c0 : wr.cell? ⟨b, 4 * ((q + r + 16) % 4) + r, none⟩ = some (.int .i64 (f (Gf.ord (4 * q + r)) : Nat)) := by
            rw [eo, hb.cell (p := ⟨b, _, none⟩) hbl]; exact (HC.out _ hol).1
          have c1 := (hi (4 * q + r) (by omega)).1
          have f1 := (hi (4 * q + r) (by omega)).2
          have et : ((q : Int) + (r : Int) + 16).tmod 4 = (((q + r + 16) % 4 : Nat) : Int) := (Int.ofNat_tmod (q + r + 16) 4).symm
          have em : ((q : Int) + (r : Int) + 16) % 4 = (((q + r + 16) % 4 : Nat) : Int) := by omega
          have em2 : ((q : Int) + (r : Int)) % 4 = (((q + r + 16) % 4 : Nat) : Int) := by omega
          have hM : (q + r + 16) % 4 < 4 := Nat.mod_lt _ (by omega)
          clear hi hb eo
          generalize hX : f (Gf.ord (4 * q + r)) = X at *
          have HX : Hid (f (Gf.ord (4 * q + r)) = X) := hX
          clear hX
          generalize (q + r + 16) % 4 = M at *
          have x1 : (r : Int) < 4 := by omega
          have x2 : (q : Int) < 4 := by omega
          go_wp2
          go_roundw
          case rel =>
            refine ⟨r + 1, by omega, by go_num, ?_, HB.out.setCell (p := ⟨w.heap.size, 4 * q + r, none⟩) (Nat.le_refl _) _⟩
            exact (HJ.out.set (4 * q + r) X).congr (fun j hj => by
              by_cases e : j = 4 * q + r
              · subst e; rw [if_pos rfl, if_pos (by omega), HX.out]
              · rw [if_neg e]
                by_cases h1 : j < 4 * q + r
                · rw [if_pos h1, if_pos (by omega)]
                · rw [if_neg h1, if_neg (by omega)])
          case measure => simp [intOf]; omega
        · have HJ' : Hid (I16 wr w.heap.size (fun j => if j < 4 * (q + 1) then f (Gf.ord j) else 0)) := hi.congr (fun j hj => by rw [show 4 * q + r = 4 * (q + 1) from by omega])
          have hr' : ¬ (r : Int) < 4 := by omega
          clear hi hb HJ
          generalize (r : Int) = rr at *
          go_wp2
          go_roundw
          case rel => exact ⟨q + 1, by omega, by go_num, HJ'.out, HB.out⟩
          case measure => simp [intOf]; omega
    · have HJ' : Hid (I16 wr w.heap.size (fun j => f (Gf.ord j))) := HJ.out.congr (fun j hj => by rw [if_pos (by omega)])
      have hq' : ¬ (q : Int) < 4 := by omega
      clear HJ
      generalize (q : Int) = qq at *
      go_wp2
      go_ret
      exact ⟨⟨w.heap.size, Nat.le_refl _, rfl, HJ'.out⟩, HB.out⟩
theorem two_keep {w : World} {b L i j k : Nat} {x y : Option Value} {v : Value} (h : w.cell? ⟨b, i, none⟩ = x ∧ w.cell? ⟨b, j, none⟩ = y) (hne : b ≠ L) : (w.setCell ⟨L, k, none⟩ v).drew.cell? ⟨b, i, none⟩ = x ∧ (w.setCell ⟨L, k, none⟩ v).drew.cell? ⟨b, j, none⟩ = y := by
  show (w.setCell ⟨L, k, none⟩ v).cell? ⟨b, i, none⟩ = x ∧ (w.setCell ⟨L, k, none⟩ v).cell? ⟨b, j, none⟩ = y
  rw [World.cell?_setCell_other _ _ _ _ (by intro e; cases e; exact hne rfl), World.cell?_setCell_other _ _ _ _ (by intro e; cases e; exact hne rfl)]
  exact h
namespace Gf
theorem fast_eq (x a b c d e : Nat) : (x ^^^ (((a ^^^ b) ^^^ c) ^^^ d)) ^^^ e = ((((a ^^^ b) ^^^ c) ^^^ d) ^^^ x) ^^^ e := by rw [Nat.xor_comm x]
end Gf
set_option maxRecDepth 100000 in
set_option maxHeartbeats 2000000 in
/-- spec.l01Fast -/
theorem l01Fast_any (b c : Nat) (f : Nat → Nat) (hf : ∀ j, j < 16 → f j < 256) (w : World) (h : I16 w b f) :
    Calls Try.prog 80 #[.slice (some ⟨b, 0, none⟩) 16 c] w fun e w' => (∃ L, w.heap.size ≤ L ∧ e = .returned (.slice (some ⟨L, 0, none⟩) 16 16) ∧ I16 w' L (Gf.mixS f)) ∧ Below w.heap.size w w' := by
  have HC : Hid (I16 w b f) := h
  have HF : Hid (∀ j, j < 16 → f j < 256) := hf
  have hbl : b < w.heap.size := h.lt
  clear h hf
  have mk := mkI16
  have M0 : Hid (I16 (w.alloc (.cells (madeCells #[.int .i64 0] 16) 3)) w.heap.size (fun _ => 0)) := I16.made w
  have B0 : Hid (Below w.heap.size w (w.alloc (.cells (madeCells #[.int .i64 0] 16) 3))) := (Below.refl _ _).alloc (Nat.le_refl _) _
  go_enter Try.func80, Try.ntmps80
  go_wp2
  clear mk
  generalize w.alloc (.cells (madeCells #[.int .i64 0] 16) 3) = wz at *
  go_loopw [4] (fun i wr => ∃ q : Nat, q ≤ 4 ∧ i = .int .i64 ((4 * q : Nat) : Int) ∧ I16 wr w.heap.size (fun j => if j < 4 * q then Gf.mixS f j else 0) ∧ Below w.heap.size w wr) (fun i _ => 16 - (intOf i).toNat)
  case atStart => exact ⟨0, by omega, rfl, M0.out.congr (fun j _ => by rw [if_neg (by omega)]), B0.out⟩
  case round =>
    clear M0 B0
    obtain ⟨q, hq, rfl, hi, hb⟩ := hrel
    have HJ : Hid (I16 wr w.heap.size (fun j => if j < 4 * q then Gf.mixS f j else 0)) := hi
    have HB : Hid (Below w.heap.size w wr) := hb
    clear hi
    by_cases hlt : q < 4
    · have CELL : Hid (∀ j, j < 16 → ∀ w', Below w.heap.size w w' → w'.cell? ⟨b, j, none⟩ = some (.int .i64 (f j : Nat))) := fun j hj w' h => by rw [h.cell (p := ⟨b, j, none⟩) hbl]; exact (HC.out j hj).1
      have MX : Hid (∀ r, r < 4 → Gf.mixS f (4 * q + r) = (f (4 * q + r) ^^^ (((f (4 * q) ^^^ f (4 * q + 1)) ^^^ f (4 * q + 2)) ^^^ f (4 * q + 3))) ^^^ Gf.dbl (f (4 * q + r) ^^^ f (4 * q + (r + 1) % 4))) := fun r hr => by
        rw [Gf.fast_eq, Gf.mixS, show (4 * q + r) / 4 * 4 = 4 * q from by omega, show (4 * q + r) % 4 = r from by omega]; rfl
      have hO4 : 4 * q + 4 ≤ 16 := by omega
      generalize hO : 4 * q = O at *
      have HO : Hid (4 * q = O) := hO
      have c0 := CELL.out O (by omega) wr hb
      have c1 := CELL.out (O + 1) (by omega) wr hb
      have c2 := CELL.out (O + 2) (by omega) wr hb
      have c3 := CELL.out (O + 3) (by omega) wr hb
      have l0 := HF.out O (by omega)
      have l1 := HF.out (O + 1) (by omega)
      have l2 := HF.out (O + 2) (by omega)
      have l3 := HF.out (O + 3) (by omega)
      have m1 := Gf.xor_lt l0 l1
      have m2 := Gf.xor_lt m1 l2
      have m3 := Gf.xor_lt m2 l3
      have y1 : bits .xor .i64 (f O : Int) (f (O + 1) : Int) = ((f O ^^^ f (O + 1) : Nat) : Int) := i64_xor_nat _ _ (by omega) (by omega)
      have y2 : bits .xor .i64 ((f O ^^^ f (O + 1) : Nat) : Int) (f (O + 2) : Int) = (((f O ^^^ f (O + 1)) ^^^ f (O + 2) : Nat) : Int) := i64_xor_nat _ _ (by omega) (by omega)
      have y3 : bits .xor .i64 (((f O ^^^ f (O + 1)) ^^^ f (O + 2) : Nat) : Int) (f (O + 3) : Int) = ((((f O ^^^ f (O + 1)) ^^^ f (O + 2)) ^^^ f (O + 3) : Nat) : Int) := i64_xor_nat _ _ (by omega) (by omega)
      have b0 : (O : Int) < 16 := by omega
      have b1 : (O : Int) + 1 < 16 := by omega
      have b2 : (O : Int) + 2 < 16 := by omega
      have b3 : (O : Int) + 3 < 16 := by omega
      have p0 : (0 : Int) ≤ (O : Int) := by omega
      have p1 : (0 : Int) ≤ (O : Int) + 1 := by omega
      have p2 : (0 : Int) ≤ (O : Int) + 2 := by omega
      have p3 : (0 : Int) ≤ (O : Int) + 3 := by omega
      have t1 : ((O : Int) + 1).toNat = O + 1 := by omega
      have t2 : ((O : Int) + 2).toNat = O + 2 := by omega
      have t3 : ((O : Int) + 3).toNat = O + 3 := by omega
      have v1 : IntKind.i64.wrap ((O : Int) + 1) = O + 1 := IntWalk.i64_in _ ⟨by omega, by omega⟩
      have v2 : IntKind.i64.wrap ((O : Int) + 2) = O + 2 := IntWalk.i64_in _ ⟨by omega, by omega⟩
      have v3 : IntKind.i64.wrap ((O : Int) + 3) = O + 3 := IntWalk.i64_in _ ⟨by omega, by omega⟩
      generalize hALL : (((f O ^^^ f (O + 1)) ^^^ f (O + 2)) ^^^ f (O + 3)) = ALL at *
      clear hb hALL
      go_wp2
      go_region_held3 (fun w' => w'.cell? ⟨b, O, none⟩ = some (.int .i64 (f O : Nat)) ∧ w'.cell? ⟨b, O + 1, none⟩ = some (.int .i64 (f (O + 1) : Nat)) ∧ w'.cell? ⟨b, O + 2, none⟩ = some (.int .i64 (f (O + 2) : Nat)) ∧ w'.cell? ⟨b, O + 3, none⟩ = some (.int .i64 (f (O + 3) : Nat))) (go_keep) (fail)
      have HJ1 : Hid (I16 wr.drew w.heap.size (fun j => if j < O then Gf.mixS f j else 0)) := HJ.out
      have HB1 : Hid (Below w.heap.size w wr.drew) := HB.out.drew
      clear HJ HB c0 c1 c2 c3 y1 y2 y3 l0 l1 l2 l3 m1 m2 t1 t2 t3 v1 v2 v3 b1 b2 b3 p1 p2 p3
      generalize wr.drew = wd at *
      generalize f O ^^^ f (O + 1) ^^^ f (O + 2) = U3 at *
      generalize f O ^^^ f (O + 1) = U2 at *
      go_wp2
      go_loopw [6] (fun i wq => ∃ r : Nat, r ≤ 4 ∧ i = .int .i64 r ∧ I16 wq w.heap.size (fun j => if j < O + r then Gf.mixS f j else 0) ∧ Below w.heap.size w wq) (fun i _ => 4 - (intOf i).toNat)
      case atStart => exact ⟨0, by omega, rfl, HJ1.out, HB1.out⟩
      case round =>
        clear HJ1 HB1
        obtain ⟨r, hr, rfl, hi, hb⟩ := hrel
        have HJ : Hid (I16 wr w.heap.size (fun j => if j < O + r then Gf.mixS f j else 0)) := hi
        have HB : Hid (Below w.heap.size w wr) := hb
        by_cases hr4 : r < 4
        · have hM : (r + 1) % 4 < 4 := Nat.mod_lt _ (by omega)
          have cx := CELL.out (O + r) (by omega) wr hb
          have cy := CELL.out (O + (r + 1) % 4) (by omega) wr hb
          have co : wr.cell? ⟨w.heap.size, O + r, none⟩ = some (.int .i64 ((0 : Nat) : Int)) := by have := (hi (O + r) (by omega)).1; simp only [] at this; rw [if_neg (by omega)] at this; exact this
          have fo := (hi (O + r) (by omega)).2
          have lx := HF.out (O + r) (by omega)
          have ly := HF.out (O + (r + 1) % 4) (by omega)
          have lxy := Gf.xor_lt lx ly
          have lxa := Gf.xor_lt lx m3
          have ld := Gf.dbl_lt _ lxy
          have e1 : bits .xor .i64 (f (O + r) : Int) (ALL : Int) = ((f (O + r) ^^^ ALL : Nat) : Int) := i64_xor_nat _ _ (by omega) (by omega)
          have e2 : bits .xor .i64 (f (O + r) : Int) (f (O + (r + 1) % 4) : Int) = ((f (O + r) ^^^ f (O + (r + 1) % 4) : Nat) : Int) := i64_xor_nat _ _ (by omega) (by omega)
          have e3 : bits .xor .i64 ((f (O + r) ^^^ ALL : Nat) : Int) (Gf.dbl (f (O + r) ^^^ f (O + (r + 1) % 4)) : Int) = ((Gf.mixS f (O + r) : Nat) : Int) := by
            rw [i64_xor_nat _ _ (by omega) (by omega), MX.out r hr4]
          have DB : Hid (∀ w : World, Calls Try.prog 62 #[.int .i64 ((f (O + r) ^^^ f (O + (r + 1) % 4) : Nat) : Int)] w fun e w' => e = .returned (.int .i64 (Gf.dbl (f (O + r) ^^^ f (O + (r + 1) % 4)) : Nat)) ∧ w' = w) := l01Double_any _ lxy
          have et : ((r : Int) + 1).tmod 4 = (((r + 1) % 4 : Nat) : Int) := (Int.ofNat_tmod (r + 1) 4).symm
          have em : ((r : Int) + 1) % 4 = (((r + 1) % 4 : Nat) : Int) := by omega
          have w1 : IntKind.i64.wrap ((O : Int) + (r : Int)) = O + r := IntWalk.i64_in _ ⟨by omega, by omega⟩
          have w2 : IntKind.i64.wrap ((O : Int) + (((r + 1) % 4 : Nat) : Int)) = O + ((r + 1) % 4 : Nat) := IntWalk.i64_in _ ⟨by omega, by omega⟩
          have w3 : IntKind.i64.wrap ((r : Int) + 1) = r + 1 := IntWalk.i64_in _ ⟨by omega, by omega⟩
          have q1 : (0 : Int) ≤ (O : Int) + (r : Int) := by omega
          have q2 : (O : Int) + (r : Int) < 16 := by omega
          have q3 : ((O : Int) + (r : Int)).toNat = O + r := by omega
          have q4 : (0 : Int) ≤ (O : Int) + (((r + 1) % 4 : Nat) : Int) := by omega
          have q5 : (O : Int) + (((r + 1) % 4 : Nat) : Int) < 16 := by omega
          have q6 : ((O : Int) + (((r + 1) % 4 : Nat) : Int)).toNat = O + (r + 1) % 4 := by omega
          have hne : b ≠ w.heap.size := by omega
          have x1 : (r : Int) < 4 := by omega
          clear hi hb m3
          generalize Gf.dbl (f (O + r) ^^^ f (O + (r + 1) % 4)) = DD at *
          generalize f (O + r) ^^^ f (O + (r + 1) % 4) = XY at *
          generalize f (O + r) ^^^ ALL = XA at *
          generalize hG : Gf.mixS f (O + r) = G at *
          have HG : Hid (Gf.mixS f (O + r) = G) := hG
          clear hG
          generalize f (O + (r + 1) % 4) = Y at *
          generalize f (O + r) = X at *
          generalize (r + 1) % 4 = M at *
          go_wp2_with fail
          go_region_held3 (fun w' => w'.cell? ⟨b, O + r, none⟩ = some (.int .i64 (X : Nat)) ∧ w'.cell? ⟨b, O + M, none⟩ = some (.int .i64 (Y : Nat))) (first | exact two_keep ⟨cx, cy⟩ hne | go_keep) ((first | (go_at_call 62; refine (DB.out _).mono ?_; rintro e w' ⟨rfl, rfl⟩)))
          go_wp2
          go_roundw
          case rel =>
            refine ⟨r + 1, by omega, by go_num, ?_, (HB.out.setCell (p := ⟨w.heap.size, O + r, none⟩) (Nat.le_refl _) _).drew⟩
            exact ((HJ.out.set (O + r) G).drew).congr (fun j hj => by
              by_cases e : j = O + r
              · subst e; rw [if_pos rfl, if_pos (by omega), HG.out]
              · rw [if_neg e]
                by_cases h1 : j < O + r
                · rw [if_pos h1, if_pos (by omega)]
                · rw [if_neg h1, if_neg (by omega)])
          case measure => simp [intOf]; omega
        · have HJ' : Hid (I16 wr w.heap.size (fun j => if j < 4 * (q + 1) then Gf.mixS f j else 0)) := hi.congr (fun j hj => by rw [show O + r = 4 * (q + 1) from by have := HO.out; omega])
          have hr' : ¬ (r : Int) < 4 := by omega
          clear hi hb HJ
          generalize (r : Int) = rr at *
          go_wp2
          go_roundw
          case rel => exact ⟨q + 1, by omega, numEqK (by have := HO.out; omega), HJ'.out, HB.out⟩
          case measure => simp [intOf]; omega
    · have HJ' : Hid (I16 wr w.heap.size (Gf.mixS f)) := HJ.out.congr (fun j hj => by rw [if_pos (by omega)])
      have hq' : ¬ ((4 * q : Nat) : Int) < 16 := by omega
      clear HJ hb
      generalize ((4 * q : Nat) : Int) = qq at *
      go_wp2
      go_ret
      exact ⟨⟨w.heap.size, Nat.le_refl _, rfl, HJ'.out⟩, HB.out⟩
end Go.Proofs.Ytbhlgcenfanicaa
