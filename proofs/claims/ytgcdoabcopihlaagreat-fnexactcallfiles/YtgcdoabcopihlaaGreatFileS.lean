/-
  Slices of File: what they hold, and the laws' own helpers on them (written by tools/mkels.py).
-/
import Derived.Test.YtgcdoabcopihlaaGreatEls
import Derived.Test.YtgcdoabcopihlaaGreatRetCell
import Derived.Deep.RegionWith
namespace Go.Proofs.YtgcdoabcopihlaaGreat
open Go.ChangeShapes Go.WideShapes Go.ChangeAt Go.RowKit
set_option linter.unusedVariables false
structure Fi where
  p : ByteArray
  d : Bool
  t : ByteArray
def fiV (x : Fi) : Nat → Value
  | 0 => .string x.p
  | 1 => .bool x.d
  | _ => .string x.t
/-- The cells of elements. -/
def fiF (FI : Nat → Fi) (i j : Nat) : Value := fiV (FI i) j
def fiZ : Fi := ⟨⟨#[]⟩, false, ⟨#[]⟩⟩
theorem Els.fiC {w : World} {b off n : Nat} {FI : Nat → Fi} (h : ∀ i, i < n → ∀ j, j < 3 → w.cell? ⟨b, off + i * 3 + j, none⟩ = some (fiF FI i j)) (k : Nat) (hk : k < n) : w.cell? ⟨b, off + k * 3, none⟩ = some (.string (FI k).p) ∧ w.cell? ⟨b, off + k * 3 + 1, none⟩ = some (.bool (FI k).d) ∧ w.cell? ⟨b, off + k * 3 + 2, none⟩ = some (.string (FI k).t) := ⟨h k hk 0 (by omega), h k hk 1 (by omega), h k hk 2 (by omega)⟩
theorem RowE.fiC {w : World} {a : Option Addr} {g n : Nat} {FI : Nat → Fi} (h : RowE w 3 a g n (fiF FI)) (k : Nat) (hk : k < n) : w.cell? ⟨g, k * 3, none⟩ = some (.string (FI k).p) ∧ w.cell? ⟨g, k * 3 + 1, none⟩ = some (.bool (FI k).d) ∧ w.cell? ⟨g, k * 3 + 2, none⟩ = some (.string (FI k).t) := ⟨h.c k hk 0 (by omega), h.c k hk 1 (by omega), h.c k hk 2 (by omega)⟩
theorem RowE.fiFr {w : World} {a : Option Addr} {g n : Nat} {F : Nat → Nat → Value} (h : RowE w 3 a g n F) (k : Nat) (hk : k < n) : w.frozen? ⟨g, k * 3, none⟩ = false ∧ w.frozen? ⟨g, k * 3 + 1, none⟩ = false ∧ w.frozen? ⟨g, k * 3 + 2, none⟩ = false := ⟨h.z _ (by omega), h.z _ (by omega), h.z _ (by omega)⟩
theorem RowE.fiPut {w : World} {a : Option Addr} {g n : Nat} {FI : Nat → Fi} (h : RowE w 3 a g n (fiF FI)) (k : Nat) (x : Fi) : RowE (((w.setCell ⟨g, k * 3, none⟩ (.string x.p)).setCell ⟨g, k * 3 + 1, none⟩ (.bool x.d)).setCell ⟨g, k * 3 + 2, none⟩ (.string x.t)) 3 a g n (fiF (fun i => if i = k then x else FI i)) := by
  refine ((((h.set k 0 (by omega) (.string x.p)).set k 1 (by omega) (.bool x.d)).set k 2 (by omega) (.string x.t)) : RowE _ _ _ _ _ _).congr (fun i hi j hj => ?_)
  unfold setF fiF
  by_cases e : i = k
  · subst e
    rcases (show j = 0 ∨ j = 1 ∨ j = 2 by omega) with rfl | rfl | rfl <;> simp [fiV]
  · simp [e]
theorem Tryz.infoFi : (Tryz.prog.info? 51).map (fun i => (i.zero, i.size, i.bytes)) = some (some (.agg #[.string ⟨#[]⟩, .bool false, .string ⟨#[]⟩]), 3, 40) := by kernel_rfl
theorem mkFi (n : Nat) (hn : n ≤ 1048576) (w : World) : (Instr.makeSlice 23 (.int .i64 n) (.int .i64 n)).run Tryz.prog w = .ok (.slice (some ⟨w.heap.size, 0, none⟩) n n) (w.alloc (.cells (madeCells #[.string ⟨#[]⟩, .bool false, .string ⟨#[]⟩] (n * 3)) 51)) := by
  obtain ⟨i, hi, hzz⟩ := Option.map_eq_some_iff.1 Tryz.infoFi
  simp only [Prod.mk.injEq] at hzz
  obtain ⟨hz, hs, hb⟩ := hzz
  have hr := run_make (P := Tryz.prog) w 23 51 i _ Tryz.underlying23 hi hz .i64 .i64 n n (by omega) (Int.le_refl _) (by rw [hb]; omega) (by omega)
  simp only [Int.toNat_natCast, hs] at hr
  exact hr
theorem RowE.fiMade (w : World) (n : Nat) : RowE (w.alloc (.cells (madeCells #[.string ⟨#[]⟩, .bool false, .string ⟨#[]⟩] (n * 3)) 51)) 3 (some ⟨w.heap.size, 0, none⟩) w.heap.size n (fiF (fun _ => fiZ)) := RowE.made w 3 n _ _ rfl _ (fun i j hj => by
  rcases (show j = 0 ∨ j = 1 ∨ j = 2 by omega) with rfl | rfl | rfl <;> rfl)
set_option maxRecDepth 100000 in
theorem toFile_any (p : ByteArray) (d : Bool) (t : ByteArray) (w : World) :
    Calls Tryz.prog 35 #[.agg #[.string p, .bool d, .string t]] w fun e w' => e = .returned (.agg #[.string p, .bool d, .string t]) ∧ Below w.heap.size w w' := by
  go_enter Tryz.func35, Tryz.ntmps35
  go_wp2
  refine ret_cell (b := w.heap.size + 1) (v := .agg #[.string p, .bool d, .string t]) Tryz.results35 rfl (by go_simp) ⟨rfl, (((Below.refl w.heap.size w).alloc (Nat.le_refl _) _).alloc (by simp) _).alloc (by simp; omega) _⟩
set_option maxRecDepth 100000 in
set_option maxHeartbeats 1000000 in
theorem toFileS_any (a : Option Addr) (n c : Nat) (FI : Nat → Fi) (w : World) (h : Els w 3 a n (fiF FI)) (hn : n ≤ 1048576) :
    Calls Tryz.prog 13 #[.slice a n c] w fun e w' => e = .returned (.slice (some ⟨w.heap.size, 0, none⟩) n n) ∧ RowE w' 3 (some ⟨w.heap.size, 0, none⟩) w.heap.size n (fiF FI) ∧ w.heap.size < w'.heap.size ∧ Below w.heap.size w w' := by
  have m1 := mkFi n hn
  have S0 : Hid (w.heap.size < (w.alloc (.cells (madeCells #[.string ⟨#[]⟩, .bool false, .string ⟨#[]⟩] (n * 3)) 51)).heap.size) := by show _ < _; simp
  rcases Nat.eq_zero_or_pos n with rfl | hpos
  · have m0 : ∀ w : World, (Instr.makeSlice 23 (.int .i64 0) (.int .i64 0)).run Tryz.prog w = .ok (.slice (some ⟨w.heap.size, 0, none⟩) 0 0) (w.alloc (.cells (madeCells #[.string ⟨#[]⟩, .bool false, .string ⟨#[]⟩] (0 * 3)) 51)) := mkFi 0 (by omega)
    have B0 : Hid (Below w.heap.size w (w.alloc (.cells (madeCells #[.string ⟨#[]⟩, .bool false, .string ⟨#[]⟩] (0 * 3)) 51))) := (Below.refl _ _).alloc (Nat.le_refl _) _
    clear m1
    go_enter Tryz.func13, Tryz.ntmps13
    go_wp2
    go_loopw [4] (fun i wr => i = .int .i64 0 ∧ wr = (w.alloc (.cells (madeCells #[.string ⟨#[]⟩, .bool false, .string ⟨#[]⟩] (0 * 3)) 51))) (fun _ _ => 0)
    case atStart => exact ⟨rfl, rfl⟩
    case round =>
      obtain ⟨rfl, rfl⟩ := hrel
      go_wp2
      go_ret
      exact ⟨rfl, RowE.nil _ _ _ _ _, S0.out, B0.out⟩
  · obtain ⟨b, off, rfl, hc⟩ := h.opened hpos
    have HC : Hid (∀ i, i < n → ∀ j, j < 3 → w.cell? ⟨b, off + i * 3 + j, none⟩ = some (fiF FI i j)) := hc
    clear h hc
    go_enter Tryz.func13, Tryz.ntmps13
    go_wp2
    go_loopw [4] (fun i wr => ∃ k : Nat, k ≤ n ∧ i = .int .i64 k ∧ RowE wr 3 (some ⟨w.heap.size, 0, none⟩) w.heap.size n (fiF (fun j => if j < k then FI j else fiZ)) ∧ w.heap.size < wr.heap.size ∧ Below w.heap.size w wr) (fun i _ => n - (intOf i).toNat)
    case atStart => exact ⟨0, by omega, rfl, (RowE.fiMade w n).congr (fun i hi j hj => by simp [fiF]), S0.out, (Below.refl _ _).alloc (Nat.le_refl _) _⟩
    case round =>
      obtain ⟨k, hk, rfl, hrow, hsz, hb⟩ := hrel
      have HS : Hid (w.heap.size < wr.heap.size) := hsz
      clear hsz
      by_cases hlt : k < n
      · obtain ⟨c0, c1, c2⟩ := Els.fiC HC.out k hlt
        have d0 : wr.cell? ⟨b, off + k * 3, none⟩ = some (.string (FI k).p) := by rw [hb.cell (strBlock c0)]; exact c0
        have d1 : wr.cell? ⟨b, off + k * 3 + 1, none⟩ = some (.bool (FI k).d) := by rw [hb.cell (strBlock c1)]; exact c1
        have d2 : wr.cell? ⟨b, off + k * 3 + 2, none⟩ = some (.string (FI k).t) := by rw [hb.cell (strBlock c2)]; exact c2
        have TP : Hid (∀ w : World, Calls Tryz.prog 35 #[.agg #[.string (FI k).p, .bool (FI k).d, .string (FI k).t]] w fun e w' => e = .returned (.agg #[.string (FI k).p, .bool (FI k).d, .string (FI k).t]) ∧ Below w.heap.size w w') := toFile_any _ _ _
        have HR : Hid (RowE wr 3 (some ⟨w.heap.size, 0, none⟩) w.heap.size n (fiF (fun j => if j < k then FI j else fiZ))) := hrow
        have HB : Hid (Below w.heap.size w wr) := hb
        clear hrow hb c0 c1 c2 m1
        go_wp2_with fail
        refine (TP.out _).mono ?_
        rintro e w1 ⟨rfl, hb⟩
        have R1 := HR.out.below (by omega) hb
        obtain ⟨g0, g1, g2⟩ := R1.fiC k hlt
        obtain ⟨f0, f1, f2⟩ := R1.fiFr k hlt
        have H1 : Hid (RowE w1 3 (some ⟨w.heap.size, 0, none⟩) w.heap.size n (fiF (fun j => if j < k then FI j else fiZ))) := R1
        have B1 : Hid (Below w.heap.size w w1) := HB.out.trans (hb.mono HB.out.size)
        replace HS : Hid (w.heap.size < w1.heap.size) := Nat.lt_of_lt_of_le HS.out hb.size
        generalize (if k < k then FI k else fiZ) = u at *
        clear R1 hb HR HB TP d0 d1 d2
        go_wp2
        go_roundw
        case rel =>
          refine ⟨k + 1, by omega, by go_num, (H1.out.fiPut k (FI k)).congr (fun i hi j hj => ?_), by have := HS.out; simpa using this, (((B1.out.setCell (by simp) _).setCell (by simp) _).setCell (by simp) _)⟩
          unfold fiF
          congr 1
          by_cases e : i = k
          · subst e; simp
          · simp only [if_neg e]
            by_cases g : i < k
            · rw [if_pos g, if_pos (by omega)]
            · rw [if_neg g, if_neg (by omega)]
        case measure => simp [intOf]; omega
      · have HR : Hid (RowE wr 3 (some ⟨w.heap.size, 0, none⟩) w.heap.size n (fiF FI)) := hrow.congr (fun i hi j hj => by unfold fiF; dsimp only; rw [if_pos (by omega)])
        have HB : Hid (Below w.heap.size w wr) := hb
        clear hrow hb m1
        go_wp2
        go_ret
        exact ⟨rfl, HR.out, HS.out, HB.out⟩
set_option maxRecDepth 100000 in
theorem szFile_any (p : ByteArray) (d : Bool) (t : ByteArray) (x : Int) (w : World) (hx0 : 0 ≤ x) (hx : x ≤ 1048576) (hs : p.size ≤ maxLen ∧ t.size ≤ maxLen) :
    Calls Tryz.prog 34 #[.agg #[.string p, .bool d, .string t], .int .i64 x] w fun e w' => (∃ y : Int, e = .returned (.int .i64 y) ∧ -1 ≤ y ∧ y ≤ 1048576 ∧ (0 ≤ y → p.size ≤ 1048576 ∧ t.size ≤ 1048576)) ∧ Below w.heap.size w w' := by
  obtain ⟨hs, ht⟩ := hs
  unfold maxLen at hs ht
  have x2 : IntKind.i64.wrap (x - (p.size : Int)) = x - (p.size : Int) := IntWalk.i64_in _ (by omega)
  by_cases h0 : x - (p.size : Int) < 0
  · go_enter Tryz.func34, Tryz.ntmps34
    go_wp2
    go_ret
    exact ⟨⟨-1, rfl, by omega, by omega, by omega⟩, (Below.refl w.heap.size w).alloc (Nat.le_refl _) _⟩
  have x3 : IntKind.i64.wrap (x - (p.size : Int) - (t.size : Int)) = x - (p.size : Int) - (t.size : Int) := IntWalk.i64_in _ (by omega)
  by_cases h1 : x - (p.size : Int) - (t.size : Int) < 0
  · go_enter Tryz.func34, Tryz.ntmps34
    go_wp2
    go_ret
    exact ⟨⟨-1, rfl, by omega, by omega, by omega⟩, (Below.refl w.heap.size w).alloc (Nat.le_refl _) _⟩
  · go_enter Tryz.func34, Tryz.ntmps34
    go_wp2
    go_ret
    exact ⟨⟨_, rfl, by omega, by omega, by omega⟩, (Below.refl w.heap.size w).alloc (Nat.le_refl _) _⟩
set_option maxRecDepth 100000 in
set_option maxHeartbeats 1000000 in
theorem szFileS_any (a : Option Addr) (n c : Nat) (FI : Nat → Fi) (x : Int) (w : World) (h : Els w 3 a n (fiF FI)) (hx0 : 0 ≤ x) (hx : x ≤ 1048576) (hn : n ≤ maxLen) (hf : ∀ i, i < n → (FI i).p.size ≤ maxLen ∧ (FI i).t.size ≤ maxLen) :
    Calls Tryz.prog 11 #[.slice a n c, .int .i64 x] w fun e w' => (∃ y : Int, e = .returned (.int .i64 y) ∧ y ≤ 1048576 ∧ (0 ≤ y → n ≤ 1048576 ∧ ∀ i, i < n → (FI i).p.size ≤ 1048576 ∧ (FI i).t.size ≤ 1048576)) ∧ Below w.heap.size w w' := by
  unfold maxLen at hn
  by_cases h0 : (n : Int) ≤ x
  · obtain ⟨y, hy⟩ : ∃ y, y = x - (n : Int) := ⟨_, rfl⟩
    have ey : x - (n : Int) = y := hy.symm
    have e0 : ¬ y < 0 := by omega
    have e1 : n ≤ 1048576 := by omega
    have HA : Hid (Els w 3 a n (fiF FI)) := h
    have HF : Hid (∀ i, i < n → (FI i).p.size ≤ maxLen ∧ (FI i).t.size ≤ maxLen) := hf
    have y0 : y ≤ 1048576 := by omega
    clear h hf hy
    go_enter Tryz.func11, Tryz.ntmps11
    go_wp2
    go_loopw [1, 5] (fun l i wr => ∃ (k : Nat) (z : Int), k ≤ n ∧ i = .int .i64 k ∧ l = .int .i64 z ∧ 0 ≤ z ∧ z ≤ 1048576 ∧ (∀ i, i < k → (FI i).p.size ≤ 1048576 ∧ (FI i).t.size ≤ 1048576) ∧ Below w.heap.size w wr) (fun _ i _ => n - (intOf i).toNat)
    case atStart => exact ⟨0, y, by omega, rfl, rfl, by omega, by omega, fun i hi => absurd hi (by omega), Below.refl _ _⟩
    case round =>
      obtain ⟨k, z, hk, rfl, rfl, hz, hz2, hss, hb⟩ := hrel
      have HB : Hid (Below w.heap.size w wr) := hb
      have HSS : Hid (∀ i, i < k → (FI i).p.size ≤ 1048576 ∧ (FI i).t.size ≤ 1048576) := hss
      clear hss
      by_cases hlt : k < n
      · obtain ⟨b, off, rfl, hc⟩ := (HA.out.below hb).opened (by omega)
        obtain ⟨c0, c1, c2⟩ := Els.fiC hc k hlt
        have hlt' : (k : Int) < (n : Int) := by omega
        have SP : Hid (∀ w : World, Calls Tryz.prog 34 #[.agg #[.string (FI k).p, .bool (FI k).d, .string (FI k).t], .int .i64 z] w fun e w' => (∃ y : Int, e = .returned (.int .i64 y) ∧ -1 ≤ y ∧ y ≤ 1048576 ∧ (0 ≤ y → (FI k).p.size ≤ 1048576 ∧ (FI k).t.size ≤ 1048576)) ∧ Below w.heap.size w w') := fun w => szFile_any _ _ _ z w hz hz2 (HF.out k hlt)
        clear hc hb
        go_wp2_with fail
        refine (SP.out _).mono ?_
        rintro e w1 ⟨⟨y1, rfl, hy1, hy2, hy3⟩, hb⟩
        have HY : Hid (0 ≤ y1 → (FI k).p.size ≤ 1048576 ∧ (FI k).t.size ≤ 1048576) := hy3
        have B1 : Hid (Below w.heap.size w w1) := HB.out.trans (hb.mono HB.out.size)
        clear hb HB SP hy3 c0 c1 c2
        by_cases hz3 : y1 < 0
        · go_wp2
          go_ret
          exact ⟨⟨-1, rfl, by omega, fun h => absurd h (by omega)⟩, B1.out⟩
        · go_wp2
          go_roundw
          case rel => exact ⟨k + 1, y1, by omega, by go_num, rfl, by omega, by omega, fun i hi => by
            by_cases e : i = k
            · subst e; exact HY.out (by omega)
            · exact HSS.out i (by omega), B1.out⟩
          case measure => simp [intOf]; omega
      · have hlt' : ¬ (k : Int) < (n : Int) := by omega
        obtain rfl : k = n := by omega
        clear hb
        go_wp2
        go_ret
        exact ⟨⟨z, rfl, hz2, fun _ => HSS.out⟩, HB.out⟩
  · have e0 : x - (n : Int) < 0 := by omega
    go_enter Tryz.func11, Tryz.ntmps11
    go_wp2
    go_ret
    exact ⟨⟨-1, rfl, by omega, fun h => absurd h (by omega)⟩, Below.refl _ _⟩
set_option maxRecDepth 100000 in
theorem eqFile_yes (p : ByteArray) (d : Bool) (t : ByteArray) (w : World) :
    Calls Tryz.prog 36 #[.agg #[.string p, .bool d, .string t], .agg #[.string p, .bool d, .string t]] w fun e w' => e = .returned (.bool true) ∧ Below w.heap.size w w' := by
  have e1 : (d != d) = false := by simp
  go_enter Tryz.func36, Tryz.ntmps36
  go_wp2
  go_ret
  exact ⟨rfl, ((Below.refl w.heap.size w).alloc (Nat.le_refl _) _).alloc (by simp) _⟩
set_option maxRecDepth 100000 in
set_option maxHeartbeats 1000000 in
theorem eqFileS_yes (a b : Option Addr) (n c d : Nat) (FI : Nat → Fi) (w : World) (h : Els w 3 a n (fiF FI)) (h' : Els w 3 b n (fiF FI)) (hn : n ≤ 1048576) :
    Calls Tryz.prog 15 #[.slice a n c, .slice b n d] w fun e w' => e = .returned (.bool true) ∧ Below w.heap.size w w' := by
  have HA : Hid (Els w 3 a n (fiF FI)) := h
  have HA' : Hid (Els w 3 b n (fiF FI)) := h'
  have hne : ((n : Int) != (n : Int)) = false := by simp
  clear h h'
  go_enter Tryz.func15, Tryz.ntmps15
  go_wp2
  go_loopw [5] (fun i wr => ∃ k : Nat, k ≤ n ∧ i = .int .i64 k ∧ Below w.heap.size w wr) (fun i _ => n - (intOf i).toNat)
  case atStart => exact ⟨0, by omega, rfl, Below.refl _ _⟩
  case round =>
    obtain ⟨k, hk, rfl, hb⟩ := hrel
    have HB : Hid (Below w.heap.size w wr) := hb
    by_cases hlt : k < n
    · obtain ⟨b1, o1, rfl, hc⟩ := (HA.out.below hb).opened (by omega)
      obtain ⟨b2, o2, rfl, hc'⟩ := (HA'.out.below hb).opened (by omega)
      obtain ⟨c0, c1, c2⟩ := Els.fiC hc k hlt
      obtain ⟨d0, d1, d2⟩ := Els.fiC hc' k hlt
      have hlt' : (k : Int) < (n : Int) := by omega
      have EP : Hid (∀ w : World, Calls Tryz.prog 36 #[.agg #[.string (FI k).p, .bool (FI k).d, .string (FI k).t], .agg #[.string (FI k).p, .bool (FI k).d, .string (FI k).t]] w fun e w' => e = .returned (.bool true) ∧ Below w.heap.size w w') := eqFile_yes _ _ _
      generalize FI k = y at *
      clear hc hc' hb
      go_wp2_with fail
      go_region_with (go_at_call 36; refine (EP.out _).mono ?_; rintro e w' ⟨rfl, hb⟩)
      all_goals
        have B1 : Hid (Below w.heap.size w w') := HB.out.drew.trans (hb.mono HB.out.size)
        clear hb HB EP c0 d0 c1 d1 c2 d2
        dsimp only [Act.put]
        go_wp2
        go_roundw
        case rel => exact ⟨k + 1, by omega, by go_num, B1.out⟩
        case measure => simp [intOf]; omega
    · go_wp2
      go_ret
      exact ⟨rfl, HB.out⟩
/-- The mark of a bool. -/
def mbF (k : Nat) : Bool := (((k : Int) % 3) == 0)
/-- What is marked from k on. -/
def fiM (k : Nat) (i : Nat) : Fi := ⟨mt (k + 3 * i), mbF (k + 3 * i + 1), mt (k + 3 * i + 2)⟩
set_option maxRecDepth 100000 in
set_option maxHeartbeats 2000000 in
theorem markFileK (a : Option Addr) (g n c k : Nat) (FI : Nat → Fi) (hk : 1 ≤ k) (hn : k + 3 * n ≤ 10000000) (w : World) (h : RowE w 3 a g n (fiF FI)) :
    Calls Tryz.prog 17 #[.slice a n c, .int .i64 (k : Int)] w fun e w' => e = .returned (.int .i64 ((k + 3 * n : Nat) : Int)) ∧ RowE w' 3 a g n (fiF (fiM k)) ∧ TurnedE g n w w' := by
  have H : Hid (RowE w 3 a g n (fiF FI)) := h
  clear h
  go_enter Tryz.func17, Tryz.ntmps17
  go_wp2
  go_loopw [1, 5] (fun kv i wr => ∃ q : Nat, q ≤ n ∧ i = .int .i64 q ∧ kv = .int .i64 ((k + 3 * q : Nat) : Int) ∧ RowE wr 3 a g n (fiF (fun i => if i < q then fiM k i else FI i)) ∧ TurnedE g n w wr) (fun _ i _ => n - (intOf i).toNat)
  case atStart => exact ⟨0, by omega, rfl, rfl, H.out.congr (fun i hi j hj => by unfold fiF; dsimp only; rw [if_neg (by omega)]), TurnedE.refl _ _ _⟩
  case round =>
    obtain ⟨q, hq, rfl, rfl, hrow, ho⟩ := hrel
    by_cases hlt : q < n
    · obtain ⟨m, hm⟩ : ∃ m, m = k + 3 * q := ⟨_, rfl⟩
      have MT0 : Hid (∀ w : World, Calls Tryz.prog 37 #[.int .i64 ((m : Int))] w fun e w' => e = .returned (.string (mt (m))) ∧ Below w.heap.size w w') := fun w => by
        have := markText_any (m) (by omega) (by omega) w
        rwa [show ((m : Nat) : Int) = (m : Int) from by omega] at this
      have MT2 : Hid (∀ w : World, Calls Tryz.prog 37 #[.int .i64 ((m : Int) + 2)] w fun e w' => e = .returned (.string (mt (m + 2))) ∧ Below w.heap.size w w') := fun w => by
        have := markText_any (m + 2) (by omega) (by omega) w
        rwa [show ((m + 2 : Nat) : Int) = (m : Int) + 2 from by omega] at this
      rw [← hm]
      have hlt' : (q : Int) < (n : Int) := by omega
      obtain rfl := hrow.a (by omega)
      obtain ⟨c0, c1, c2⟩ := hrow.fiC q hlt
      obtain ⟨f0, f1, f2⟩ := hrow.fiFr q hlt
      rw [if_neg (show ¬ q < q by omega)] at c0 c1 c2
      have HRW : Hid (RowE wr 3 (some ⟨g, 0, none⟩) g n (fiF (fun i => if i < q then fiM k i else FI i))) := hrow
      have HO : Hid (OnlyB g w wr) := ho.1
      have HM : Hid (m = k + 3 * q) := hm
      have m1 : (m : Int) ≤ 10000000 := by omega
      have m0 : (0 : Int) ≤ (m : Int) := by omega
      clear hrow ho hm
      obtain ⟨V1, hV1⟩ : ∃ V, V = mbF (m + 1) := ⟨_, rfl⟩
      have HV1 : Hid (mbF (m + 1) = V1) := hV1.symm
      have qV1 : ((((m : Int) + 1) % 3) == 0) = V1 := by rw [hV1]; unfold mbF; first | rfl | (congr 1)
      clear hV1
      go_wp2_with fail
      have R0 := (HRW.out : RowE wr _ _ _ _ _)
      have O0 : OnlyB g w wr := HO.out
      refine (MT0.out _).mono ?_
      rintro e w1 ⟨rfl, hb⟩
      have RH : Hid (RowE w1 3 (some ⟨g, 0, none⟩) g n _) := R0.below (by omega) hb
      have OH : Hid (OnlyB g w w1) := O0.below hb
      have x0 : w1.cell? ⟨g, q * 3, none⟩ = some (.string (FI q).p) := by
        have := RH.out.c q hlt 0 (by omega)
        simpa [setF, fiF, fiV] using this
      have y0 : w1.frozen? ⟨g, q * 3, none⟩ = false := RH.out.z _ (by omega)
      have x1 : w1.cell? ⟨g, q * 3 + 1, none⟩ = some (.bool (FI q).d) := by
        have := RH.out.c q hlt 1 (by omega)
        simpa [setF, fiF, fiV] using this
      have y1 : w1.frozen? ⟨g, q * 3 + 1, none⟩ = false := RH.out.z _ (by omega)
      have x2 : w1.cell? ⟨g, q * 3 + 2, none⟩ = some (.string (FI q).t) := by
        have := RH.out.c q hlt 2 (by omega)
        simpa [setF, fiF, fiV] using this
      have y2 : w1.frozen? ⟨g, q * 3 + 2, none⟩ = false := RH.out.z _ (by omega)
      generalize hV0 : mt (m) = V0 at *
      have HV0 : Hid (mt (m) = V0) := hV0
      clear hb R0 O0 MT0 hV0 c0 f0 c1 f1 c2 f2 HRW HO
      go_wp2_with fail
      have R2 := (((RH.out.set q 0 (by omega) (.string V0)).set q 1 (by omega) (.bool V1)) : RowE ((w1.setCell ⟨g, q * 3, none⟩ (.string V0)).setCell ⟨g, q * 3 + 1, none⟩ (.bool V1)) _ _ _ _ _)
      have O2 : OnlyB g w ((w1.setCell ⟨g, q * 3, none⟩ (.string V0)).setCell ⟨g, q * 3 + 1, none⟩ (.bool V1)) := ((OH.out.setCell (q * 3) (.string V0)).setCell (q * 3 + 1) (.bool V1))
      refine (MT2.out _).mono ?_
      rintro e w3 ⟨rfl, hb⟩
      have RH : Hid (RowE w3 3 (some ⟨g, 0, none⟩) g n _) := R2.below (by omega) hb
      have OH : Hid (OnlyB g w w3) := O2.below hb
      have x2 : w3.cell? ⟨g, q * 3 + 2, none⟩ = some (.string (FI q).t) := by
        have := RH.out.c q hlt 2 (by omega)
        simpa [setF, fiF, fiV] using this
      have y2 : w3.frozen? ⟨g, q * 3 + 2, none⟩ = false := RH.out.z _ (by omega)
      generalize hV2 : mt (m + 2) = V2 at *
      have HV2 : Hid (mt (m + 2) = V2) := hV2
      clear hb R2 O2 MT2 hV2
      go_wp2
      go_roundw
      case rel =>
        have := HM.out
        refine ⟨q + 1, by omega, by go_num, numEqS (by omega), (RH.out.set q 2 (by omega) _).congr (fun i hi j hj => ?_), (OH.out.setCell (q * 3 + 2) _), fun z => absurd z (by omega)⟩
        have e0 := HV0.out
        have e2 := HV2.out
        have e1 := HV1.out
        unfold setF fiF
        by_cases e : i = q
        · subst e
          dsimp only
          rw [if_pos (show i < i + 1 by omega)]
          rcases (show j = 0 ∨ j = 1 ∨ j = 2 by omega) with rfl | rfl | rfl <;> simp [fiV, fiM] <;> first | omega | (rw [← this]; assumption) | (rw [← this]; exact (by assumption : _ = _).symm) | (subst this; simp_all)
        · simp only [e, false_and, if_false]
          congr 1
          by_cases g : i < q
          · rw [if_pos g, if_pos (by omega)]
          · rw [if_neg g, if_neg (by omega)]
      case measure => simp [intOf]; omega
    · obtain rfl : q = n := by omega
      have HF : Hid (RowE wr 3 a g q (fiF (fiM k))) := hrow.congr (fun i hi j hj => by unfold fiF; dsimp only; rw [if_pos hi])
      have HO : Hid (TurnedE g q w wr) := ho
      clear hrow ho
      go_wp2
      go_ret
      exact ⟨rfl, HF.out, HO.out⟩
set_option maxRecDepth 100000 in
set_option maxHeartbeats 2000000 in
theorem heldFileK (a : Option Addr) (n c k : Nat) (hk : 1 ≤ k) (hn : k + 3 * n ≤ 10000000) (w : World) (h : Els w 3 a n (fiF (fiM k))) :
    Calls Tryz.prog 18 #[.slice a n c, .int .i64 (k : Int)] w fun e w' => e = .returned (.int .i64 ((k + 3 * n : Nat) : Int)) ∧ Below w.heap.size w w' := by
  have H : Hid (Els w 3 a n (fiF (fiM k))) := h
  clear h
  go_enter Tryz.func18, Tryz.ntmps18
  go_wp2
  go_loopw [1, 5] (fun kv i wr => ∃ q : Nat, q ≤ n ∧ i = .int .i64 q ∧ kv = .int .i64 ((k + 3 * q : Nat) : Int) ∧ Below w.heap.size w wr) (fun _ i _ => n - (intOf i).toNat)
  case atStart => exact ⟨0, by omega, rfl, rfl, Below.refl _ _⟩
  case round =>
    obtain ⟨q, hq, rfl, rfl, hb⟩ := hrel
    have HB : Hid (Below w.heap.size w wr) := hb
    by_cases hlt : q < n
    · obtain ⟨b, off, rfl, hc⟩ := (H.out.below hb).opened (by omega)
      obtain ⟨c0, c1, c2⟩ := Els.fiC hc q hlt
      have hlt' : (q : Int) < (n : Int) := by omega
      unfold fiM at c0 c1 c2
      obtain ⟨m, hm⟩ : ∃ m, m = k + 3 * q := ⟨_, rfl⟩
      have MT0 : Hid (∀ w : World, Calls Tryz.prog 37 #[.int .i64 ((m : Int))] w fun e w' => e = .returned (.string (mt (m))) ∧ Below w.heap.size w w') := fun w => by
        have := markText_any (m) (by omega) (by omega) w
        rwa [show ((m : Nat) : Int) = (m : Int) from by omega] at this
      have MT2 : Hid (∀ w : World, Calls Tryz.prog 37 #[.int .i64 ((m : Int) + 2)] w fun e w' => e = .returned (.string (mt (m + 2))) ∧ Below w.heap.size w w') := fun w => by
        have := markText_any (m + 2) (by omega) (by omega) w
        rwa [show ((m + 2 : Nat) : Int) = (m : Int) + 2 from by omega] at this
      rw [← hm] at c0 c1 c2 ⊢
      have HM : Hid (m = k + 3 * q) := hm
      have m1 : (m : Int) ≤ 10000000 := by omega
      have m0 : (0 : Int) ≤ (m : Int) := by omega
      generalize mt (m) = V0 at *
      generalize mt (m + 2) = V2 at *
      clear hc hb hm
      obtain ⟨V1, hV1⟩ : ∃ V, V = mbF (m + 1) := ⟨_, rfl⟩
      have qV1 : ((((m : Int) + 1) % 3) == 0) = V1 := by rw [hV1]; unfold mbF; first | rfl | (congr 1)
      have rV1 : (V1 == V1) = true := by cases V1 <;> rfl
      have sV1 : (V1 != V1) = false := by cases V1 <;> rfl
      rw [← hV1] at c1
      clear hV1
      have D0 : Hid (wr.cell? ⟨b, off + q * 3, none⟩ = some (.string V0)) := c0
      have D1 : Hid (wr.cell? ⟨b, off + q * 3 + 1, none⟩ = some (.bool V1)) := c1
      have D2 : Hid (wr.cell? ⟨b, off + q * 3 + 2, none⟩ = some (.string V2)) := c2
      go_wp2_with fail
      go_region_with (go_at_call 37; refine (MT0.out _).mono ?_; rintro e w1 ⟨rfl, hb⟩; have k0_0 : w1.cell? ⟨b, off + q * 3, none⟩ = some (.string V0) := (hb.cell (strBlock D0.out)).trans D0.out; have k1_0 : w1.cell? ⟨b, off + q * 3 + 1, none⟩ = some (.bool V1) := (hb.cell (strBlock D1.out)).trans D1.out; have k2_0 : w1.cell? ⟨b, off + q * 3 + 2, none⟩ = some (.string V2) := (hb.cell (strBlock D2.out)).trans D2.out)
      all_goals
        have B1 : Hid (Below w.heap.size w w1) := HB.out.drew.trans (hb.mono HB.out.size)
        clear D0 D1 D2
        have D0 : Hid (w1.cell? ⟨b, off + q * 3, none⟩ = some (.string V0)) := k0_0
        have D1 : Hid (w1.cell? ⟨b, off + q * 3 + 1, none⟩ = some (.bool V1)) := k1_0
        have D2 : Hid (w1.cell? ⟨b, off + q * 3 + 2, none⟩ = some (.string V2)) := k2_0
        clear hb HB MT0 c0 c1 c2
        dsimp only [Act.put]
        go_wp2_with fail
        go_region_with (go_at_call 37; refine (MT2.out _).mono ?_; rintro e w2 ⟨rfl, hb⟩; have k2_1 : w2.cell? ⟨b, off + q * 3 + 2, none⟩ = some (.string V2) := (hb.cell (strBlock D2.out)).trans D2.out)
        all_goals
          have B2 : Hid (Below w.heap.size w w2) := B1.out.drew.trans (hb.mono B1.out.size)
          clear hb MT2
          dsimp only [Act.put]
          go_wp2
          go_roundw
          case rel =>
            have := HM.out
            exact ⟨q + 1, by omega, by go_num, numEqS (by omega), B2.out⟩
          case measure => simp [intOf]; omega
    · obtain rfl : q = n := by omega
      clear hb
      go_wp2
      go_ret
      exact ⟨rfl, HB.out⟩
end Go.Proofs.YtgcdoabcopihlaaGreat
