/-
  Slices of Leaf: what they hold, and the laws' own helpers on them (written by tools/mkels.py).
-/
import Derived.Test.YtpljdlgjeeikkabDoorEls
import Derived.Test.YtpljdlgjeeikkabDoorRetCell
import Derived.Deep.RegionWith
namespace Go.Proofs.YtpljdlgjeeikkabDoor
open Go.ChangeShapes Go.WideShapes Go.ChangeAt Go.RowKit
set_option linter.unusedVariables false
structure Lf where
  v : Int
  h : ByteArray
def lfV (x : Lf) : Nat → Value
  | 0 => .int .i64 x.v
  | _ => .string x.h
/-- The cells of elements. -/
def lfF (LF : Nat → Lf) (i j : Nat) : Value := lfV (LF i) j
def lfZ : Lf := ⟨0, ⟨#[]⟩⟩
theorem Els.lfC {w : World} {b off n : Nat} {LF : Nat → Lf} (h : ∀ i, i < n → ∀ j, j < 2 → w.cell? ⟨b, off + i * 2 + j, none⟩ = some (lfF LF i j)) (k : Nat) (hk : k < n) : w.cell? ⟨b, off + k * 2, none⟩ = some (.int .i64 (LF k).v) ∧ w.cell? ⟨b, off + k * 2 + 1, none⟩ = some (.string (LF k).h) := ⟨h k hk 0 (by omega), h k hk 1 (by omega)⟩
theorem RowE.lfC {w : World} {a : Option Addr} {g n : Nat} {LF : Nat → Lf} (h : RowE w 2 a g n (lfF LF)) (k : Nat) (hk : k < n) : w.cell? ⟨g, k * 2, none⟩ = some (.int .i64 (LF k).v) ∧ w.cell? ⟨g, k * 2 + 1, none⟩ = some (.string (LF k).h) := ⟨h.c k hk 0 (by omega), h.c k hk 1 (by omega)⟩
theorem RowE.lfFr {w : World} {a : Option Addr} {g n : Nat} {F : Nat → Nat → Value} (h : RowE w 2 a g n F) (k : Nat) (hk : k < n) : w.frozen? ⟨g, k * 2, none⟩ = false ∧ w.frozen? ⟨g, k * 2 + 1, none⟩ = false := ⟨h.z _ (by omega), h.z _ (by omega)⟩
theorem RowE.lfPut {w : World} {a : Option Addr} {g n : Nat} {LF : Nat → Lf} (h : RowE w 2 a g n (lfF LF)) (k : Nat) (x : Lf) : RowE ((w.setCell ⟨g, k * 2, none⟩ (.int .i64 x.v)).setCell ⟨g, k * 2 + 1, none⟩ (.string x.h)) 2 a g n (lfF (fun i => if i = k then x else LF i)) := by
  refine (((h.set k 0 (by omega) (.int .i64 x.v)).set k 1 (by omega) (.string x.h)) : RowE _ _ _ _ _ _).congr (fun i hi j hj => ?_)
  unfold setF lfF
  by_cases e : i = k
  · subst e
    rcases (show j = 0 ∨ j = 1 by omega) with rfl | rfl <;> simp [lfV]
  · simp [e]
theorem Tryd.infoLf : (Tryd.prog.info? 44).map (fun i => (i.zero, i.size, i.bytes)) = some (some (.agg #[.int .i64 0, .string ⟨#[]⟩]), 2, 24) := by kernel_rfl
theorem mkLf (n : Nat) (hn : n ≤ 1048576) (w : World) : (Instr.makeSlice 28 (.int .i64 n) (.int .i64 n)).run Tryd.prog w = .ok (.slice (some ⟨w.heap.size, 0, none⟩) n n) (w.alloc (.cells (madeCells #[.int .i64 0, .string ⟨#[]⟩] (n * 2)) 44)) := by
  obtain ⟨i, hi, hzz⟩ := Option.map_eq_some_iff.1 Tryd.infoLf
  simp only [Prod.mk.injEq] at hzz
  obtain ⟨hz, hs, hb⟩ := hzz
  have hr := run_make (P := Tryd.prog) w 28 44 i _ Tryd.underlying28 hi hz .i64 .i64 n n (by omega) (Int.le_refl _) (by rw [hb]; omega) (by omega)
  simp only [Int.toNat_natCast, hs] at hr
  exact hr
theorem RowE.lfMade (w : World) (n : Nat) : RowE (w.alloc (.cells (madeCells #[.int .i64 0, .string ⟨#[]⟩] (n * 2)) 44)) 2 (some ⟨w.heap.size, 0, none⟩) w.heap.size n (lfF (fun _ => lfZ)) := RowE.made w 2 n _ _ rfl _ (fun i j hj => by
  rcases (show j = 0 ∨ j = 1 by omega) with rfl | rfl <;> rfl)
set_option maxRecDepth 100000 in
theorem toLeaf_any (v : Int) (h : ByteArray) (w : World) :
    Calls Tryd.prog 21 #[.agg #[.int .i64 v, .string h]] w fun e w' => e = .returned (.agg #[.int .i64 v, .string h]) ∧ Below w.heap.size w w' := by
  go_enter Tryd.func21, Tryd.ntmps21
  go_wp2
  refine ret_cell (b := w.heap.size + 1) (v := .agg #[.int .i64 v, .string h]) Tryd.results21 rfl (by go_simp) ⟨rfl, (((Below.refl w.heap.size w).alloc (Nat.le_refl _) _).alloc (by simp) _).alloc (by simp; omega) _⟩
set_option maxRecDepth 100000 in
set_option maxHeartbeats 1000000 in
theorem toLeafS_any (a : Option Addr) (n c : Nat) (LF : Nat → Lf) (w : World) (h : Els w 2 a n (lfF LF)) (hn : n ≤ 1048576) :
    Calls Tryd.prog 9 #[.slice a n c] w fun e w' => e = .returned (.slice (some ⟨w.heap.size, 0, none⟩) n n) ∧ RowE w' 2 (some ⟨w.heap.size, 0, none⟩) w.heap.size n (lfF LF) ∧ w.heap.size < w'.heap.size ∧ Below w.heap.size w w' := by
  have m1 := mkLf n hn
  have S0 : Hid (w.heap.size < (w.alloc (.cells (madeCells #[.int .i64 0, .string ⟨#[]⟩] (n * 2)) 44)).heap.size) := by show _ < _; simp
  rcases Nat.eq_zero_or_pos n with rfl | hpos
  · have m0 : ∀ w : World, (Instr.makeSlice 28 (.int .i64 0) (.int .i64 0)).run Tryd.prog w = .ok (.slice (some ⟨w.heap.size, 0, none⟩) 0 0) (w.alloc (.cells (madeCells #[.int .i64 0, .string ⟨#[]⟩] (0 * 2)) 44)) := mkLf 0 (by omega)
    have B0 : Hid (Below w.heap.size w (w.alloc (.cells (madeCells #[.int .i64 0, .string ⟨#[]⟩] (0 * 2)) 44))) := (Below.refl _ _).alloc (Nat.le_refl _) _
    clear m1
    go_enter Tryd.func9, Tryd.ntmps9
    go_wp2
    go_loopw [4] (fun i wr => i = .int .i64 0 ∧ wr = (w.alloc (.cells (madeCells #[.int .i64 0, .string ⟨#[]⟩] (0 * 2)) 44))) (fun _ _ => 0)
    case atStart => exact ⟨rfl, rfl⟩
    case round =>
      obtain ⟨rfl, rfl⟩ := hrel
      go_wp2
      go_ret
      exact ⟨rfl, RowE.nil _ _ _ _ _, S0.out, B0.out⟩
  · obtain ⟨b, off, rfl, hc⟩ := h.opened hpos
    have HC : Hid (∀ i, i < n → ∀ j, j < 2 → w.cell? ⟨b, off + i * 2 + j, none⟩ = some (lfF LF i j)) := hc
    clear h hc
    go_enter Tryd.func9, Tryd.ntmps9
    go_wp2
    go_loopw [4] (fun i wr => ∃ k : Nat, k ≤ n ∧ i = .int .i64 k ∧ RowE wr 2 (some ⟨w.heap.size, 0, none⟩) w.heap.size n (lfF (fun j => if j < k then LF j else lfZ)) ∧ w.heap.size < wr.heap.size ∧ Below w.heap.size w wr) (fun i _ => n - (intOf i).toNat)
    case atStart => exact ⟨0, by omega, rfl, (RowE.lfMade w n).congr (fun i hi j hj => by simp [lfF]), S0.out, (Below.refl _ _).alloc (Nat.le_refl _) _⟩
    case round =>
      obtain ⟨k, hk, rfl, hrow, hsz, hb⟩ := hrel
      have HS : Hid (w.heap.size < wr.heap.size) := hsz
      clear hsz
      by_cases hlt : k < n
      · obtain ⟨c0, c1⟩ := Els.lfC HC.out k hlt
        have d0 : wr.cell? ⟨b, off + k * 2, none⟩ = some (.int .i64 (LF k).v) := by rw [hb.cell (strBlock c0)]; exact c0
        have d1 : wr.cell? ⟨b, off + k * 2 + 1, none⟩ = some (.string (LF k).h) := by rw [hb.cell (strBlock c1)]; exact c1
        have TP : Hid (∀ w : World, Calls Tryd.prog 21 #[.agg #[.int .i64 (LF k).v, .string (LF k).h]] w fun e w' => e = .returned (.agg #[.int .i64 (LF k).v, .string (LF k).h]) ∧ Below w.heap.size w w') := toLeaf_any _ _
        have HR : Hid (RowE wr 2 (some ⟨w.heap.size, 0, none⟩) w.heap.size n (lfF (fun j => if j < k then LF j else lfZ))) := hrow
        have HB : Hid (Below w.heap.size w wr) := hb
        clear hrow hb c0 c1 m1
        go_wp2_with fail
        refine (TP.out _).mono ?_
        rintro e w1 ⟨rfl, hb⟩
        have R1 := HR.out.below (by omega) hb
        obtain ⟨g0, g1⟩ := R1.lfC k hlt
        obtain ⟨f0, f1⟩ := R1.lfFr k hlt
        have H1 : Hid (RowE w1 2 (some ⟨w.heap.size, 0, none⟩) w.heap.size n (lfF (fun j => if j < k then LF j else lfZ))) := R1
        have B1 : Hid (Below w.heap.size w w1) := HB.out.trans (hb.mono HB.out.size)
        replace HS : Hid (w.heap.size < w1.heap.size) := Nat.lt_of_lt_of_le HS.out hb.size
        generalize (if k < k then LF k else lfZ) = u at *
        clear R1 hb HR HB TP d0 d1
        go_wp2
        go_roundw
        case rel =>
          refine ⟨k + 1, by omega, by go_num, (H1.out.lfPut k (LF k)).congr (fun i hi j hj => ?_), by have := HS.out; simpa using this, ((B1.out.setCell (by simp) _).setCell (by simp) _)⟩
          unfold lfF
          congr 1
          by_cases e : i = k
          · subst e; simp
          · simp only [if_neg e]
            by_cases g : i < k
            · rw [if_pos g, if_pos (by omega)]
            · rw [if_neg g, if_neg (by omega)]
        case measure => simp [intOf]; omega
      · have HR : Hid (RowE wr 2 (some ⟨w.heap.size, 0, none⟩) w.heap.size n (lfF LF)) := hrow.congr (fun i hi j hj => by unfold lfF; dsimp only; rw [if_pos (by omega)])
        have HB : Hid (Below w.heap.size w wr) := hb
        clear hrow hb m1
        go_wp2
        go_ret
        exact ⟨rfl, HR.out, HS.out, HB.out⟩
set_option maxRecDepth 100000 in
theorem szLeaf_any (v : Int) (h : ByteArray) (x : Int) (w : World) (hx0 : 0 ≤ x) (hx : x ≤ 1048576) (hs : h.size ≤ maxLen) :
    Calls Tryd.prog 18 #[.agg #[.int .i64 v, .string h], .int .i64 x] w fun e w' => (∃ y : Int, e = .returned (.int .i64 y) ∧ -1 ≤ y ∧ y ≤ 1048576) ∧ Below w.heap.size w w' := by
  unfold maxLen at hs
  have x2 : IntKind.i64.wrap (x - (h.size : Int)) = x - (h.size : Int) := IntWalk.i64_in _ (by omega)
  by_cases h0 : x - (h.size : Int) < 0
  · go_enter Tryd.func18, Tryd.ntmps18
    go_wp2
    go_ret
    exact ⟨⟨-1, rfl, by omega, by omega⟩, (Below.refl w.heap.size w).alloc (Nat.le_refl _) _⟩
  · go_enter Tryd.func18, Tryd.ntmps18
    go_wp2
    go_ret
    exact ⟨⟨_, rfl, by omega, by omega⟩, (Below.refl w.heap.size w).alloc (Nat.le_refl _) _⟩
set_option maxRecDepth 100000 in
set_option maxHeartbeats 1000000 in
theorem szLeafS_any (a : Option Addr) (n c : Nat) (LF : Nat → Lf) (x : Int) (w : World) (h : Els w 2 a n (lfF LF)) (hx0 : 0 ≤ x) (hx : x ≤ 1048576) (hn : n ≤ maxLen) (hf : ∀ i, i < n → (LF i).h.size ≤ maxLen) :
    Calls Tryd.prog 7 #[.slice a n c, .int .i64 x] w fun e w' => (∃ y : Int, e = .returned (.int .i64 y) ∧ y ≤ 1048576 ∧ (0 ≤ y → n ≤ 1048576)) ∧ Below w.heap.size w w' := by
  unfold maxLen at hn
  by_cases h0 : (n : Int) ≤ x
  · obtain ⟨y, hy⟩ : ∃ y, y = x - (n : Int) := ⟨_, rfl⟩
    have ey : x - (n : Int) = y := hy.symm
    have e0 : ¬ y < 0 := by omega
    have e1 : n ≤ 1048576 := by omega
    have HA : Hid (Els w 2 a n (lfF LF)) := h
    have HF : Hid (∀ i, i < n → (LF i).h.size ≤ maxLen) := hf
    have y0 : y ≤ 1048576 := by omega
    clear h hf hy
    go_enter Tryd.func7, Tryd.ntmps7
    go_wp2
    go_loopw [1, 5] (fun l i wr => ∃ (k : Nat) (z : Int), k ≤ n ∧ i = .int .i64 k ∧ l = .int .i64 z ∧ 0 ≤ z ∧ z ≤ 1048576 ∧ Below w.heap.size w wr) (fun _ i _ => n - (intOf i).toNat)
    case atStart => exact ⟨0, y, by omega, rfl, rfl, by omega, by omega, Below.refl _ _⟩
    case round =>
      obtain ⟨k, z, hk, rfl, rfl, hz, hz2, hb⟩ := hrel
      have HB : Hid (Below w.heap.size w wr) := hb
      by_cases hlt : k < n
      · obtain ⟨b, off, rfl, hc⟩ := (HA.out.below hb).opened (by omega)
        obtain ⟨c0, c1⟩ := Els.lfC hc k hlt
        have hlt' : (k : Int) < (n : Int) := by omega
        have SP : Hid (∀ w : World, Calls Tryd.prog 18 #[.agg #[.int .i64 (LF k).v, .string (LF k).h], .int .i64 z] w fun e w' => (∃ y : Int, e = .returned (.int .i64 y) ∧ -1 ≤ y ∧ y ≤ 1048576) ∧ Below w.heap.size w w') := fun w => szLeaf_any _ _ z w hz hz2 (HF.out k hlt)
        clear hc hb
        go_wp2_with fail
        refine (SP.out _).mono ?_
        rintro e w1 ⟨⟨y1, rfl, hy1, hy2⟩, hb⟩
        have B1 : Hid (Below w.heap.size w w1) := HB.out.trans (hb.mono HB.out.size)
        clear hb HB SP c0 c1
        by_cases hz3 : y1 < 0
        · go_wp2
          go_ret
          exact ⟨⟨-1, rfl, by omega, by omega⟩, B1.out⟩
        · go_wp2
          go_roundw
          case rel => exact ⟨k + 1, y1, by omega, by go_num, rfl, by omega, by omega, B1.out⟩
          case measure => simp [intOf]; omega
      · have hlt' : ¬ (k : Int) < (n : Int) := by omega
        clear hb
        go_wp2
        go_ret
        exact ⟨⟨z, rfl, hz2⟩, HB.out⟩
  · have e0 : x - (n : Int) < 0 := by omega
    go_enter Tryd.func7, Tryd.ntmps7
    go_wp2
    go_ret
    exact ⟨⟨-1, rfl, by omega, by omega⟩, Below.refl _ _⟩
set_option maxRecDepth 100000 in
theorem eqLeaf_yes (v : Int) (h : ByteArray) (w : World) :
    Calls Tryd.prog 24 #[.agg #[.int .i64 v, .string h], .agg #[.int .i64 v, .string h]] w fun e w' => e = .returned (.bool true) ∧ Below w.heap.size w w' := by
  have e0 : (v != v) = false := by simp
  go_enter Tryd.func24, Tryd.ntmps24
  go_wp2
  go_ret
  exact ⟨rfl, ((Below.refl w.heap.size w).alloc (Nat.le_refl _) _).alloc (by simp) _⟩
set_option maxRecDepth 100000 in
set_option maxHeartbeats 1000000 in
theorem eqLeafS_yes (a b : Option Addr) (n c d : Nat) (LF : Nat → Lf) (w : World) (h : Els w 2 a n (lfF LF)) (h' : Els w 2 b n (lfF LF)) (hn : n ≤ 1048576) :
    Calls Tryd.prog 11 #[.slice a n c, .slice b n d] w fun e w' => e = .returned (.bool true) ∧ Below w.heap.size w w' := by
  have HA : Hid (Els w 2 a n (lfF LF)) := h
  have HA' : Hid (Els w 2 b n (lfF LF)) := h'
  have hne : ((n : Int) != (n : Int)) = false := by simp
  clear h h'
  go_enter Tryd.func11, Tryd.ntmps11
  go_wp2
  go_loopw [5] (fun i wr => ∃ k : Nat, k ≤ n ∧ i = .int .i64 k ∧ Below w.heap.size w wr) (fun i _ => n - (intOf i).toNat)
  case atStart => exact ⟨0, by omega, rfl, Below.refl _ _⟩
  case round =>
    obtain ⟨k, hk, rfl, hb⟩ := hrel
    have HB : Hid (Below w.heap.size w wr) := hb
    by_cases hlt : k < n
    · obtain ⟨b1, o1, rfl, hc⟩ := (HA.out.below hb).opened (by omega)
      obtain ⟨b2, o2, rfl, hc'⟩ := (HA'.out.below hb).opened (by omega)
      obtain ⟨c0, c1⟩ := Els.lfC hc k hlt
      obtain ⟨d0, d1⟩ := Els.lfC hc' k hlt
      have hlt' : (k : Int) < (n : Int) := by omega
      have EP : Hid (∀ w : World, Calls Tryd.prog 24 #[.agg #[.int .i64 (LF k).v, .string (LF k).h], .agg #[.int .i64 (LF k).v, .string (LF k).h]] w fun e w' => e = .returned (.bool true) ∧ Below w.heap.size w w') := eqLeaf_yes _ _
      generalize LF k = y at *
      clear hc hc' hb
      go_wp2_with fail
      go_region_with (go_at_call 24; refine (EP.out _).mono ?_; rintro e w' ⟨rfl, hb⟩)
      all_goals
        have B1 : Hid (Below w.heap.size w w') := HB.out.drew.trans (hb.mono HB.out.size)
        clear hb HB EP c0 d0 c1 d1
        dsimp only [Act.put]
        go_wp2
        go_roundw
        case rel => exact ⟨k + 1, by omega, by go_num, B1.out⟩
        case measure => simp [intOf]; omega
    · go_wp2
      go_ret
      exact ⟨rfl, HB.out⟩
end Go.Proofs.YtpljdlgjeeikkabDoor
