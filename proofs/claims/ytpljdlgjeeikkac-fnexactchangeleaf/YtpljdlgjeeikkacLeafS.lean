/-
  Slices of Leaf: what they hold, and the laws' own helpers on them (written by tools/mkels.py).
-/
import Derived.Test.YtpljdlgjeeikkacEls
import Derived.Test.YtpljdlgjeeikkacRetCell
import Derived.Deep.RegionWith
namespace Go.Proofs.Ytpljdlgjeeikkac
open Go.ChangeShapes Go.WideShapes Go.ChangeAt Go.RowKit
set_option linter.unusedVariables false
structure Lf where
  v : Int
  h : ByteArray
def lfV (x : Lf) : Nat → Value
  | 0 => .int .i64 x.v
  | _ => .string x.h
/-- The cells of elements. -/
def lfF (LF : Nat → Lf) (i j : Nat) : Value := lfV (LF i) j
def lfZ : Lf := ⟨0, ⟨#[]⟩⟩
theorem Els.lfC {w : World} {b off n : Nat} {LF : Nat → Lf} (h : ∀ i, i < n → ∀ j, j < 2 → w.cell? ⟨b, off + i * 2 + j, none⟩ = some (lfF LF i j)) (k : Nat) (hk : k < n) : w.cell? ⟨b, off + k * 2, none⟩ = some (.int .i64 (LF k).v) ∧ w.cell? ⟨b, off + k * 2 + 1, none⟩ = some (.string (LF k).h) := ⟨h k hk 0 (by omega), h k hk 1 (by omega)⟩
theorem RowE.lfC {w : World} {a : Option Addr} {g n : Nat} {LF : Nat → Lf} (h : RowE w 2 a g n (lfF LF)) (k : Nat) (hk : k < n) : w.cell? ⟨g, k * 2, none⟩ = some (.int .i64 (LF k).v) ∧ w.cell? ⟨g, k * 2 + 1, none⟩ = some (.string (LF k).h) := ⟨h.c k hk 0 (by omega), h.c k hk 1 (by omega)⟩
theorem RowE.lfFr {w : World} {a : Option Addr} {g n : Nat} {F : Nat → Nat → Value} (h : RowE w 2 a g n F) (k : Nat) (hk : k < n) : w.frozen? ⟨g, k * 2, none⟩ = false ∧ w.frozen? ⟨g, k * 2 + 1, none⟩ = false := ⟨h.z _ (by omega), h.z _ (by omega)⟩
theorem RowE.lfPut {w : World} {a : Option Addr} {g n : Nat} {LF : Nat → Lf} (h : RowE w 2 a g n (lfF LF)) (k : Nat) (x : Lf) : RowE ((w.setCell ⟨g, k * 2, none⟩ (.int .i64 x.v)).setCell ⟨g, k * 2 + 1, none⟩ (.string x.h)) 2 a g n (lfF (fun i => if i = k then x else LF i)) := by
  refine (((h.set k 0 (by omega) (.int .i64 x.v)).set k 1 (by omega) (.string x.h)) : RowE _ _ _ _ _ _).congr (fun i hi j hj => ?_)
  unfold setF lfF
  by_cases e : i = k
  · subst e
    rcases (show j = 0 ∨ j = 1 by omega) with rfl | rfl <;> simp [lfV]
  · simp [e]
theorem Try.infoLf : (Try.prog.info? 31).map (fun i => (i.zero, i.size, i.bytes)) = some (some (.agg #[.int .i64 0, .string ⟨#[]⟩]), 2, 24) := by kernel_rfl
theorem mkLf (n : Nat) (hn : n ≤ 1048576) (w : World) : (Instr.makeSlice 27 (.int .i64 n) (.int .i64 n)).run Try.prog w = .ok (.slice (some ⟨w.heap.size, 0, none⟩) n n) (w.alloc (.cells (madeCells #[.int .i64 0, .string ⟨#[]⟩] (n * 2)) 31)) := by
  obtain ⟨i, hi, hzz⟩ := Option.map_eq_some_iff.1 Try.infoLf
  simp only [Prod.mk.injEq] at hzz
  obtain ⟨hz, hs, hb⟩ := hzz
  have hr := run_make (P := Try.prog) w 27 31 i _ Try.underlying27 hi hz .i64 .i64 n n (by omega) (Int.le_refl _) (by rw [hb]; omega) (by omega)
  simp only [Int.toNat_natCast, hs] at hr
  exact hr
theorem RowE.lfMade (w : World) (n : Nat) : RowE (w.alloc (.cells (madeCells #[.int .i64 0, .string ⟨#[]⟩] (n * 2)) 31)) 2 (some ⟨w.heap.size, 0, none⟩) w.heap.size n (lfF (fun _ => lfZ)) := RowE.made w 2 n _ _ rfl _ (fun i j hj => by
  rcases (show j = 0 ∨ j = 1 by omega) with rfl | rfl <;> rfl)
set_option maxRecDepth 100000 in
theorem toLeaf_any (v : Int) (h : ByteArray) (w : World) :
    Calls Try.prog 8 #[.agg #[.int .i64 v, .string h]] w fun e w' => e = .returned (.agg #[.int .i64 v, .string h]) ∧ Below w.heap.size w w' := by
  go_enter Try.func8, Try.ntmps8
  go_wp2
  refine ret_cell (b := w.heap.size + 1) (v := .agg #[.int .i64 v, .string h]) Try.results8 rfl (by go_simp) ⟨rfl, (((Below.refl w.heap.size w).alloc (Nat.le_refl _) _).alloc (by simp) _).alloc (by simp; omega) _⟩
set_option maxRecDepth 100000 in
set_option maxHeartbeats 1000000 in
theorem toLeafS_any (a : Option Addr) (n c : Nat) (LF : Nat → Lf) (w : World) (h : Els w 2 a n (lfF LF)) (hn : n ≤ 1048576) :
    Calls Try.prog 7 #[.slice a n c] w fun e w' => e = .returned (.slice (some ⟨w.heap.size, 0, none⟩) n n) ∧ RowE w' 2 (some ⟨w.heap.size, 0, none⟩) w.heap.size n (lfF LF) ∧ w.heap.size < w'.heap.size ∧ Below w.heap.size w w' := by
  have m1 := mkLf n hn
  have S0 : Hid (w.heap.size < (w.alloc (.cells (madeCells #[.int .i64 0, .string ⟨#[]⟩] (n * 2)) 31)).heap.size) := by show _ < _; simp
  rcases Nat.eq_zero_or_pos n with rfl | hpos
  · have m0 : ∀ w : World, (Instr.makeSlice 27 (.int .i64 0) (.int .i64 0)).run Try.prog w = .ok (.slice (some ⟨w.heap.size, 0, none⟩) 0 0) (w.alloc (.cells (madeCells #[.int .i64 0, .string ⟨#[]⟩] (0 * 2)) 31)) := mkLf 0 (by omega)
    have B0 : Hid (Below w.heap.size w (w.alloc (.cells (madeCells #[.int .i64 0, .string ⟨#[]⟩] (0 * 2)) 31))) := (Below.refl _ _).alloc (Nat.le_refl _) _
    clear m1
    go_enter Try.func7, Try.ntmps7
    go_wp2
    go_loopw [4] (fun i wr => i = .int .i64 0 ∧ wr = (w.alloc (.cells (madeCells #[.int .i64 0, .string ⟨#[]⟩] (0 * 2)) 31))) (fun _ _ => 0)
    case atStart => exact ⟨rfl, rfl⟩
    case round =>
      obtain ⟨rfl, rfl⟩ := hrel
      go_wp2
      go_ret
      exact ⟨rfl, RowE.nil _ _ _ _ _, S0.out, B0.out⟩
  · obtain ⟨b, off, rfl, hc⟩ := h.opened hpos
    have HC : Hid (∀ i, i < n → ∀ j, j < 2 → w.cell? ⟨b, off + i * 2 + j, none⟩ = some (lfF LF i j)) := hc
    clear h hc
    go_enter Try.func7, Try.ntmps7
    go_wp2
    go_loopw [4] (fun i wr => ∃ k : Nat, k ≤ n ∧ i = .int .i64 k ∧ RowE wr 2 (some ⟨w.heap.size, 0, none⟩) w.heap.size n (lfF (fun j => if j < k then LF j else lfZ)) ∧ w.heap.size < wr.heap.size ∧ Below w.heap.size w wr) (fun i _ => n - (intOf i).toNat)
    case atStart => exact ⟨0, by omega, rfl, (RowE.lfMade w n).congr (fun i hi j hj => by simp [lfF]), S0.out, (Below.refl _ _).alloc (Nat.le_refl _) _⟩
    case round =>
      obtain ⟨k, hk, rfl, hrow, hsz, hb⟩ := hrel
      have HS : Hid (w.heap.size < wr.heap.size) := hsz
      clear hsz
      by_cases hlt : k < n
      · obtain ⟨c0, c1⟩ := Els.lfC HC.out k hlt
        have d0 : wr.cell? ⟨b, off + k * 2, none⟩ = some (.int .i64 (LF k).v) := by rw [hb.cell (strBlock c0)]; exact c0
        have d1 : wr.cell? ⟨b, off + k * 2 + 1, none⟩ = some (.string (LF k).h) := by rw [hb.cell (strBlock c1)]; exact c1
        have TP : Hid (∀ w : World, Calls Try.prog 8 #[.agg #[.int .i64 (LF k).v, .string (LF k).h]] w fun e w' => e = .returned (.agg #[.int .i64 (LF k).v, .string (LF k).h]) ∧ Below w.heap.size w w') := toLeaf_any _ _
        have HR : Hid (RowE wr 2 (some ⟨w.heap.size, 0, none⟩) w.heap.size n (lfF (fun j => if j < k then LF j else lfZ))) := hrow
        have HB : Hid (Below w.heap.size w wr) := hb
        clear hrow hb c0 c1 m1
        go_wp2_with fail
        refine (TP.out _).mono ?_
        rintro e w1 ⟨rfl, hb⟩
        have R1 := HR.out.below (by omega) hb
        obtain ⟨g0, g1⟩ := R1.lfC k hlt
        obtain ⟨f0, f1⟩ := R1.lfFr k hlt
        have H1 : Hid (RowE w1 2 (some ⟨w.heap.size, 0, none⟩) w.heap.size n (lfF (fun j => if j < k then LF j else lfZ))) := R1
        have B1 : Hid (Below w.heap.size w w1) := HB.out.trans (hb.mono HB.out.size)
        replace HS : Hid (w.heap.size < w1.heap.size) := Nat.lt_of_lt_of_le HS.out hb.size
        generalize (if k < k then LF k else lfZ) = u at *
        clear R1 hb HR HB TP d0 d1
        go_wp2
        go_roundw
        case rel =>
          refine ⟨k + 1, by omega, by go_num, (H1.out.lfPut k (LF k)).congr (fun i hi j hj => ?_), by have := HS.out; simpa using this, ((B1.out.setCell (by simp) _).setCell (by simp) _)⟩
          unfold lfF
          congr 1
          by_cases e : i = k
          · subst e; simp
          · simp only [if_neg e]
            by_cases g : i < k
            · rw [if_pos g, if_pos (by omega)]
            · rw [if_neg g, if_neg (by omega)]
        case measure => simp [intOf]; omega
      · have HR : Hid (RowE wr 2 (some ⟨w.heap.size, 0, none⟩) w.heap.size n (lfF LF)) := hrow.congr (fun i hi j hj => by unfold lfF; dsimp only; rw [if_pos (by omega)])
        have HB : Hid (Below w.heap.size w wr) := hb
        clear hrow hb m1
        go_wp2
        go_ret
        exact ⟨rfl, HR.out, HS.out, HB.out⟩
set_option maxRecDepth 100000 in
theorem szLeaf_any (v : Int) (h : ByteArray) (x : Int) (w : World) (hx0 : 0 ≤ x) (hx : x ≤ 1048576) (hs : h.size ≤ maxLen) :
    Calls Try.prog 5 #[.agg #[.int .i64 v, .string h], .int .i64 x] w fun e w' => (∃ y : Int, e = .returned (.int .i64 y) ∧ -1 ≤ y ∧ y ≤ 1048576) ∧ Below w.heap.size w w' := by
  unfold maxLen at hs
  have x2 : IntKind.i64.wrap (x - (h.size : Int)) = x - (h.size : Int) := IntWalk.i64_in _ (by omega)
  by_cases h0 : x - (h.size : Int) < 0
  · go_enter Try.func5, Try.ntmps5
    go_wp2
    go_ret
    exact ⟨⟨-1, rfl, by omega, by omega⟩, (Below.refl w.heap.size w).alloc (Nat.le_refl _) _⟩
  · go_enter Try.func5, Try.ntmps5
    go_wp2
    go_ret
    exact ⟨⟨_, rfl, by omega, by omega⟩, (Below.refl w.heap.size w).alloc (Nat.le_refl _) _⟩
set_option maxRecDepth 100000 in
set_option maxHeartbeats 1000000 in
theorem szLeafS_any (a : Option Addr) (n c : Nat) (LF : Nat → Lf) (x : Int) (w : World) (h : Els w 2 a n (lfF LF)) (hx0 : 0 ≤ x) (hx : x ≤ 1048576) (hn : n ≤ maxLen) (hf : ∀ i, i < n → (LF i).h.size ≤ maxLen) :
    Calls Try.prog 4 #[.slice a n c, .int .i64 x] w fun e w' => (∃ y : Int, e = .returned (.int .i64 y) ∧ y ≤ 1048576 ∧ (0 ≤ y → n ≤ 1048576)) ∧ Below w.heap.size w w' := by
  unfold maxLen at hn
  by_cases h0 : (n : Int) ≤ x
  · obtain ⟨y, hy⟩ : ∃ y, y = x - (n : Int) := ⟨_, rfl⟩
    have ey : x - (n : Int) = y := hy.symm
    have e0 : ¬ y < 0 := by omega
    have e1 : n ≤ 1048576 := by omega
    have HA : Hid (Els w 2 a n (lfF LF)) := h
    have HF : Hid (∀ i, i < n → (LF i).h.size ≤ maxLen) := hf
    have y0 : y ≤ 1048576 := by omega
    clear h hf hy
    go_enter Try.func4, Try.ntmps4
    go_wp2
    go_loopw [1, 5] (fun l i wr => ∃ (k : Nat) (z : Int), k ≤ n ∧ i = .int .i64 k ∧ l = .int .i64 z ∧ 0 ≤ z ∧ z ≤ 1048576 ∧ Below w.heap.size w wr) (fun _ i _ => n - (intOf i).toNat)
    case atStart => exact ⟨0, y, by omega, rfl, rfl, by omega, by omega, Below.refl _ _⟩
    case round =>
      obtain ⟨k, z, hk, rfl, rfl, hz, hz2, hb⟩ := hrel
      have HB : Hid (Below w.heap.size w wr) := hb
      by_cases hlt : k < n
      · obtain ⟨b, off, rfl, hc⟩ := (HA.out.below hb).opened (by omega)
        obtain ⟨c0, c1⟩ := Els.lfC hc k hlt
        have hlt' : (k : Int) < (n : Int) := by omega
        have SP : Hid (∀ w : World, Calls Try.prog 5 #[.agg #[.int .i64 (LF k).v, .string (LF k).h], .int .i64 z] w fun e w' => (∃ y : Int, e = .returned (.int .i64 y) ∧ -1 ≤ y ∧ y ≤ 1048576) ∧ Below w.heap.size w w') := fun w => szLeaf_any _ _ z w hz hz2 (HF.out k hlt)
        clear hc hb
        go_wp2_with fail
        refine (SP.out _).mono ?_
        rintro e w1 ⟨⟨y1, rfl, hy1, hy2⟩, hb⟩
        have B1 : Hid (Below w.heap.size w w1) := HB.out.trans (hb.mono HB.out.size)
        clear hb HB SP c0 c1
        by_cases hz3 : y1 < 0
        · go_wp2
          go_ret
          exact ⟨⟨-1, rfl, by omega, by omega⟩, B1.out⟩
        · go_wp2
          go_roundw
          case rel => exact ⟨k + 1, y1, by omega, by go_num, rfl, by omega, by omega, B1.out⟩
          case measure => simp [intOf]; omega
      · have hlt' : ¬ (k : Int) < (n : Int) := by omega
        clear hb
        go_wp2
        go_ret
        exact ⟨⟨z, rfl, hz2⟩, HB.out⟩
  · have e0 : x - (n : Int) < 0 := by omega
    go_enter Try.func4, Try.ntmps4
    go_wp2
    go_ret
    exact ⟨⟨-1, rfl, by omega, by omega⟩, Below.refl _ _⟩
set_option maxRecDepth 100000 in
theorem eqLeaf_yes (v : Int) (h : ByteArray) (w : World) :
    Calls Try.prog 20 #[.agg #[.int .i64 v, .string h], .agg #[.int .i64 v, .string h]] w fun e w' => e = .returned (.bool true) ∧ Below w.heap.size w w' := by
  have e0 : (v != v) = false := by simp
  go_enter Try.func20, Try.ntmps20
  go_wp2
  go_ret
  exact ⟨rfl, ((Below.refl w.heap.size w).alloc (Nat.le_refl _) _).alloc (by simp) _⟩
set_option maxRecDepth 100000 in
set_option maxHeartbeats 1000000 in
theorem eqLeafS_yes (a b : Option Addr) (n c d : Nat) (LF : Nat → Lf) (w : World) (h : Els w 2 a n (lfF LF)) (h' : Els w 2 b n (lfF LF)) (hn : n ≤ 1048576) :
    Calls Try.prog 10 #[.slice a n c, .slice b n d] w fun e w' => e = .returned (.bool true) ∧ Below w.heap.size w w' := by
  have HA : Hid (Els w 2 a n (lfF LF)) := h
  have HA' : Hid (Els w 2 b n (lfF LF)) := h'
  have hne : ((n : Int) != (n : Int)) = false := by simp
  clear h h'
  go_enter Try.func10, Try.ntmps10
  go_wp2
  go_loopw [5] (fun i wr => ∃ k : Nat, k ≤ n ∧ i = .int .i64 k ∧ Below w.heap.size w wr) (fun i _ => n - (intOf i).toNat)
  case atStart => exact ⟨0, by omega, rfl, Below.refl _ _⟩
  case round =>
    obtain ⟨k, hk, rfl, hb⟩ := hrel
    have HB : Hid (Below w.heap.size w wr) := hb
    by_cases hlt : k < n
    · obtain ⟨b1, o1, rfl, hc⟩ := (HA.out.below hb).opened (by omega)
      obtain ⟨b2, o2, rfl, hc'⟩ := (HA'.out.below hb).opened (by omega)
      obtain ⟨c0, c1⟩ := Els.lfC hc k hlt
      obtain ⟨d0, d1⟩ := Els.lfC hc' k hlt
      have hlt' : (k : Int) < (n : Int) := by omega
      have EP : Hid (∀ w : World, Calls Try.prog 20 #[.agg #[.int .i64 (LF k).v, .string (LF k).h], .agg #[.int .i64 (LF k).v, .string (LF k).h]] w fun e w' => e = .returned (.bool true) ∧ Below w.heap.size w w') := eqLeaf_yes _ _
      generalize LF k = y at *
      clear hc hc' hb
      go_wp2_with fail
      go_region_with (go_at_call 20; refine (EP.out _).mono ?_; rintro e w' ⟨rfl, hb⟩)
      all_goals
        have B1 : Hid (Below w.heap.size w w') := HB.out.drew.trans (hb.mono HB.out.size)
        clear hb HB EP c0 d0 c1 d1
        dsimp only [Act.put]
        go_wp2
        go_roundw
        case rel => exact ⟨k + 1, by omega, by go_num, B1.out⟩
        case measure => simp [intOf]; omega
    · go_wp2
      go_ret
      exact ⟨rfl, HB.out⟩
/-- What is marked from k on. -/
def lfM (k : Nat) (i : Nat) : Lf := ⟨((k + 2 * i : Nat) : Int), mt (k + 2 * i + 1)⟩
set_option maxRecDepth 100000 in
set_option maxHeartbeats 2000000 in
theorem markLeafK (a : Option Addr) (g n c k : Nat) (LF : Nat → Lf) (hk : 1 ≤ k) (hn : k + 2 * n ≤ 10000000) (w : World) (h : RowE w 2 a g n (lfF LF)) :
    Calls Try.prog 11 #[.slice a n c, .int .i64 (k : Int)] w fun e w' => e = .returned (.int .i64 ((k + 2 * n : Nat) : Int)) ∧ RowE w' 2 a g n (lfF (lfM k)) ∧ TurnedE g n w w' := by
  have H : Hid (RowE w 2 a g n (lfF LF)) := h
  clear h
  go_enter Try.func11, Try.ntmps11
  go_wp2
  go_loopw [1, 5] (fun kv i wr => ∃ q : Nat, q ≤ n ∧ i = .int .i64 q ∧ kv = .int .i64 ((k + 2 * q : Nat) : Int) ∧ RowE wr 2 a g n (lfF (fun i => if i < q then lfM k i else LF i)) ∧ TurnedE g n w wr) (fun _ i _ => n - (intOf i).toNat)
  case atStart => exact ⟨0, by omega, rfl, rfl, H.out.congr (fun i hi j hj => by unfold lfF; dsimp only; rw [if_neg (by omega)]), TurnedE.refl _ _ _⟩
  case round =>
    obtain ⟨q, hq, rfl, rfl, hrow, ho⟩ := hrel
    by_cases hlt : q < n
    · obtain ⟨m, hm⟩ : ∃ m, m = k + 2 * q := ⟨_, rfl⟩
      have MT1 : Hid (∀ w : World, Calls Try.prog 21 #[.int .i64 ((m : Int) + 1)] w fun e w' => e = .returned (.string (mt (m + 1))) ∧ Below w.heap.size w w') := fun w => by
        have := markText_any (m + 1) (by omega) (by omega) w
        rwa [show ((m + 1 : Nat) : Int) = (m : Int) + 1 from by omega] at this
      rw [← hm]
      have hlt' : (q : Int) < (n : Int) := by omega
      obtain rfl := hrow.a (by omega)
      obtain ⟨c0, c1⟩ := hrow.lfC q hlt
      obtain ⟨f0, f1⟩ := hrow.lfFr q hlt
      rw [if_neg (show ¬ q < q by omega)] at c0 c1
      have HRW : Hid (RowE wr 2 (some ⟨g, 0, none⟩) g n (lfF (fun i => if i < q then lfM k i else LF i))) := hrow
      have HO : Hid (OnlyB g w wr) := ho.1
      have HM : Hid (m = k + 2 * q) := hm
      have m1 : (m : Int) ≤ 10000000 := by omega
      have m0 : (0 : Int) ≤ (m : Int) := by omega
      clear hrow ho hm
      go_wp2_with fail
      have R1 := ((HRW.out.set q 0 (by omega) (.int .i64 ((m : Int)))) : RowE (wr.setCell ⟨g, q * 2, none⟩ (.int .i64 ((m : Int)))) _ _ _ _ _)
      have O1 : OnlyB g w (wr.setCell ⟨g, q * 2, none⟩ (.int .i64 ((m : Int)))) := (HO.out.setCell (q * 2) (.int .i64 ((m : Int))))
      refine (MT1.out _).mono ?_
      rintro e w2 ⟨rfl, hb⟩
      have RH : Hid (RowE w2 2 (some ⟨g, 0, none⟩) g n _) := R1.below (by omega) hb
      have OH : Hid (OnlyB g w w2) := O1.below hb
      have x1 : w2.cell? ⟨g, q * 2 + 1, none⟩ = some (.string (LF q).h) := by
        have := RH.out.c q hlt 1 (by omega)
        simpa [setF, lfF, lfV] using this
      have y1 : w2.frozen? ⟨g, q * 2 + 1, none⟩ = false := RH.out.z _ (by omega)
      generalize hV1 : mt (m + 1) = V1 at *
      have HV1 : Hid (mt (m + 1) = V1) := hV1
      clear hb R1 O1 MT1 hV1
      clear HRW HO c0 f0 c1 f1
      go_wp2
      go_roundw
      case rel =>
        have := HM.out
        refine ⟨q + 1, by omega, by go_num, numEqS (by omega), (RH.out.set q 1 (by omega) _).congr (fun i hi j hj => ?_), (OH.out.setCell (q * 2 + 1) _), fun z => absurd z (by omega)⟩
        have e1 := HV1.out
        unfold setF lfF
        by_cases e : i = q
        · subst e
          dsimp only
          rw [if_pos (show i < i + 1 by omega)]
          rcases (show j = 0 ∨ j = 1 by omega) with rfl | rfl <;> simp [lfV, lfM] <;> first | omega | (rw [← this]; assumption) | (rw [← this]; exact (by assumption : _ = _).symm) | (subst this; simp_all)
        · simp only [e, false_and, if_false]
          congr 1
          by_cases g : i < q
          · rw [if_pos g, if_pos (by omega)]
          · rw [if_neg g, if_neg (by omega)]
      case measure => simp [intOf]; omega
    · obtain rfl : q = n := by omega
      have HF : Hid (RowE wr 2 a g q (lfF (lfM k))) := hrow.congr (fun i hi j hj => by unfold lfF; dsimp only; rw [if_pos hi])
      have HO : Hid (TurnedE g q w wr) := ho
      clear hrow ho
      go_wp2
      go_ret
      exact ⟨rfl, HF.out, HO.out⟩
set_option maxRecDepth 100000 in
set_option maxHeartbeats 2000000 in
theorem heldLeafK (a : Option Addr) (n c k : Nat) (hk : 1 ≤ k) (hn : k + 2 * n ≤ 10000000) (w : World) (h : Els w 2 a n (lfF (lfM k))) :
    Calls Try.prog 12 #[.slice a n c, .int .i64 (k : Int)] w fun e w' => e = .returned (.int .i64 ((k + 2 * n : Nat) : Int)) ∧ Below w.heap.size w w' := by
  have H : Hid (Els w 2 a n (lfF (lfM k))) := h
  clear h
  go_enter Try.func12, Try.ntmps12
  go_wp2
  go_loopw [1, 5] (fun kv i wr => ∃ q : Nat, q ≤ n ∧ i = .int .i64 q ∧ kv = .int .i64 ((k + 2 * q : Nat) : Int) ∧ Below w.heap.size w wr) (fun _ i _ => n - (intOf i).toNat)
  case atStart => exact ⟨0, by omega, rfl, rfl, Below.refl _ _⟩
  case round =>
    obtain ⟨q, hq, rfl, rfl, hb⟩ := hrel
    have HB : Hid (Below w.heap.size w wr) := hb
    by_cases hlt : q < n
    · obtain ⟨b, off, rfl, hc⟩ := (H.out.below hb).opened (by omega)
      obtain ⟨c0, c1⟩ := Els.lfC hc q hlt
      have hlt' : (q : Int) < (n : Int) := by omega
      unfold lfM at c0 c1
      obtain ⟨m, hm⟩ : ∃ m, m = k + 2 * q := ⟨_, rfl⟩
      have MT1 : Hid (∀ w : World, Calls Try.prog 21 #[.int .i64 ((m : Int) + 1)] w fun e w' => e = .returned (.string (mt (m + 1))) ∧ Below w.heap.size w w') := fun w => by
        have := markText_any (m + 1) (by omega) (by omega) w
        rwa [show ((m + 1 : Nat) : Int) = (m : Int) + 1 from by omega] at this
      rw [← hm] at c0 c1 ⊢
      replace c0 : wr.cell? ⟨b, off + q * 2, none⟩ = some (.int .i64 ((m : Int))) := c0.trans (by first | rfl | simp)
      have r0 : (((m : Int)) != ((m : Int))) = false := by simp
      have HM : Hid (m = k + 2 * q) := hm
      have m1 : (m : Int) ≤ 10000000 := by omega
      have m0 : (0 : Int) ≤ (m : Int) := by omega
      generalize mt (m + 1) = V1 at *
      have C1 : Hid (wr.drew.cell? ⟨b, off + q * 2 + 1, none⟩ = some (.string V1)) := c1
      clear hc hb hm
      go_wp2_with fail
      go_region_with (go_at_call 21; refine (MT1.out _).mono ?_; rintro e w' ⟨rfl, hb⟩; have k1 : w'.cell? ⟨b, off + q * 2 + 1, none⟩ = some (.string V1) := (hb.cell (strBlock C1.out)).trans C1.out)
      all_goals
        have B1 : Hid (Below w.heap.size w w') := HB.out.drew.trans (hb.mono HB.out.size)
        clear hb HB MT1 c0 c1 C1
        dsimp only [Act.put]
        go_wp2
        go_roundw
        case rel =>
          have := HM.out
          exact ⟨q + 1, by omega, by go_num, numEqS (by omega), B1.out⟩
        case measure => simp [intOf]; omega
    · obtain rfl : q = n := by omega
      clear hb
      go_wp2
      go_ret
      exact ⟨rfl, HB.out⟩
end Go.Proofs.Ytpljdlgjeeikkac
