/-
  Slices of Register: what they hold, and the laws' own helpers on them (written by tools/mkels.py).
-/
import Derived.Test.YtfhjenohgafjlabDoorEls
import Derived.Test.YtfhjenohgafjlabDoorRetCell
import Derived.Deep.RegionWith
namespace Go.Proofs.YtfhjenohgafjlabDoor
open Go.ChangeShapes Go.WideShapes Go.ChangeAt Go.RowKit
set_option linter.unusedVariables false
structure Rg where
  v : Int
  c : Int
  r : ByteArray
def rgV (x : Rg) : Nat → Value
  | 0 => .int .i64 x.v
  | 1 => .int .i64 x.c
  | _ => .string x.r
/-- The cells of elements. -/
def rgF (RG : Nat → Rg) (i j : Nat) : Value := rgV (RG i) j
def rgZ : Rg := ⟨0, 0, ⟨#[]⟩⟩
theorem Els.rgC {w : World} {b off n : Nat} {RG : Nat → Rg} (h : ∀ i, i < n → ∀ j, j < 3 → w.cell? ⟨b, off + i * 3 + j, none⟩ = some (rgF RG i j)) (k : Nat) (hk : k < n) : w.cell? ⟨b, off + k * 3, none⟩ = some (.int .i64 (RG k).v) ∧ w.cell? ⟨b, off + k * 3 + 1, none⟩ = some (.int .i64 (RG k).c) ∧ w.cell? ⟨b, off + k * 3 + 2, none⟩ = some (.string (RG k).r) := ⟨h k hk 0 (by omega), h k hk 1 (by omega), h k hk 2 (by omega)⟩
theorem RowE.rgC {w : World} {a : Option Addr} {g n : Nat} {RG : Nat → Rg} (h : RowE w 3 a g n (rgF RG)) (k : Nat) (hk : k < n) : w.cell? ⟨g, k * 3, none⟩ = some (.int .i64 (RG k).v) ∧ w.cell? ⟨g, k * 3 + 1, none⟩ = some (.int .i64 (RG k).c) ∧ w.cell? ⟨g, k * 3 + 2, none⟩ = some (.string (RG k).r) := ⟨h.c k hk 0 (by omega), h.c k hk 1 (by omega), h.c k hk 2 (by omega)⟩
theorem RowE.rgFr {w : World} {a : Option Addr} {g n : Nat} {F : Nat → Nat → Value} (h : RowE w 3 a g n F) (k : Nat) (hk : k < n) : w.frozen? ⟨g, k * 3, none⟩ = false ∧ w.frozen? ⟨g, k * 3 + 1, none⟩ = false ∧ w.frozen? ⟨g, k * 3 + 2, none⟩ = false := ⟨h.z _ (by omega), h.z _ (by omega), h.z _ (by omega)⟩
theorem RowE.rgPut {w : World} {a : Option Addr} {g n : Nat} {RG : Nat → Rg} (h : RowE w 3 a g n (rgF RG)) (k : Nat) (x : Rg) : RowE (((w.setCell ⟨g, k * 3, none⟩ (.int .i64 x.v)).setCell ⟨g, k * 3 + 1, none⟩ (.int .i64 x.c)).setCell ⟨g, k * 3 + 2, none⟩ (.string x.r)) 3 a g n (rgF (fun i => if i = k then x else RG i)) := by
  refine ((((h.set k 0 (by omega) (.int .i64 x.v)).set k 1 (by omega) (.int .i64 x.c)).set k 2 (by omega) (.string x.r)) : RowE _ _ _ _ _ _).congr (fun i hi j hj => ?_)
  unfold setF rgF
  by_cases e : i = k
  · subst e
    rcases (show j = 0 ∨ j = 1 ∨ j = 2 by omega) with rfl | rfl | rfl <;> simp [rgV]
  · simp [e]
theorem Tryd.infoRg : (Tryd.prog.info? 28).map (fun i => (i.zero, i.size, i.bytes)) = some (some (.agg #[.int .i64 0, .int .i64 0, .string ⟨#[]⟩]), 3, 32) := by kernel_rfl
theorem mkRg (n : Nat) (hn : n ≤ 1048576) (w : World) : (Instr.makeSlice 31 (.int .i64 n) (.int .i64 n)).run Tryd.prog w = .ok (.slice (some ⟨w.heap.size, 0, none⟩) n n) (w.alloc (.cells (madeCells #[.int .i64 0, .int .i64 0, .string ⟨#[]⟩] (n * 3)) 28)) := by
  obtain ⟨i, hi, hzz⟩ := Option.map_eq_some_iff.1 Tryd.infoRg
  simp only [Prod.mk.injEq] at hzz
  obtain ⟨hz, hs, hb⟩ := hzz
  have hr := run_make (P := Tryd.prog) w 31 28 i _ Tryd.underlying31 hi hz .i64 .i64 n n (by omega) (Int.le_refl _) (by rw [hb]; omega) (by omega)
  simp only [Int.toNat_natCast, hs] at hr
  exact hr
theorem RowE.rgMade (w : World) (n : Nat) : RowE (w.alloc (.cells (madeCells #[.int .i64 0, .int .i64 0, .string ⟨#[]⟩] (n * 3)) 28)) 3 (some ⟨w.heap.size, 0, none⟩) w.heap.size n (rgF (fun _ => rgZ)) := RowE.made w 3 n _ _ rfl _ (fun i j hj => by
  rcases (show j = 0 ∨ j = 1 ∨ j = 2 by omega) with rfl | rfl | rfl <;> rfl)
set_option maxRecDepth 100000 in
theorem toRegister_any (v : Int) (c : Int) (r : ByteArray) (w : World) :
    Calls Tryd.prog 42 #[.agg #[.int .i64 v, .int .i64 c, .string r]] w fun e w' => e = .returned (.agg #[.int .i64 v, .int .i64 c, .string r]) ∧ Below w.heap.size w w' := by
  go_enter Tryd.func42, Tryd.ntmps42
  go_wp2
  refine ret_cell (b := w.heap.size + 1) (v := .agg #[.int .i64 v, .int .i64 c, .string r]) Tryd.results42 rfl (by go_simp) ⟨rfl, (((Below.refl w.heap.size w).alloc (Nat.le_refl _) _).alloc (by simp) _).alloc (by simp; omega) _⟩
set_option maxRecDepth 100000 in
set_option maxHeartbeats 1000000 in
theorem toRegisterS_any (a : Option Addr) (n c : Nat) (RG : Nat → Rg) (w : World) (h : Els w 3 a n (rgF RG)) (hn : n ≤ 1048576) :
    Calls Tryd.prog 21 #[.slice a n c] w fun e w' => e = .returned (.slice (some ⟨w.heap.size, 0, none⟩) n n) ∧ RowE w' 3 (some ⟨w.heap.size, 0, none⟩) w.heap.size n (rgF RG) ∧ w.heap.size < w'.heap.size ∧ Below w.heap.size w w' := by
  have m1 := mkRg n hn
  have S0 : Hid (w.heap.size < (w.alloc (.cells (madeCells #[.int .i64 0, .int .i64 0, .string ⟨#[]⟩] (n * 3)) 28)).heap.size) := by show _ < _; simp
  rcases Nat.eq_zero_or_pos n with rfl | hpos
  · have m0 : ∀ w : World, (Instr.makeSlice 31 (.int .i64 0) (.int .i64 0)).run Tryd.prog w = .ok (.slice (some ⟨w.heap.size, 0, none⟩) 0 0) (w.alloc (.cells (madeCells #[.int .i64 0, .int .i64 0, .string ⟨#[]⟩] (0 * 3)) 28)) := mkRg 0 (by omega)
    have B0 : Hid (Below w.heap.size w (w.alloc (.cells (madeCells #[.int .i64 0, .int .i64 0, .string ⟨#[]⟩] (0 * 3)) 28))) := (Below.refl _ _).alloc (Nat.le_refl _) _
    clear m1
    go_enter Tryd.func21, Tryd.ntmps21
    go_wp2
    go_loopw [4] (fun i wr => i = .int .i64 0 ∧ wr = (w.alloc (.cells (madeCells #[.int .i64 0, .int .i64 0, .string ⟨#[]⟩] (0 * 3)) 28))) (fun _ _ => 0)
    case atStart => exact ⟨rfl, rfl⟩
    case round =>
      obtain ⟨rfl, rfl⟩ := hrel
      go_wp2
      go_ret
      exact ⟨rfl, RowE.nil _ _ _ _ _, S0.out, B0.out⟩
  · obtain ⟨b, off, rfl, hc⟩ := h.opened hpos
    have HC : Hid (∀ i, i < n → ∀ j, j < 3 → w.cell? ⟨b, off + i * 3 + j, none⟩ = some (rgF RG i j)) := hc
    clear h hc
    go_enter Tryd.func21, Tryd.ntmps21
    go_wp2
    go_loopw [4] (fun i wr => ∃ k : Nat, k ≤ n ∧ i = .int .i64 k ∧ RowE wr 3 (some ⟨w.heap.size, 0, none⟩) w.heap.size n (rgF (fun j => if j < k then RG j else rgZ)) ∧ w.heap.size < wr.heap.size ∧ Below w.heap.size w wr) (fun i _ => n - (intOf i).toNat)
    case atStart => exact ⟨0, by omega, rfl, (RowE.rgMade w n).congr (fun i hi j hj => by simp [rgF]), S0.out, (Below.refl _ _).alloc (Nat.le_refl _) _⟩
    case round =>
      obtain ⟨k, hk, rfl, hrow, hsz, hb⟩ := hrel
      have HS : Hid (w.heap.size < wr.heap.size) := hsz
      clear hsz
      by_cases hlt : k < n
      · obtain ⟨c0, c1, c2⟩ := Els.rgC HC.out k hlt
        have d0 : wr.cell? ⟨b, off + k * 3, none⟩ = some (.int .i64 (RG k).v) := by rw [hb.cell (strBlock c0)]; exact c0
        have d1 : wr.cell? ⟨b, off + k * 3 + 1, none⟩ = some (.int .i64 (RG k).c) := by rw [hb.cell (strBlock c1)]; exact c1
        have d2 : wr.cell? ⟨b, off + k * 3 + 2, none⟩ = some (.string (RG k).r) := by rw [hb.cell (strBlock c2)]; exact c2
        have TP : Hid (∀ w : World, Calls Tryd.prog 42 #[.agg #[.int .i64 (RG k).v, .int .i64 (RG k).c, .string (RG k).r]] w fun e w' => e = .returned (.agg #[.int .i64 (RG k).v, .int .i64 (RG k).c, .string (RG k).r]) ∧ Below w.heap.size w w') := toRegister_any _ _ _
        have HR : Hid (RowE wr 3 (some ⟨w.heap.size, 0, none⟩) w.heap.size n (rgF (fun j => if j < k then RG j else rgZ))) := hrow
        have HB : Hid (Below w.heap.size w wr) := hb
        clear hrow hb c0 c1 c2 m1
        go_wp2_with fail
        refine (TP.out _).mono ?_
        rintro e w1 ⟨rfl, hb⟩
        have R1 := HR.out.below (by omega) hb
        obtain ⟨g0, g1, g2⟩ := R1.rgC k hlt
        obtain ⟨f0, f1, f2⟩ := R1.rgFr k hlt
        have H1 : Hid (RowE w1 3 (some ⟨w.heap.size, 0, none⟩) w.heap.size n (rgF (fun j => if j < k then RG j else rgZ))) := R1
        have B1 : Hid (Below w.heap.size w w1) := HB.out.trans (hb.mono HB.out.size)
        replace HS : Hid (w.heap.size < w1.heap.size) := Nat.lt_of_lt_of_le HS.out hb.size
        generalize (if k < k then RG k else rgZ) = u at *
        clear R1 hb HR HB TP d0 d1 d2
        go_wp2
        go_roundw
        case rel =>
          refine ⟨k + 1, by omega, by go_num, (H1.out.rgPut k (RG k)).congr (fun i hi j hj => ?_), by have := HS.out; simpa using this, (((B1.out.setCell (by simp) _).setCell (by simp) _).setCell (by simp) _)⟩
          unfold rgF
          congr 1
          by_cases e : i = k
          · subst e; simp
          · simp only [if_neg e]
            by_cases g : i < k
            · rw [if_pos g, if_pos (by omega)]
            · rw [if_neg g, if_neg (by omega)]
        case measure => simp [intOf]; omega
      · have HR : Hid (RowE wr 3 (some ⟨w.heap.size, 0, none⟩) w.heap.size n (rgF RG)) := hrow.congr (fun i hi j hj => by unfold rgF; dsimp only; rw [if_pos (by omega)])
        have HB : Hid (Below w.heap.size w wr) := hb
        clear hrow hb m1
        go_wp2
        go_ret
        exact ⟨rfl, HR.out, HS.out, HB.out⟩
set_option maxRecDepth 100000 in
theorem szRegister_any (v : Int) (c : Int) (r : ByteArray) (x : Int) (w : World) (hx0 : 0 ≤ x) (hx : x ≤ 1048576) (hs : r.size ≤ maxLen) :
    Calls Tryd.prog 39 #[.agg #[.int .i64 v, .int .i64 c, .string r], .int .i64 x] w fun e w' => (∃ y : Int, e = .returned (.int .i64 y) ∧ -1 ≤ y ∧ y ≤ 1048576) ∧ Below w.heap.size w w' := by
  unfold maxLen at hs
  have x2 : IntKind.i64.wrap (x - (r.size : Int)) = x - (r.size : Int) := IntWalk.i64_in _ (by omega)
  by_cases h0 : x - (r.size : Int) < 0
  · go_enter Tryd.func39, Tryd.ntmps39
    go_wp2
    go_ret
    exact ⟨⟨-1, rfl, by omega, by omega⟩, (Below.refl w.heap.size w).alloc (Nat.le_refl _) _⟩
  · go_enter Tryd.func39, Tryd.ntmps39
    go_wp2
    go_ret
    exact ⟨⟨_, rfl, by omega, by omega⟩, (Below.refl w.heap.size w).alloc (Nat.le_refl _) _⟩
set_option maxRecDepth 100000 in
set_option maxHeartbeats 1000000 in
theorem szRegisterS_any (a : Option Addr) (n c : Nat) (RG : Nat → Rg) (x : Int) (w : World) (h : Els w 3 a n (rgF RG)) (hx0 : 0 ≤ x) (hx : x ≤ 1048576) (hn : n ≤ maxLen) (hf : ∀ i, i < n → (RG i).r.size ≤ maxLen) :
    Calls Tryd.prog 17 #[.slice a n c, .int .i64 x] w fun e w' => (∃ y : Int, e = .returned (.int .i64 y) ∧ y ≤ 1048576 ∧ (0 ≤ y → n ≤ 1048576)) ∧ Below w.heap.size w w' := by
  unfold maxLen at hn
  by_cases h0 : (n : Int) ≤ x
  · obtain ⟨y, hy⟩ : ∃ y, y = x - (n : Int) := ⟨_, rfl⟩
    have ey : x - (n : Int) = y := hy.symm
    have e0 : ¬ y < 0 := by omega
    have e1 : n ≤ 1048576 := by omega
    have HA : Hid (Els w 3 a n (rgF RG)) := h
    have HF : Hid (∀ i, i < n → (RG i).r.size ≤ maxLen) := hf
    have y0 : y ≤ 1048576 := by omega
    clear h hf hy
    go_enter Tryd.func17, Tryd.ntmps17
    go_wp2
    go_loopw [1, 5] (fun l i wr => ∃ (k : Nat) (z : Int), k ≤ n ∧ i = .int .i64 k ∧ l = .int .i64 z ∧ 0 ≤ z ∧ z ≤ 1048576 ∧ Below w.heap.size w wr) (fun _ i _ => n - (intOf i).toNat)
    case atStart => exact ⟨0, y, by omega, rfl, rfl, by omega, by omega, Below.refl _ _⟩
    case round =>
      obtain ⟨k, z, hk, rfl, rfl, hz, hz2, hb⟩ := hrel
      have HB : Hid (Below w.heap.size w wr) := hb
      by_cases hlt : k < n
      · obtain ⟨b, off, rfl, hc⟩ := (HA.out.below hb).opened (by omega)
        obtain ⟨c0, c1, c2⟩ := Els.rgC hc k hlt
        have hlt' : (k : Int) < (n : Int) := by omega
        have SP : Hid (∀ w : World, Calls Tryd.prog 39 #[.agg #[.int .i64 (RG k).v, .int .i64 (RG k).c, .string (RG k).r], .int .i64 z] w fun e w' => (∃ y : Int, e = .returned (.int .i64 y) ∧ -1 ≤ y ∧ y ≤ 1048576) ∧ Below w.heap.size w w') := fun w => szRegister_any _ _ _ z w hz hz2 (HF.out k hlt)
        clear hc hb
        go_wp2_with fail
        refine (SP.out _).mono ?_
        rintro e w1 ⟨⟨y1, rfl, hy1, hy2⟩, hb⟩
        have B1 : Hid (Below w.heap.size w w1) := HB.out.trans (hb.mono HB.out.size)
        clear hb HB SP c0 c1 c2
        by_cases hz3 : y1 < 0
        · go_wp2
          go_ret
          exact ⟨⟨-1, rfl, by omega, by omega⟩, B1.out⟩
        · go_wp2
          go_roundw
          case rel => exact ⟨k + 1, y1, by omega, by go_num, rfl, by omega, by omega, B1.out⟩
          case measure => simp [intOf]; omega
      · have hlt' : ¬ (k : Int) < (n : Int) := by omega
        clear hb
        go_wp2
        go_ret
        exact ⟨⟨z, rfl, hz2⟩, HB.out⟩
  · have e0 : x - (n : Int) < 0 := by omega
    go_enter Tryd.func17, Tryd.ntmps17
    go_wp2
    go_ret
    exact ⟨⟨-1, rfl, by omega, by omega⟩, Below.refl _ _⟩
set_option maxRecDepth 100000 in
theorem eqRegister_yes (v : Int) (c : Int) (r : ByteArray) (w : World) :
    Calls Tryd.prog 9 #[.agg #[.int .i64 v, .int .i64 c, .string r], .agg #[.int .i64 v, .int .i64 c, .string r]] w fun e w' => e = .returned (.bool true) ∧ Below w.heap.size w w' := by
  have e0 : (v != v) = false := by simp
  have e1 : (c != c) = false := by simp
  go_enter Tryd.func9, Tryd.ntmps9
  go_wp2
  go_ret
  exact ⟨rfl, ((Below.refl w.heap.size w).alloc (Nat.le_refl _) _).alloc (by simp) _⟩
set_option maxRecDepth 100000 in
set_option maxHeartbeats 1000000 in
theorem eqRegisterS_yes (a b : Option Addr) (n c d : Nat) (RG : Nat → Rg) (w : World) (h : Els w 3 a n (rgF RG)) (h' : Els w 3 b n (rgF RG)) (hn : n ≤ 1048576) :
    Calls Tryd.prog 26 #[.slice a n c, .slice b n d] w fun e w' => e = .returned (.bool true) ∧ Below w.heap.size w w' := by
  have HA : Hid (Els w 3 a n (rgF RG)) := h
  have HA' : Hid (Els w 3 b n (rgF RG)) := h'
  have hne : ((n : Int) != (n : Int)) = false := by simp
  clear h h'
  go_enter Tryd.func26, Tryd.ntmps26
  go_wp2
  go_loopw [5] (fun i wr => ∃ k : Nat, k ≤ n ∧ i = .int .i64 k ∧ Below w.heap.size w wr) (fun i _ => n - (intOf i).toNat)
  case atStart => exact ⟨0, by omega, rfl, Below.refl _ _⟩
  case round =>
    obtain ⟨k, hk, rfl, hb⟩ := hrel
    have HB : Hid (Below w.heap.size w wr) := hb
    by_cases hlt : k < n
    · obtain ⟨b1, o1, rfl, hc⟩ := (HA.out.below hb).opened (by omega)
      obtain ⟨b2, o2, rfl, hc'⟩ := (HA'.out.below hb).opened (by omega)
      obtain ⟨c0, c1, c2⟩ := Els.rgC hc k hlt
      obtain ⟨d0, d1, d2⟩ := Els.rgC hc' k hlt
      have hlt' : (k : Int) < (n : Int) := by omega
      have EP : Hid (∀ w : World, Calls Tryd.prog 9 #[.agg #[.int .i64 (RG k).v, .int .i64 (RG k).c, .string (RG k).r], .agg #[.int .i64 (RG k).v, .int .i64 (RG k).c, .string (RG k).r]] w fun e w' => e = .returned (.bool true) ∧ Below w.heap.size w w') := eqRegister_yes _ _ _
      generalize RG k = y at *
      clear hc hc' hb
      go_wp2_with fail
      go_region_with (go_at_call 9; refine (EP.out _).mono ?_; rintro e w' ⟨rfl, hb⟩)
      all_goals
        have B1 : Hid (Below w.heap.size w w') := HB.out.drew.trans (hb.mono HB.out.size)
        clear hb HB EP c0 d0 c1 d1 c2 d2
        dsimp only [Act.put]
        go_wp2
        go_roundw
        case rel => exact ⟨k + 1, by omega, by go_num, B1.out⟩
        case measure => simp [intOf]; omega
    · go_wp2
      go_ret
      exact ⟨rfl, HB.out⟩
/-- What is marked from k on. -/
def rgM (k : Nat) (i : Nat) : Rg := ⟨((k + 3 * i : Nat) : Int), ((k + 3 * i + 1 : Nat) : Int), mt (k + 3 * i + 2)⟩
set_option maxRecDepth 100000 in
set_option maxHeartbeats 2000000 in
theorem markRegisterK (a : Option Addr) (g n c k : Nat) (RG : Nat → Rg) (hk : 1 ≤ k) (hn : k + 3 * n ≤ 10000000) (w : World) (h : RowE w 3 a g n (rgF RG)) :
    Calls Tryd.prog 35 #[.slice a n c, .int .i64 (k : Int)] w fun e w' => e = .returned (.int .i64 ((k + 3 * n : Nat) : Int)) ∧ RowE w' 3 a g n (rgF (rgM k)) ∧ TurnedE g n w w' := by
  have H : Hid (RowE w 3 a g n (rgF RG)) := h
  clear h
  go_enter Tryd.func35, Tryd.ntmps35
  go_wp2
  go_loopw [1, 5] (fun kv i wr => ∃ q : Nat, q ≤ n ∧ i = .int .i64 q ∧ kv = .int .i64 ((k + 3 * q : Nat) : Int) ∧ RowE wr 3 a g n (rgF (fun i => if i < q then rgM k i else RG i)) ∧ TurnedE g n w wr) (fun _ i _ => n - (intOf i).toNat)
  case atStart => exact ⟨0, by omega, rfl, rfl, H.out.congr (fun i hi j hj => by unfold rgF; dsimp only; rw [if_neg (by omega)]), TurnedE.refl _ _ _⟩
  case round =>
    obtain ⟨q, hq, rfl, rfl, hrow, ho⟩ := hrel
    by_cases hlt : q < n
    · obtain ⟨m, hm⟩ : ∃ m, m = k + 3 * q := ⟨_, rfl⟩
      have MT2 : Hid (∀ w : World, Calls Tryd.prog 57 #[.int .i64 ((m : Int) + 2)] w fun e w' => e = .returned (.string (mt (m + 2))) ∧ Below w.heap.size w w') := fun w => by
        have := markText_any (m + 2) (by omega) (by omega) w
        rwa [show ((m + 2 : Nat) : Int) = (m : Int) + 2 from by omega] at this
      rw [← hm]
      have hlt' : (q : Int) < (n : Int) := by omega
      obtain rfl := hrow.a (by omega)
      obtain ⟨c0, c1, c2⟩ := hrow.rgC q hlt
      obtain ⟨f0, f1, f2⟩ := hrow.rgFr q hlt
      rw [if_neg (show ¬ q < q by omega)] at c0 c1 c2
      have HRW : Hid (RowE wr 3 (some ⟨g, 0, none⟩) g n (rgF (fun i => if i < q then rgM k i else RG i))) := hrow
      have HO : Hid (OnlyB g w wr) := ho.1
      have HM : Hid (m = k + 3 * q) := hm
      have m1 : (m : Int) ≤ 10000000 := by omega
      have m0 : (0 : Int) ≤ (m : Int) := by omega
      clear hrow ho hm
      go_wp2_with fail
      have R2 := (((HRW.out.set q 0 (by omega) (.int .i64 ((m : Int)))).set q 1 (by omega) (.int .i64 ((m : Int) + 1))) : RowE ((wr.setCell ⟨g, q * 3, none⟩ (.int .i64 ((m : Int)))).setCell ⟨g, q * 3 + 1, none⟩ (.int .i64 ((m : Int) + 1))) _ _ _ _ _)
      have O2 : OnlyB g w ((wr.setCell ⟨g, q * 3, none⟩ (.int .i64 ((m : Int)))).setCell ⟨g, q * 3 + 1, none⟩ (.int .i64 ((m : Int) + 1))) := ((HO.out.setCell (q * 3) (.int .i64 ((m : Int)))).setCell (q * 3 + 1) (.int .i64 ((m : Int) + 1)))
      refine (MT2.out _).mono ?_
      rintro e w3 ⟨rfl, hb⟩
      have RH : Hid (RowE w3 3 (some ⟨g, 0, none⟩) g n _) := R2.below (by omega) hb
      have OH : Hid (OnlyB g w w3) := O2.below hb
      have x2 : w3.cell? ⟨g, q * 3 + 2, none⟩ = some (.string (RG q).r) := by
        have := RH.out.c q hlt 2 (by omega)
        simpa [setF, rgF, rgV] using this
      have y2 : w3.frozen? ⟨g, q * 3 + 2, none⟩ = false := RH.out.z _ (by omega)
      generalize hV2 : mt (m + 2) = V2 at *
      have HV2 : Hid (mt (m + 2) = V2) := hV2
      clear hb R2 O2 MT2 hV2
      clear HRW HO c0 f0 c1 f1 c2 f2
      go_wp2
      go_roundw
      case rel =>
        have := HM.out
        refine ⟨q + 1, by omega, by go_num, numEqS (by omega), (RH.out.set q 2 (by omega) _).congr (fun i hi j hj => ?_), (OH.out.setCell (q * 3 + 2) _), fun z => absurd z (by omega)⟩
        have e2 := HV2.out
        unfold setF rgF
        by_cases e : i = q
        · subst e
          dsimp only
          rw [if_pos (show i < i + 1 by omega)]
          rcases (show j = 0 ∨ j = 1 ∨ j = 2 by omega) with rfl | rfl | rfl <;> simp [rgV, rgM] <;> first | omega | (rw [← this]; assumption) | (rw [← this]; exact (by assumption : _ = _).symm) | (subst this; simp_all)
        · simp only [e, false_and, if_false]
          congr 1
          by_cases g : i < q
          · rw [if_pos g, if_pos (by omega)]
          · rw [if_neg g, if_neg (by omega)]
      case measure => simp [intOf]; omega
    · obtain rfl : q = n := by omega
      have HF : Hid (RowE wr 3 a g q (rgF (rgM k))) := hrow.congr (fun i hi j hj => by unfold rgF; dsimp only; rw [if_pos hi])
      have HO : Hid (TurnedE g q w wr) := ho
      clear hrow ho
      go_wp2
      go_ret
      exact ⟨rfl, HF.out, HO.out⟩
set_option maxRecDepth 100000 in
set_option maxHeartbeats 2000000 in
theorem heldRegisterK (a : Option Addr) (n c k : Nat) (hk : 1 ≤ k) (hn : k + 3 * n ≤ 10000000) (w : World) (h : Els w 3 a n (rgF (rgM k))) :
    Calls Tryd.prog 37 #[.slice a n c, .int .i64 (k : Int)] w fun e w' => e = .returned (.int .i64 ((k + 3 * n : Nat) : Int)) ∧ Below w.heap.size w w' := by
  have H : Hid (Els w 3 a n (rgF (rgM k))) := h
  clear h
  go_enter Tryd.func37, Tryd.ntmps37
  go_wp2
  go_loopw [1, 5] (fun kv i wr => ∃ q : Nat, q ≤ n ∧ i = .int .i64 q ∧ kv = .int .i64 ((k + 3 * q : Nat) : Int) ∧ Below w.heap.size w wr) (fun _ i _ => n - (intOf i).toNat)
  case atStart => exact ⟨0, by omega, rfl, rfl, Below.refl _ _⟩
  case round =>
    obtain ⟨q, hq, rfl, rfl, hb⟩ := hrel
    have HB : Hid (Below w.heap.size w wr) := hb
    by_cases hlt : q < n
    · obtain ⟨b, off, rfl, hc⟩ := (H.out.below hb).opened (by omega)
      obtain ⟨c0, c1, c2⟩ := Els.rgC hc q hlt
      have hlt' : (q : Int) < (n : Int) := by omega
      unfold rgM at c0 c1 c2
      obtain ⟨m, hm⟩ : ∃ m, m = k + 3 * q := ⟨_, rfl⟩
      have MT2 : Hid (∀ w : World, Calls Tryd.prog 57 #[.int .i64 ((m : Int) + 2)] w fun e w' => e = .returned (.string (mt (m + 2))) ∧ Below w.heap.size w w') := fun w => by
        have := markText_any (m + 2) (by omega) (by omega) w
        rwa [show ((m + 2 : Nat) : Int) = (m : Int) + 2 from by omega] at this
      rw [← hm] at c0 c1 c2 ⊢
      replace c0 : wr.cell? ⟨b, off + q * 3, none⟩ = some (.int .i64 ((m : Int))) := c0.trans (by first | rfl | simp)
      have r0 : (((m : Int)) != ((m : Int))) = false := by simp
      replace c1 : wr.cell? ⟨b, off + q * 3 + 1, none⟩ = some (.int .i64 ((m : Int) + 1)) := c1.trans (by first | rfl | simp)
      have r1 : (((m : Int) + 1) != ((m : Int) + 1)) = false := by simp
      have HM : Hid (m = k + 3 * q) := hm
      have m1 : (m : Int) ≤ 10000000 := by omega
      have m0 : (0 : Int) ≤ (m : Int) := by omega
      generalize mt (m + 2) = V2 at *
      have C2 : Hid (wr.drew.cell? ⟨b, off + q * 3 + 2, none⟩ = some (.string V2)) := c2
      clear hc hb hm
      go_wp2_with fail
      go_region_with (go_at_call 57; refine (MT2.out _).mono ?_; rintro e w' ⟨rfl, hb⟩; have k2 : w'.cell? ⟨b, off + q * 3 + 2, none⟩ = some (.string V2) := (hb.cell (strBlock C2.out)).trans C2.out)
      all_goals
        have B1 : Hid (Below w.heap.size w w') := HB.out.drew.trans (hb.mono HB.out.size)
        clear hb HB MT2 c0 c1 c2 C2
        dsimp only [Act.put]
        go_wp2
        go_roundw
        case rel =>
          have := HM.out
          exact ⟨q + 1, by omega, by go_num, numEqS (by omega), B1.out⟩
        case measure => simp [intOf]; omega
    · obtain rfl : q = n := by omega
      clear hb
      go_wp2
      go_ret
      exact ⟨rfl, HB.out⟩
end Go.Proofs.YtfhjenohgafjlabDoor
