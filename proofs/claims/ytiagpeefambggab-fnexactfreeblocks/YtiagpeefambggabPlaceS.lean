/-
  Slices of Place: what they hold, and the laws' own helpers on them (written by tools/mkels.py).
-/
import Derived.Test.YtiagpeefambggabEls
import Derived.Test.YtiagpeefambggabRetCell
import Derived.Deep.RegionWith
namespace Go.Proofs.Ytiagpeefambggab
open Go.ChangeShapes Go.WideShapes Go.ChangeAt Go.RowKit
set_option linter.unusedVariables false
structure Plc where
  bk : Int
  vs : Int
def pcV (x : Plc) : Nat → Value
  | 0 => .int .i64 x.bk
  | _ => .int .i64 x.vs
/-- The cells of elements. -/
def pcF (PC : Nat → Plc) (i j : Nat) : Value := pcV (PC i) j
def pcZ : Plc := ⟨0, 0⟩
theorem Els.pcC {w : World} {b off n : Nat} {PC : Nat → Plc} (h : ∀ i, i < n → ∀ j, j < 2 → w.cell? ⟨b, off + i * 2 + j, none⟩ = some (pcF PC i j)) (k : Nat) (hk : k < n) : w.cell? ⟨b, off + k * 2, none⟩ = some (.int .i64 (PC k).bk) ∧ w.cell? ⟨b, off + k * 2 + 1, none⟩ = some (.int .i64 (PC k).vs) := ⟨h k hk 0 (by omega), h k hk 1 (by omega)⟩
theorem RowE.pcC {w : World} {a : Option Addr} {g n : Nat} {PC : Nat → Plc} (h : RowE w 2 a g n (pcF PC)) (k : Nat) (hk : k < n) : w.cell? ⟨g, k * 2, none⟩ = some (.int .i64 (PC k).bk) ∧ w.cell? ⟨g, k * 2 + 1, none⟩ = some (.int .i64 (PC k).vs) := ⟨h.c k hk 0 (by omega), h.c k hk 1 (by omega)⟩
theorem RowE.pcFr {w : World} {a : Option Addr} {g n : Nat} {F : Nat → Nat → Value} (h : RowE w 2 a g n F) (k : Nat) (hk : k < n) : w.frozen? ⟨g, k * 2, none⟩ = false ∧ w.frozen? ⟨g, k * 2 + 1, none⟩ = false := ⟨h.z _ (by omega), h.z _ (by omega)⟩
theorem RowE.pcPut {w : World} {a : Option Addr} {g n : Nat} {PC : Nat → Plc} (h : RowE w 2 a g n (pcF PC)) (k : Nat) (x : Plc) : RowE ((w.setCell ⟨g, k * 2, none⟩ (.int .i64 x.bk)).setCell ⟨g, k * 2 + 1, none⟩ (.int .i64 x.vs)) 2 a g n (pcF (fun i => if i = k then x else PC i)) := by
  refine (((h.set k 0 (by omega) (.int .i64 x.bk)).set k 1 (by omega) (.int .i64 x.vs)) : RowE _ _ _ _ _ _).congr (fun i hi j hj => ?_)
  unfold setF pcF
  by_cases e : i = k
  · subst e
    rcases (show j = 0 ∨ j = 1 by omega) with rfl | rfl <;> simp [pcV]
  · simp [e]
theorem Try.infoPlc : (Try.prog.info? 48).map (fun i => (i.zero, i.size, i.bytes)) = some (some (.agg #[.int .i64 0, .int .i64 0]), 2, 16) := by kernel_rfl
theorem mkPlc (n : Nat) (hn : n ≤ 1048576) (w : World) : (Instr.makeSlice 29 (.int .i64 n) (.int .i64 n)).run Try.prog w = .ok (.slice (some ⟨w.heap.size, 0, none⟩) n n) (w.alloc (.cells (madeCells #[.int .i64 0, .int .i64 0] (n * 2)) 48)) := by
  obtain ⟨i, hi, hzz⟩ := Option.map_eq_some_iff.1 Try.infoPlc
  simp only [Prod.mk.injEq] at hzz
  obtain ⟨hz, hs, hb⟩ := hzz
  have hr := run_make (P := Try.prog) w 29 48 i _ Try.underlying29 hi hz .i64 .i64 n n (by omega) (Int.le_refl _) (by rw [hb]; omega) (by omega)
  simp only [Int.toNat_natCast, hs] at hr
  exact hr
theorem RowE.pcMade (w : World) (n : Nat) : RowE (w.alloc (.cells (madeCells #[.int .i64 0, .int .i64 0] (n * 2)) 48)) 2 (some ⟨w.heap.size, 0, none⟩) w.heap.size n (pcF (fun _ => pcZ)) := RowE.made w 2 n _ _ rfl _ (fun i j hj => by
  rcases (show j = 0 ∨ j = 1 by omega) with rfl | rfl <;> rfl)
set_option maxRecDepth 100000 in
theorem toPlace_any (bk : Int) (vs : Int) (w : World) :
    Calls Try.prog 23 #[.agg #[.int .i64 bk, .int .i64 vs]] w fun e w' => e = .returned (.agg #[.int .i64 bk, .int .i64 vs]) ∧ Below w.heap.size w w' := by
  go_enter Try.func23, Try.ntmps23
  go_wp2
  refine ret_cell (b := w.heap.size + 1) (v := .agg #[.int .i64 bk, .int .i64 vs]) Try.results23 rfl (by go_simp) ⟨rfl, (((Below.refl w.heap.size w).alloc (Nat.le_refl _) _).alloc (by simp) _).alloc (by simp; omega) _⟩
set_option maxRecDepth 100000 in
set_option maxHeartbeats 1000000 in
theorem toPlaceS_any (a : Option Addr) (n c : Nat) (PC : Nat → Plc) (w : World) (h : Els w 2 a n (pcF PC)) (hn : n ≤ 1048576) :
    Calls Try.prog 17 #[.slice a n c] w fun e w' => e = .returned (.slice (some ⟨w.heap.size, 0, none⟩) n n) ∧ RowE w' 2 (some ⟨w.heap.size, 0, none⟩) w.heap.size n (pcF PC) ∧ w.heap.size < w'.heap.size ∧ Below w.heap.size w w' := by
  have m1 := mkPlc n hn
  have S0 : Hid (w.heap.size < (w.alloc (.cells (madeCells #[.int .i64 0, .int .i64 0] (n * 2)) 48)).heap.size) := by show _ < _; simp
  rcases Nat.eq_zero_or_pos n with rfl | hpos
  · have m0 : ∀ w : World, (Instr.makeSlice 29 (.int .i64 0) (.int .i64 0)).run Try.prog w = .ok (.slice (some ⟨w.heap.size, 0, none⟩) 0 0) (w.alloc (.cells (madeCells #[.int .i64 0, .int .i64 0] (0 * 2)) 48)) := mkPlc 0 (by omega)
    have B0 : Hid (Below w.heap.size w (w.alloc (.cells (madeCells #[.int .i64 0, .int .i64 0] (0 * 2)) 48))) := (Below.refl _ _).alloc (Nat.le_refl _) _
    clear m1
    go_enter Try.func17, Try.ntmps17
    go_wp2
    go_loopw [4] (fun i wr => i = .int .i64 0 ∧ wr = (w.alloc (.cells (madeCells #[.int .i64 0, .int .i64 0] (0 * 2)) 48))) (fun _ _ => 0)
    case atStart => exact ⟨rfl, rfl⟩
    case round =>
      obtain ⟨rfl, rfl⟩ := hrel
      go_wp2
      go_ret
      exact ⟨rfl, RowE.nil _ _ _ _ _, S0.out, B0.out⟩
  · obtain ⟨b, off, rfl, hc⟩ := h.opened hpos
    have HC : Hid (∀ i, i < n → ∀ j, j < 2 → w.cell? ⟨b, off + i * 2 + j, none⟩ = some (pcF PC i j)) := hc
    clear h hc
    go_enter Try.func17, Try.ntmps17
    go_wp2
    go_loopw [4] (fun i wr => ∃ k : Nat, k ≤ n ∧ i = .int .i64 k ∧ RowE wr 2 (some ⟨w.heap.size, 0, none⟩) w.heap.size n (pcF (fun j => if j < k then PC j else pcZ)) ∧ w.heap.size < wr.heap.size ∧ Below w.heap.size w wr) (fun i _ => n - (intOf i).toNat)
    case atStart => exact ⟨0, by omega, rfl, (RowE.pcMade w n).congr (fun i hi j hj => by simp [pcF]), S0.out, (Below.refl _ _).alloc (Nat.le_refl _) _⟩
    case round =>
      obtain ⟨k, hk, rfl, hrow, hsz, hb⟩ := hrel
      have HS : Hid (w.heap.size < wr.heap.size) := hsz
      clear hsz
      by_cases hlt : k < n
      · obtain ⟨c0, c1⟩ := Els.pcC HC.out k hlt
        have d0 : wr.cell? ⟨b, off + k * 2, none⟩ = some (.int .i64 (PC k).bk) := by rw [hb.cell (strBlock c0)]; exact c0
        have d1 : wr.cell? ⟨b, off + k * 2 + 1, none⟩ = some (.int .i64 (PC k).vs) := by rw [hb.cell (strBlock c1)]; exact c1
        have TP : Hid (∀ w : World, Calls Try.prog 23 #[.agg #[.int .i64 (PC k).bk, .int .i64 (PC k).vs]] w fun e w' => e = .returned (.agg #[.int .i64 (PC k).bk, .int .i64 (PC k).vs]) ∧ Below w.heap.size w w') := toPlace_any _ _
        have HR : Hid (RowE wr 2 (some ⟨w.heap.size, 0, none⟩) w.heap.size n (pcF (fun j => if j < k then PC j else pcZ))) := hrow
        have HB : Hid (Below w.heap.size w wr) := hb
        clear hrow hb c0 c1 m1
        go_wp2_with fail
        refine (TP.out _).mono ?_
        rintro e w1 ⟨rfl, hb⟩
        have R1 := HR.out.below (by omega) hb
        obtain ⟨g0, g1⟩ := R1.pcC k hlt
        obtain ⟨f0, f1⟩ := R1.pcFr k hlt
        have H1 : Hid (RowE w1 2 (some ⟨w.heap.size, 0, none⟩) w.heap.size n (pcF (fun j => if j < k then PC j else pcZ))) := R1
        have B1 : Hid (Below w.heap.size w w1) := HB.out.trans (hb.mono HB.out.size)
        replace HS : Hid (w.heap.size < w1.heap.size) := Nat.lt_of_lt_of_le HS.out hb.size
        generalize (if k < k then PC k else pcZ) = u at *
        clear R1 hb HR HB TP d0 d1
        go_wp2
        go_roundw
        case rel =>
          refine ⟨k + 1, by omega, by go_num, (H1.out.pcPut k (PC k)).congr (fun i hi j hj => ?_), by have := HS.out; simpa using this, ((B1.out.setCell (by simp) _).setCell (by simp) _)⟩
          unfold pcF
          congr 1
          by_cases e : i = k
          · subst e; simp
          · simp only [if_neg e]
            by_cases g : i < k
            · rw [if_pos g, if_pos (by omega)]
            · rw [if_neg g, if_neg (by omega)]
        case measure => simp [intOf]; omega
      · have HR : Hid (RowE wr 2 (some ⟨w.heap.size, 0, none⟩) w.heap.size n (pcF PC)) := hrow.congr (fun i hi j hj => by unfold pcF; dsimp only; rw [if_pos (by omega)])
        have HB : Hid (Below w.heap.size w wr) := hb
        clear hrow hb m1
        go_wp2
        go_ret
        exact ⟨rfl, HR.out, HS.out, HB.out⟩
set_option maxRecDepth 100000 in
theorem szPlaceS_any (a : Option Addr) (n c : Nat) (x : Int) (w : World) (hx0 : 0 ≤ x) (hx : x ≤ 1048576) (hn : n ≤ maxLen) :
    Calls Try.prog 13 #[.slice a n c, .int .i64 x] w fun e w' => (∃ y : Int, e = .returned (.int .i64 y) ∧ y ≤ 1048576 ∧ (0 ≤ y → n ≤ 1048576)) ∧ Below w.heap.size w w' := by
  unfold maxLen at hn
  have x2 : IntKind.i64.wrap (x - (n : Int)) = x - (n : Int) := IntWalk.i64_in _ (by omega)
  by_cases h0 : x - (n : Int) < 0
  · go_enter Try.func13, Try.ntmps13
    go_wp2
    go_ret
    exact ⟨⟨-1, rfl, by omega, by omega⟩, Below.refl _ _⟩
  · go_enter Try.func13, Try.ntmps13
    go_wp2
    go_ret
    exact ⟨⟨_, rfl, by omega, by omega⟩, Below.refl _ _⟩
set_option maxRecDepth 100000 in
theorem eqPlace_yes (bk : Int) (vs : Int) (w : World) :
    Calls Try.prog 27 #[.agg #[.int .i64 bk, .int .i64 vs], .agg #[.int .i64 bk, .int .i64 vs]] w fun e w' => e = .returned (.bool true) ∧ Below w.heap.size w w' := by
  have e0 : (bk != bk) = false := by simp
  have e1 : (vs != vs) = false := by simp
  go_enter Try.func27, Try.ntmps27
  go_wp2
  go_ret
  exact ⟨rfl, ((Below.refl w.heap.size w).alloc (Nat.le_refl _) _).alloc (by simp) _⟩
set_option maxRecDepth 100000 in
set_option maxHeartbeats 1000000 in
theorem eqPlaceS_yes (a b : Option Addr) (n c d : Nat) (PC : Nat → Plc) (w : World) (h : Els w 2 a n (pcF PC)) (h' : Els w 2 b n (pcF PC)) (hn : n ≤ 1048576) :
    Calls Try.prog 20 #[.slice a n c, .slice b n d] w fun e w' => e = .returned (.bool true) ∧ Below w.heap.size w w' := by
  have HA : Hid (Els w 2 a n (pcF PC)) := h
  have HA' : Hid (Els w 2 b n (pcF PC)) := h'
  have hne : ((n : Int) != (n : Int)) = false := by simp
  clear h h'
  go_enter Try.func20, Try.ntmps20
  go_wp2
  go_loopw [5] (fun i wr => ∃ k : Nat, k ≤ n ∧ i = .int .i64 k ∧ Below w.heap.size w wr) (fun i _ => n - (intOf i).toNat)
  case atStart => exact ⟨0, by omega, rfl, Below.refl _ _⟩
  case round =>
    obtain ⟨k, hk, rfl, hb⟩ := hrel
    have HB : Hid (Below w.heap.size w wr) := hb
    by_cases hlt : k < n
    · obtain ⟨b1, o1, rfl, hc⟩ := (HA.out.below hb).opened (by omega)
      obtain ⟨b2, o2, rfl, hc'⟩ := (HA'.out.below hb).opened (by omega)
      obtain ⟨c0, c1⟩ := Els.pcC hc k hlt
      obtain ⟨d0, d1⟩ := Els.pcC hc' k hlt
      have hlt' : (k : Int) < (n : Int) := by omega
      have EP : Hid (∀ w : World, Calls Try.prog 27 #[.agg #[.int .i64 (PC k).bk, .int .i64 (PC k).vs], .agg #[.int .i64 (PC k).bk, .int .i64 (PC k).vs]] w fun e w' => e = .returned (.bool true) ∧ Below w.heap.size w w') := eqPlace_yes _ _
      generalize PC k = y at *
      clear hc hc' hb
      go_wp2_with fail
      go_region_with (go_at_call 27; refine (EP.out _).mono ?_; rintro e w' ⟨rfl, hb⟩)
      all_goals
        have B1 : Hid (Below w.heap.size w w') := HB.out.drew.trans (hb.mono HB.out.size)
        clear hb HB EP c0 d0 c1 d1
        dsimp only [Act.put]
        go_wp2
        go_roundw
        case rel => exact ⟨k + 1, by omega, by go_num, B1.out⟩
        case measure => simp [intOf]; omega
    · go_wp2
      go_ret
      exact ⟨rfl, HB.out⟩
/-- What is marked from k on. -/
def pcM (k : Nat) (i : Nat) : Plc := ⟨((k + 2 * i : Nat) : Int), ((k + 2 * i + 1 : Nat) : Int)⟩
set_option maxRecDepth 100000 in
set_option maxHeartbeats 2000000 in
theorem markPlaceK (a : Option Addr) (g n c k : Nat) (PC : Nat → Plc) (hk : 1 ≤ k) (hn : k + 2 * n ≤ 10000000) (w : World) (h : RowE w 2 a g n (pcF PC)) :
    Calls Try.prog 21 #[.slice a n c, .int .i64 (k : Int)] w fun e w' => e = .returned (.int .i64 ((k + 2 * n : Nat) : Int)) ∧ RowE w' 2 a g n (pcF (pcM k)) ∧ TurnedE g n w w' := by
  have H : Hid (RowE w 2 a g n (pcF PC)) := h
  clear h
  go_enter Try.func21, Try.ntmps21
  go_wp2
  go_loopw [1, 5] (fun kv i wr => ∃ q : Nat, q ≤ n ∧ i = .int .i64 q ∧ kv = .int .i64 ((k + 2 * q : Nat) : Int) ∧ RowE wr 2 a g n (pcF (fun i => if i < q then pcM k i else PC i)) ∧ TurnedE g n w wr) (fun _ i _ => n - (intOf i).toNat)
  case atStart => exact ⟨0, by omega, rfl, rfl, H.out.congr (fun i hi j hj => by unfold pcF; dsimp only; rw [if_neg (by omega)]), TurnedE.refl _ _ _⟩
  case round =>
    obtain ⟨q, hq, rfl, rfl, hrow, ho⟩ := hrel
    by_cases hlt : q < n
    · obtain ⟨m, hm⟩ : ∃ m, m = k + 2 * q := ⟨_, rfl⟩
      rw [← hm]
      have hlt' : (q : Int) < (n : Int) := by omega
      obtain rfl := hrow.a (by omega)
      obtain ⟨c0, c1⟩ := hrow.pcC q hlt
      obtain ⟨f0, f1⟩ := hrow.pcFr q hlt
      rw [if_neg (show ¬ q < q by omega)] at c0 c1
      have HRW : Hid (RowE wr 2 (some ⟨g, 0, none⟩) g n (pcF (fun i => if i < q then pcM k i else PC i))) := hrow
      have HO : Hid (OnlyB g w wr) := ho.1
      have HM : Hid (m = k + 2 * q) := hm
      have m1 : (m : Int) ≤ 10000000 := by omega
      have m0 : (0 : Int) ≤ (m : Int) := by omega
      clear hrow ho hm
      go_wp2
      go_roundw
      case rel =>
        have := HM.out
        refine ⟨q + 1, by omega, by go_num, numEqS (by omega), ((HRW.out.set q 0 (by omega) _).set q 1 (by omega) _).congr (fun i hi j hj => ?_), ((HO.out.setCell (q * 2) _).setCell (q * 2 + 1) _), fun z => absurd z (by omega)⟩
        unfold setF pcF
        by_cases e : i = q
        · subst e
          dsimp only
          rw [if_pos (show i < i + 1 by omega)]
          rcases (show j = 0 ∨ j = 1 by omega) with rfl | rfl <;> simp [pcV, pcM] <;> first | omega | (rw [← this]; assumption) | (rw [← this]; exact (by assumption : _ = _).symm) | (subst this; simp_all)
        · simp only [e, false_and, if_false]
          congr 1
          by_cases g : i < q
          · rw [if_pos g, if_pos (by omega)]
          · rw [if_neg g, if_neg (by omega)]
      case measure => simp [intOf]; omega
    · obtain rfl : q = n := by omega
      have HF : Hid (RowE wr 2 a g q (pcF (pcM k))) := hrow.congr (fun i hi j hj => by unfold pcF; dsimp only; rw [if_pos hi])
      have HO : Hid (TurnedE g q w wr) := ho
      clear hrow ho
      go_wp2
      go_ret
      exact ⟨rfl, HF.out, HO.out⟩
end Go.Proofs.Ytiagpeefambggab
