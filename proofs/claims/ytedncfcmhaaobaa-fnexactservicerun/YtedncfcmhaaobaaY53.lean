/-
  Texts of the proof, joined: QuActS, OpenQs.
-/
import Derived.Test.YtedncfcmhaaobaaY02
import Derived.Test.YtedncfcmhaaobaaY09
import Derived.Deep.RegionWith
import Derived.ProofKit
import Derived.OpenShut
import Derived.ShutString
import Derived.ChangeOld
import Derived.Deep.Grids
import Derived.Deep.SlicePairs
namespace Go.Proofs.Ytedncfcmhaaobaa
open Go.ChangeShapes Go.WideShapes Go.ChangeAt Go.RowKit
set_option linter.unusedVariables false
structure Qx where
 k : Int
 r : Int
 n : Int
def qxV (x : Qx) : Nat → Value
 | 0 => .int .i64 x.k
 | 1 => .int .i64 x.r
 | _ => .int .i64 x.n
def qxF (QX : Nat → Qx) (i j : Nat) : Value := qxV (QX i) j
def qxZ : Qx := ⟨0, 0, 0⟩
theorem Els.qxC {w : World} {b off n : Nat} {QX : Nat → Qx} (h : ∀ i, i < n → ∀ j, j < 3 → w.cell? ⟨b, off + i * 3 + j, none⟩ = some (qxF QX i j)) (k : Nat) (hk : k < n) : w.cell? ⟨b, off + k * 3, none⟩ = some (.int .i64 (QX k).k) ∧ w.cell? ⟨b, off + k * 3 + 1, none⟩ = some (.int .i64 (QX k).r) ∧ w.cell? ⟨b, off + k * 3 + 2, none⟩ = some (.int .i64 (QX k).n) := ⟨h k hk 0 (by omega), h k hk 1 (by omega), h k hk 2 (by omega)⟩
theorem RowE.qxC {w : World} {a : Option Addr} {g n : Nat} {QX : Nat → Qx} (h : RowE w 3 a g n (qxF QX)) (k : Nat) (hk : k < n) : w.cell? ⟨g, k * 3, none⟩ = some (.int .i64 (QX k).k) ∧ w.cell? ⟨g, k * 3 + 1, none⟩ = some (.int .i64 (QX k).r) ∧ w.cell? ⟨g, k * 3 + 2, none⟩ = some (.int .i64 (QX k).n) := ⟨h.c k hk 0 (by omega), h.c k hk 1 (by omega), h.c k hk 2 (by omega)⟩
theorem RowE.qxFr {w : World} {a : Option Addr} {g n : Nat} {F : Nat → Nat → Value} (h : RowE w 3 a g n F) (k : Nat) (hk : k < n) : w.frozen? ⟨g, k * 3, none⟩ = false ∧ w.frozen? ⟨g, k * 3 + 1, none⟩ = false ∧ w.frozen? ⟨g, k * 3 + 2, none⟩ = false := ⟨h.z _ (by omega), h.z _ (by omega), h.z _ (by omega)⟩
theorem RowE.qxPut {w : World} {a : Option Addr} {g n : Nat} {QX : Nat → Qx} (h : RowE w 3 a g n (qxF QX)) (k : Nat) (x : Qx) : RowE (((w.setCell ⟨g, k * 3, none⟩ (.int .i64 x.k)).setCell ⟨g, k * 3 + 1, none⟩ (.int .i64 x.r)).setCell ⟨g, k * 3 + 2, none⟩ (.int .i64 x.n)) 3 a g n (qxF (fun i => if i = k then x else QX i)) := by
 refine ((((h.set k 0 (by omega) (.int .i64 x.k)).set k 1 (by omega) (.int .i64 x.r)).set k 2 (by omega) (.int .i64 x.n)) : RowE _ _ _ _ _ _).congr (fun i hi j hj => ?_)
 unfold setF qxF
 by_cases e : i = k
 ·subst e
  rcases (show j = 0 ∨ j = 1 ∨ j = 2 by omega) with rfl | rfl | rfl <;> simp [qxV]
 ·simp [e]
theorem Try.infoQx : (Try.prog.info? 41).map (fun i => (i.zero, i.size, i.bytes)) = some (some (.agg #[.int .i64 0, .int .i64 0, .int .i64 0]), 3, 24) := by kernel_rfl
theorem mkQx (n : Nat) (hn : n ≤ 1048576) (w : World) : (Instr.makeSlice 32 (.int .i64 n) (.int .i64 n)).run Try.prog w = .ok (.slice (some ⟨w.heap.size, 0, none⟩) n n) (w.alloc (.cells (madeCells #[.int .i64 0, .int .i64 0, .int .i64 0] (n * 3)) 41)) := by
 obtain ⟨i, hi, hzz⟩ := Option.map_eq_some_iff.1 Try.infoQx
 simp only [Prod.mk.injEq] at hzz
 obtain ⟨hz, hs, hb⟩ := hzz
 have hr := run_make (P := Try.prog) w 32 41 i _ Try.underlying32 hi hz .i64 .i64 n n (by omega) (Int.le_refl _) (by rw [hb]; omega) (by omega)
 simp only [Int.toNat_natCast, hs] at hr
 exact hr
theorem RowE.qxMade (w : World) (n : Nat) : RowE (w.alloc (.cells (madeCells #[.int .i64 0, .int .i64 0, .int .i64 0] (n * 3)) 41)) 3 (some ⟨w.heap.size, 0, none⟩) w.heap.size n (qxF (fun _ => qxZ)) := RowE.made w 3 n _ _ rfl _ (fun i j hj => by
 rcases (show j = 0 ∨ j = 1 ∨ j = 2 by omega) with rfl | rfl | rfl <;> rfl)
set_option maxRecDepth 100000 in
theorem toQuAct_any (k : Int) (r : Int) (n : Int) (w : World) :
  Calls Try.prog 13 #[.agg #[.int .i64 k, .int .i64 r, .int .i64 n]] w fun e w' => e = .returned (.agg #[.int .i64 k, .int .i64 r, .int .i64 n]) ∧ Below w.heap.size w w' := by
 go_enter Try.func13, Try.ntmps13
 go_wp2
 refine ret_cell (b := w.heap.size + 1) (v := .agg #[.int .i64 k, .int .i64 r, .int .i64 n]) Try.results13 rfl (by go_simp) ⟨rfl, (((Below.refl w.heap.size w).alloc (Nat.le_refl _) _).alloc (by simp) _).alloc (by simp; omega) _⟩
set_option maxRecDepth 100000 in
set_option maxHeartbeats 1000000 in
theorem toQuActS_any (a : Option Addr) (n c : Nat) (QX : Nat → Qx) (w : World) (h : Els w 3 a n (qxF QX)) (hn : n ≤ 1048576) :
  Calls Try.prog 19 #[.slice a n c] w fun e w' => e = .returned (.slice (some ⟨w.heap.size, 0, none⟩) n n) ∧ RowE w' 3 (some ⟨w.heap.size, 0, none⟩) w.heap.size n (qxF QX) ∧ w.heap.size < w'.heap.size ∧ Below w.heap.size w w' := by
 have m1 := mkQx n hn
 have S0 : Hid (w.heap.size < (w.alloc (.cells (madeCells #[.int .i64 0, .int .i64 0, .int .i64 0] (n * 3)) 41)).heap.size) := by show _ < _; simp
 rcases Nat.eq_zero_or_pos n with rfl | hpos
 ·have m0 : ∀ w : World, (Instr.makeSlice 32 (.int .i64 0) (.int .i64 0)).run Try.prog w = .ok (.slice (some ⟨w.heap.size, 0, none⟩) 0 0) (w.alloc (.cells (madeCells #[.int .i64 0, .int .i64 0, .int .i64 0] (0 * 3)) 41)) := mkQx 0 (by omega)
  have B0 : Hid (Below w.heap.size w (w.alloc (.cells (madeCells #[.int .i64 0, .int .i64 0, .int .i64 0] (0 * 3)) 41))) := (Below.refl _ _).alloc (Nat.le_refl _) _
  clear m1
  go_enter Try.func19, Try.ntmps19
  go_wp2
  go_loopw [4] (fun i wr => i = .int .i64 0 ∧ wr = (w.alloc (.cells (madeCells #[.int .i64 0, .int .i64 0, .int .i64 0] (0 * 3)) 41))) (fun _ _ => 0)
  case atStart => exact ⟨rfl, rfl⟩
  case round =>
   obtain ⟨rfl, rfl⟩ := hrel
   go_wp2
   go_ret
   exact ⟨rfl, RowE.nil _ _ _ _ _, S0.out, B0.out⟩
 ·obtain ⟨b, off, rfl, hc⟩ := h.opened hpos
  have HC : Hid (∀ i, i < n → ∀ j, j < 3 → w.cell? ⟨b, off + i * 3 + j, none⟩ = some (qxF QX i j)) := hc
  clear h hc
  go_enter Try.func19, Try.ntmps19
  go_wp2
  go_loopw [4] (fun i wr => ∃ k : Nat, k ≤ n ∧ i = .int .i64 k ∧ RowE wr 3 (some ⟨w.heap.size, 0, none⟩) w.heap.size n (qxF (fun j => if j < k then QX j else qxZ)) ∧ w.heap.size < wr.heap.size ∧ Below w.heap.size w wr) (fun i _ => n - (intOf i).toNat)
  case atStart => exact ⟨0, by omega, rfl, (RowE.qxMade w n).congr (fun i hi j hj => by simp [qxF]), S0.out, (Below.refl _ _).alloc (Nat.le_refl _) _⟩
  case round =>
   obtain ⟨k, hk, rfl, hrow, hsz, hb⟩ := hrel
   have HS : Hid (w.heap.size < wr.heap.size) := hsz
   clear hsz
   by_cases hlt : k < n
   ·obtain ⟨c0, c1, c2⟩ := Els.qxC HC.out k hlt
    have d0 : wr.cell? ⟨b, off + k * 3, none⟩ = some (.int .i64 (QX k).k) := by rw [hb.cell (strBlock c0)]; exact c0
    have d1 : wr.cell? ⟨b, off + k * 3 + 1, none⟩ = some (.int .i64 (QX k).r) := by rw [hb.cell (strBlock c1)]; exact c1
    have d2 : wr.cell? ⟨b, off + k * 3 + 2, none⟩ = some (.int .i64 (QX k).n) := by rw [hb.cell (strBlock c2)]; exact c2
    have TP : Hid (∀ w : World, Calls Try.prog 13 #[.agg #[.int .i64 (QX k).k, .int .i64 (QX k).r, .int .i64 (QX k).n]] w fun e w' => e = .returned (.agg #[.int .i64 (QX k).k, .int .i64 (QX k).r, .int .i64 (QX k).n]) ∧ Below w.heap.size w w') := toQuAct_any _ _ _
    have HR : Hid (RowE wr 3 (some ⟨w.heap.size, 0, none⟩) w.heap.size n (qxF (fun j => if j < k then QX j else qxZ))) := hrow
    have HB : Hid (Below w.heap.size w wr) := hb
    clear hrow hb c0 c1 c2 m1
    go_wp2_with fail
    refine (TP.out _).mono ?_
    rintro e w1 ⟨rfl, hb⟩
    have R1 := HR.out.below (by omega) hb
    obtain ⟨g0, g1, g2⟩ := R1.qxC k hlt
    obtain ⟨f0, f1, f2⟩ := R1.qxFr k hlt
    have H1 : Hid (RowE w1 3 (some ⟨w.heap.size, 0, none⟩) w.heap.size n (qxF (fun j => if j < k then QX j else qxZ))) := R1
    have B1 : Hid (Below w.heap.size w w1) := HB.out.trans (hb.mono HB.out.size)
    replace HS : Hid (w.heap.size < w1.heap.size) := Nat.lt_of_lt_of_le HS.out hb.size
    generalize (if k < k then QX k else qxZ) = u at *
    clear R1 hb HR HB TP d0 d1 d2
    go_wp2
    go_roundw
    case rel =>
     refine ⟨k + 1, by omega, by go_num, (H1.out.qxPut k (QX k)).congr (fun i hi j hj => ?_), by have := HS.out; simpa using this, (((B1.out.setCell (by simp) _).setCell (by simp) _).setCell (by simp) _)⟩
     unfold qxF
     congr 1
     by_cases e : i = k
     ·subst e; simp
     ·simp only [if_neg e]
      by_cases g : i < k
      ·rw [if_pos g, if_pos (by omega)]
      ·rw [if_neg g, if_neg (by omega)]
    case measure => simp [intOf]; omega
   ·have HR : Hid (RowE wr 3 (some ⟨w.heap.size, 0, none⟩) w.heap.size n (qxF QX)) := hrow.congr (fun i hi j hj => by unfold qxF; dsimp only; rw [if_pos (by omega)])
    have HB : Hid (Below w.heap.size w wr) := hb
    clear hrow hb m1
    go_wp2
    go_ret
    exact ⟨rfl, HR.out, HS.out, HB.out⟩
set_option maxRecDepth 100000 in
theorem szQuActS_any (a : Option Addr) (n c : Nat) (x : Int) (w : World) (hx0 : 0 ≤ x) (hx : x ≤ 1048576) (hn : n ≤ maxLen) :
  Calls Try.prog 17 #[.slice a n c, .int .i64 x] w fun e w' => (∃ y : Int, e = .returned (.int .i64 y) ∧ y ≤ 1048576 ∧ (0 ≤ y → n ≤ 1048576)) ∧ Below w.heap.size w w' := by
 unfold maxLen at hn
 have x2 : IntKind.i64.wrap (x - (n : Int)) = x - (n : Int) := IntWalk.i64_in _ (by omega)
 by_cases h0 : x - (n : Int) < 0
 ·go_enter Try.func17, Try.ntmps17
  go_wp2
  go_ret
  exact ⟨⟨-1, rfl, by omega, by omega⟩, Below.refl _ _⟩
 ·go_enter Try.func17, Try.ntmps17
  go_wp2
  go_ret
  exact ⟨⟨_, rfl, by omega, by omega⟩, Below.refl _ _⟩
set_option maxRecDepth 100000 in
theorem eqQuAct_yes (k : Int) (r : Int) (n : Int) (w : World) :
  Calls Try.prog 50 #[.agg #[.int .i64 k, .int .i64 r, .int .i64 n], .agg #[.int .i64 k, .int .i64 r, .int .i64 n]] w fun e w' => e = .returned (.bool true) ∧ Below w.heap.size w w' := by
 have e0 : (k != k) = false := by simp
 have e1 : (r != r) = false := by simp
 have e2 : (n != n) = false := by simp
 go_enter Try.func50, Try.ntmps50
 go_wp2
 go_ret
 exact ⟨rfl, ((Below.refl w.heap.size w).alloc (Nat.le_refl _) _).alloc (by simp) _⟩
set_option maxRecDepth 100000 in
set_option maxHeartbeats 1000000 in
theorem eqQuActS_yes (a b : Option Addr) (n c d : Nat) (QX : Nat → Qx) (w : World) (h : Els w 3 a n (qxF QX)) (h' : Els w 3 b n (qxF QX)) (hn : n ≤ 1048576) :
  Calls Try.prog 21 #[.slice a n c, .slice b n d] w fun e w' => e = .returned (.bool true) ∧ Below w.heap.size w w' := by
 have HA : Hid (Els w 3 a n (qxF QX)) := h
 have HA' : Hid (Els w 3 b n (qxF QX)) := h'
 have hne : ((n : Int) != (n : Int)) = false := by simp
 clear h h'
 go_enter Try.func21, Try.ntmps21
 go_wp2
 go_loopw [5] (fun i wr => ∃ k : Nat, k ≤ n ∧ i = .int .i64 k ∧ Below w.heap.size w wr) (fun i _ => n - (intOf i).toNat)
 case atStart => exact ⟨0, by omega, rfl, Below.refl _ _⟩
 case round =>
  obtain ⟨k, hk, rfl, hb⟩ := hrel
  have HB : Hid (Below w.heap.size w wr) := hb
  by_cases hlt : k < n
  ·obtain ⟨b1, o1, rfl, hc⟩ := (HA.out.below hb).opened (by omega)
   obtain ⟨b2, o2, rfl, hc'⟩ := (HA'.out.below hb).opened (by omega)
   obtain ⟨c0, c1, c2⟩ := Els.qxC hc k hlt
   obtain ⟨d0, d1, d2⟩ := Els.qxC hc' k hlt
   have hlt' : (k : Int) < (n : Int) := by omega
   have EP : Hid (∀ w : World, Calls Try.prog 50 #[.agg #[.int .i64 (QX k).k, .int .i64 (QX k).r, .int .i64 (QX k).n], .agg #[.int .i64 (QX k).k, .int .i64 (QX k).r, .int .i64 (QX k).n]] w fun e w' => e = .returned (.bool true) ∧ Below w.heap.size w w') := eqQuAct_yes _ _ _
   generalize QX k = y at *
   clear hc hc' hb
   go_wp2_with fail
   go_region_with (go_at_call 50; refine (EP.out _).mono ?_; rintro e w' ⟨rfl, hb⟩)
   all_goals
    have B1 : Hid (Below w.heap.size w w') := HB.out.drew.trans (hb.mono HB.out.size)
    clear hb HB EP c0 d0 c1 d1 c2 d2
    dsimp only [Act.put]
    go_wp2
    go_roundw
    case rel => exact ⟨k + 1, by omega, by go_num, B1.out⟩
    case measure => simp [intOf]; omega
  ·go_wp2
   go_ret
   exact ⟨rfl, HB.out⟩
def qxM (k : Nat) (i : Nat) : Qx := ⟨((k + 3 * i : Nat) : Int), ((k + 3 * i + 1 : Nat) : Int), ((k + 3 * i + 2 : Nat) : Int)⟩
set_option maxRecDepth 100000 in
set_option maxHeartbeats 2000000 in
theorem markQuActK (a : Option Addr) (g n c k : Nat) (QX : Nat → Qx) (hk : 1 ≤ k) (hn : k + 3 * n ≤ 10000000) (w : World) (h : RowE w 3 a g n (qxF QX)) :
  Calls Try.prog 22 #[.slice a n c, .int .i64 (k : Int)] w fun e w' => e = .returned (.int .i64 ((k + 3 * n : Nat) : Int)) ∧ RowE w' 3 a g n (qxF (qxM k)) ∧ TurnedE g n w w' := by
 have H : Hid (RowE w 3 a g n (qxF QX)) := h
 clear h
 go_enter Try.func22, Try.ntmps22
 go_wp2
 go_loopw [1, 5] (fun kv i wr => ∃ q : Nat, q ≤ n ∧ i = .int .i64 q ∧ kv = .int .i64 ((k + 3 * q : Nat) : Int) ∧ RowE wr 3 a g n (qxF (fun i => if i < q then qxM k i else QX i)) ∧ TurnedE g n w wr) (fun _ i _ => n - (intOf i).toNat)
 case atStart => exact ⟨0, by omega, rfl, rfl, H.out.congr (fun i hi j hj => by unfold qxF; dsimp only; rw [if_neg (by omega)]), TurnedE.refl _ _ _⟩
 case round =>
  obtain ⟨q, hq, rfl, rfl, hrow, ho⟩ := hrel
  by_cases hlt : q < n
  ·obtain ⟨m, hm⟩ : ∃ m, m = k + 3 * q := ⟨_, rfl⟩
   rw [← hm]
   have hlt' : (q : Int) < (n : Int) := by omega
   obtain rfl := hrow.a (by omega)
   obtain ⟨c0, c1, c2⟩ := hrow.qxC q hlt
   obtain ⟨f0, f1, f2⟩ := hrow.qxFr q hlt
   rw [if_neg (show ¬ q < q by omega)] at c0 c1 c2
   have HRW : Hid (RowE wr 3 (some ⟨g, 0, none⟩) g n (qxF (fun i => if i < q then qxM k i else QX i))) := hrow
   have HO : Hid (OnlyB g w wr) := ho.1
   have HM : Hid (m = k + 3 * q) := hm
   have m1 : (m : Int) ≤ 10000000 := by omega
   have m0 : (0 : Int) ≤ (m : Int) := by omega
   clear hrow ho hm
   go_wp2
   go_roundw
   case rel =>
    have := HM.out
    refine ⟨q + 1, by omega, by go_num, numEqS (by omega), (((HRW.out.set q 0 (by omega) _).set q 1 (by omega) _).set q 2 (by omega) _).congr (fun i hi j hj => ?_), (((HO.out.setCell (q * 3) _).setCell (q * 3 + 1) _).setCell (q * 3 + 2) _), fun z => absurd z (by omega)⟩
    unfold setF qxF
    by_cases e : i = q
    ·subst e
     dsimp only
     rw [if_pos (show i < i + 1 by omega)]
     rcases (show j = 0 ∨ j = 1 ∨ j = 2 by omega) with rfl | rfl | rfl <;> simp [qxV, qxM] <;> first | omega | (rw [← this]; assumption) | (rw [← this]; exact (by assumption : _ = _).symm) | (subst this; simp_all)
    ·simp only [e, false_and, if_false]
     congr 1
     by_cases g : i < q
     ·rw [if_pos g, if_pos (by omega)]
     ·rw [if_neg g, if_neg (by omega)]
   case measure => simp [intOf]; omega
  ·obtain rfl : q = n := by omega
   have HF : Hid (RowE wr 3 a g q (qxF (qxM k))) := hrow.congr (fun i hi j hj => by unfold qxF; dsimp only; rw [if_pos hi])
   have HO : Hid (TurnedE g q w wr) := ho
   clear hrow ho
   go_wp2
   go_ret
   exact ⟨rfl, HF.out, HO.out⟩
end Go.Proofs.Ytedncfcmhaaobaa
namespace Go.Proofs.Ytedncfcmhaaobaa
open Go.ChangeShapes Go.WideShapes Go.ChangeAt Go.RowKit
set_option linter.unusedVariables false
set_option maxRecDepth 100000 in
theorem qx_came {H : Type} {enc : TypeId × Value → H} {W : World} {fuel : Nat} {x : Value} {y : DataW H × List MemPlace} (h : DataW.trod enc Try.prog W 0 (fun _ => true) true fuel 57 [x] = some y) :
  ∃ (a : Option Addr) (n c : Nat) (QX : Nat → Qx), x = .slice a n c ∧ Els W 3 a n (qxF QX) ∧ n ≤ maxLen := by
 rcases Deep.open_slice Try.underlying57 h with ⟨hcs, _⟩ | ⟨a, len, cap, m, n, D, Pl, hcs, _, hl, hm, hmm, _, hx⟩
 ·cases hcs
  exact ⟨none, 0, 0, fun _ => qxZ, rfl, fun i hi => absurd hi (by omega), Nat.zero_le _⟩
 ·cases hcs
  have hmm' : m = cap := by simpa using hmm
  have ce : Try.prog.cellsOf 50 = 3 := by kernel_rfl
  have cI : Try.prog.cellsOf 3 = 1 := by kernel_rfl
  have each : ∀ i, i < len → ∃ r : Qx, ∀ j, j < 3 → W.cell? (a.add (i * 3 + j)) = some (qxV r j) := fun i hi => by
   obtain ⟨cs', h1, h2⟩ := hx i (by omega)
   rw [ce] at h1
   obtain ⟨_, hlen, hcell⟩ := World.cells?_some h1
   obtain ⟨xs, k, hk, hxy, _, hxl, hf⟩ := DataW.trod_struct Try.underlying50 h2
   match xs, hxl, cs', hlen with
   | [y0, y1, y2], _, [v0, v1, v2], _ =>
    have g0 := hf 0 _ rfl
    have g1 := hf 1 _ rfl
    have g2 := hf 2 _ rfl
    simp [cI] at g0
    simp [cI] at g1
    simp [cI] at g2
    obtain ⟨x0, q0, _⟩ := DataW.trod_int Try.underlying3 g0
    obtain rfl := (List.cons.inj q0).1
    obtain ⟨x1, q1, _⟩ := DataW.trod_int Try.underlying3 g1
    obtain rfl := (List.cons.inj q1).1
    obtain ⟨x2, q2, _⟩ := DataW.trod_int Try.underlying3 g2
    obtain rfl := (List.cons.inj q2).1
    refine ⟨⟨x0, x1, x2⟩, fun j hj => ?_⟩
    have e := hcell j (by simpa using hj)
    rw [Deep.add_add] at e
    rw [e]
    rcases (show j = 0 ∨ j = 1 ∨ j = 2 by omega) with rfl | rfl | rfl <;> rfl
  have : Inhabited Qx := ⟨qxZ⟩
  obtain ⟨QX, hR⟩ := Deep.choose_lt each
  refine ⟨some a, len, cap, QX, rfl, fun i hi => ?_, Nat.le_trans hl hm⟩
  obtain ⟨b, off, spot⟩ := a
  have hspot : spot = none := by simpa [Addr.add] using World.cell?_spot (hR 0 (by omega) 0 (by omega))
  subst hspot
  refine ⟨b, off, rfl, fun j hj => ?_⟩
  have e := hR i hi j hj
  rw [Go.WideShapes.add_plain] at e
  rw [Nat.add_assoc]
  exact e
end Go.Proofs.Ytedncfcmhaaobaa
