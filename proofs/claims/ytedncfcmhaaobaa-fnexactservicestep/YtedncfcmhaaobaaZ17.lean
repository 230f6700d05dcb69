/-
  Texts of the proof, joined: SvcI.
-/
import Derived.Test.YtedncfcmhaaobaaZ16
namespace Go.Proofs.Ytedncfcmhaaobaa
open Go.ChangeShapes Go.WideShapes Go.ChangeAt Go.RowKit
set_option linter.unusedVariables false
theorem Try.infRp : (Try.prog.info? 43).map (fun i => (i.zero, i.size, i.bytes)) = some (some (.agg #[.bool false, .int .i64 0, .int .i64 0, .int .i64 0, .int .i64 0, .slice none 0 0, .int .i64 0, .int .i64 0]), 8, 80) := by kernel_rfl
theorem makRp (n : Nat) (hn : n ≤ 1048576) (w : World) : (Instr.makeSlice 24 (.int .i64 n) (.int .i64 n)).run Try.prog w = .ok (.slice (some ⟨w.heap.size, 0, none⟩) n n) (w.alloc (.cells (madeCells #[.bool false, .int .i64 0, .int .i64 0, .int .i64 0, .int .i64 0, .slice none 0 0, .int .i64 0, .int .i64 0] (n * 8)) 43)) := by
 obtain ⟨i, hi, hzz⟩ := Option.map_eq_some_iff.1 Try.infRp
 simp only [Prod.mk.injEq] at hzz
 obtain ⟨hz, hs, hb⟩ := hzz
 have hr := run_make (P := Try.prog) w 24 43 i _ Try.underlying24 hi hz .i64 .i64 n n (by omega) (Int.le_refl _) (by rw [hb]; omega) (by omega)
 simp only [Int.toNat_natCast, hs] at hr
 exact hr
theorem RowE.rpMad (w : World) (n : Nat) : RowE (w.alloc (.cells (madeCells #[.bool false, .int .i64 0, .int .i64 0, .int .i64 0, .int .i64 0, .slice none 0 0, .int .i64 0, .int .i64 0] (n * 8)) 43)) 8 (some ⟨w.heap.size, 0, none⟩) w.heap.size n (rpF (fun _ => rpZ) (fun _ => .slice none 0 0)) := RowE.made w 8 n _ _ rfl _ (fun i j hj => by
 rcases (show j = 0 ∨ j = 1 ∨ j = 2 ∨ j = 3 ∨ j = 4 ∨ j = 5 ∨ j = 6 ∨ j = 7 by omega) with rfl | rfl | rfl | rfl | rfl | rfl | rfl | rfl <;> rfl)
set_option maxRecDepth 100000 in
set_option maxHeartbeats 4000000 in
theorem toReplicaS_any (a : Option Addr) (n c : Nat) (R : Nat → Rp) (A : Nat → Option Addr) (X : Nat → Nat) (hn : n ≤ 1048576) (he : ∀ i, i < n → (R i).ne ≤ 1048576) (w : World) (h : RpV w a n R A X) :
  Calls Try.prog 37 #[.slice a n c] w fun e w' => (∃ V : Nat → Nat, e = .returned (.slice (some ⟨w.heap.size, 0, none⟩) n n) ∧ RowE w' 8 (some ⟨w.heap.size, 0, none⟩) w.heap.size n (rpF R (fun j => .slice (some ⟨V j, 0, none⟩) (R j).ne (R j).ne)) ∧ (∀ j, j < n → w.heap.size < V j ∧ w'.rowIs (V j) 3 (R j).ne (fun i => .int .i64 ((R j).E i))) ∧ w.heap.size < w'.heap.size) ∧ Below w.heap.size w w' := by
 have m1 := makRp n hn w
 have S0 : Hid (w.heap.size < (w.alloc (.cells (madeCells #[.bool false, .int .i64 0, .int .i64 0, .int .i64 0, .int .i64 0, .slice none 0 0, .int .i64 0, .int .i64 0] (n * 8)) 43)).heap.size) := by show _ < _; simp
 have HA : Hid (RpV w a n R A X) := h
 have HE : Hid (∀ i, i < n → (R i).ne ≤ 1048576) := he
 clear h he
 go_enter Try.func37, Try.ntmps37
 go_wp2
 clear m1
 go_loopw [4] (fun i wr => ∃ (k : Nat) (V : Nat → Nat), k ≤ n ∧ i = .int .i64 k ∧ RowE wr 8 (some ⟨w.heap.size, 0, none⟩) w.heap.size n (rpF (fun j => if j < k then R j else rpZ) (fun j => if j < k then .slice (some ⟨V j, 0, none⟩) (R j).ne (R j).ne else .slice none 0 0)) ∧ (∀ j, j < k → w.heap.size < V j ∧ wr.rowIs (V j) 3 (R j).ne (fun i => .int .i64 ((R j).E i))) ∧ w.heap.size < wr.heap.size ∧ Below w.heap.size w wr) (fun i _ => n - (intOf i).toNat)
 case atStart => exact ⟨0, fun _ => 0, by omega, rfl, (RowE.rpMad w n).congr (fun i hi j hj => by simp [rpF]), fun j hj => absurd hj (Nat.not_lt_zero _), S0.out, (Below.refl _ _).alloc (Nat.le_refl _) _⟩
 case round =>
  clear S0
  obtain ⟨k, V, hk, rfl, hrow, hv, hsz, hb⟩ := hrel
  have HS : Hid (w.heap.size < wr.heap.size) := hsz
  have HV : Hid (∀ j, j < k → w.heap.size < V j ∧ wr.rowIs (V j) 3 (R j).ne (fun i => .int .i64 ((R j).E i))) := hv
  have HB : Hid (Below w.heap.size w wr) := hb
  clear hsz hv
  by_cases hlt : k < n
  ·obtain ⟨b, off, ha, hc⟩ := (HA.out.below hb).at hlt
   subst ha
   have d0 := hc 0 (by omega)
   have d1 := hc 1 (by omega)
   have d2 := hc 2 (by omega)
   have d3 := hc 3 (by omega)
   have d4 := hc 4 (by omega)
   have d5 := hc 5 (by omega)
   have d6 := hc 6 (by omega)
   have d7 := hc 7 (by omega)
   simp only [rpV, Nat.add_zero] at d0 d1 d2 d3 d4 d5 d6 d7
   have hlt' : (k : Int) < (n : Int) := by omega
   have TP : Hid (∀ w0 : World, Below w.heap.size w w0 → Calls Try.prog 78 #[.agg #[.bool (R k).mute, .int .i64 (R k).nc, .int .i64 (R k).nt, .int .i64 (R k).sc, .int .i64 (R k).st, .slice (A k) (R k).ne (X k), .int .i64 (R k).bc, .int .i64 (R k).bt]] w0 fun e w' => (∃ g, w0.heap.size ≤ g ∧ e = .returned (.agg #[.bool (R k).mute, .int .i64 (R k).nc, .int .i64 (R k).nt, .int .i64 (R k).sc, .int .i64 (R k).st, .slice (some ⟨g, 0, none⟩) (R k).ne (R k).ne, .int .i64 (R k).bc, .int .i64 (R k).bt]) ∧ w'.rowIs g 3 (R k).ne (fun i => .int .i64 ((R k).E i))) ∧ Below w0.heap.size w0 w') := fun w0 q => toReplica_any (R k) (A k) (X k) (HE.out k hlt) w0 ((HA.out.below q).2 k hlt)
   have HR : Hid (RowE wr 8 (some ⟨w.heap.size, 0, none⟩) w.heap.size n (rpF (fun j => if j < k then R j else rpZ) (fun j => if j < k then .slice (some ⟨V j, 0, none⟩) (R j).ne (R j).ne else .slice none 0 0))) := hrow
   clear hrow hb hc
   go_wp2_with fail
   refine (TP.out _ HB.out).mono ?_
   rintro e w1 ⟨⟨g, hg, rfl, hr⟩, hb⟩
   have H1 : Hid (RowE w1 8 (some ⟨w.heap.size, 0, none⟩) w.heap.size n (rpF (fun j => if j < k then R j else rpZ) (fun j => if j < k then .slice (some ⟨V j, 0, none⟩) (R j).ne (R j).ne else .slice none 0 0))) := HR.out.below (by omega) hb
   have hgz : w.heap.size < g := Nat.lt_of_lt_of_le HS.out hg
   have g0 := H1.out.c k hlt 0 (by omega)
   have f0 := H1.out.z (k * 8 + 0) (by omega)
   have g1 := H1.out.c k hlt 1 (by omega)
   have f1 := H1.out.z (k * 8 + 1) (by omega)
   have g2 := H1.out.c k hlt 2 (by omega)
   have f2 := H1.out.z (k * 8 + 2) (by omega)
   have g3 := H1.out.c k hlt 3 (by omega)
   have f3 := H1.out.z (k * 8 + 3) (by omega)
   have g4 := H1.out.c k hlt 4 (by omega)
   have f4 := H1.out.z (k * 8 + 4) (by omega)
   have g5 := H1.out.c k hlt 5 (by omega)
   have f5 := H1.out.z (k * 8 + 5) (by omega)
   have g6 := H1.out.c k hlt 6 (by omega)
   have f6 := H1.out.z (k * 8 + 6) (by omega)
   have g7 := H1.out.c k hlt 7 (by omega)
   have f7 := H1.out.z (k * 8 + 7) (by omega)
   simp only [Nat.add_zero] at g0 f0
   have O1 : OnlyB w.heap.size w1 ((((((((w1.setCell ⟨w.heap.size, k * 8, none⟩ (.bool (R k).mute)).setCell ⟨w.heap.size, k * 8 + 1, none⟩ (.int .i64 (R k).nc)).setCell ⟨w.heap.size, k * 8 + 2, none⟩ (.int .i64 (R k).nt)).setCell ⟨w.heap.size, k * 8 + 3, none⟩ (.int .i64 (R k).sc)).setCell ⟨w.heap.size, k * 8 + 4, none⟩ (.int .i64 (R k).st)).setCell ⟨w.heap.size, k * 8 + 5, none⟩ (.slice (some ⟨g, 0, none⟩) (R k).ne (R k).ne)).setCell ⟨w.heap.size, k * 8 + 6, none⟩ (.int .i64 (R k).bc)).setCell ⟨w.heap.size, k * 8 + 7, none⟩ (.int .i64 (R k).bt)) := (((((((((OnlyB.refl w.heap.size w1).setCell (k * 8) _).setCell (k * 8 + 1) _).setCell (k * 8 + 2) _).setCell (k * 8 + 3) _).setCell (k * 8 + 4) _).setCell (k * 8 + 5) _).setCell (k * 8 + 6) _).setCell (k * 8 + 7) _)
   have R5 : Hid (RowE ((((((((w1.setCell ⟨w.heap.size, k * 8, none⟩ (.bool (R k).mute)).setCell ⟨w.heap.size, k * 8 + 1, none⟩ (.int .i64 (R k).nc)).setCell ⟨w.heap.size, k * 8 + 2, none⟩ (.int .i64 (R k).nt)).setCell ⟨w.heap.size, k * 8 + 3, none⟩ (.int .i64 (R k).sc)).setCell ⟨w.heap.size, k * 8 + 4, none⟩ (.int .i64 (R k).st)).setCell ⟨w.heap.size, k * 8 + 5, none⟩ (.slice (some ⟨g, 0, none⟩) (R k).ne (R k).ne)).setCell ⟨w.heap.size, k * 8 + 6, none⟩ (.int .i64 (R k).bc)).setCell ⟨w.heap.size, k * 8 + 7, none⟩ (.int .i64 (R k).bt)) 8 (some ⟨w.heap.size, 0, none⟩) w.heap.size n (rpF (fun j => if j < k + 1 then R j else rpZ) (fun j => if j < k + 1 then .slice (some ⟨(if j = k then g else V j), 0, none⟩) (R j).ne (R j).ne else .slice none 0 0))) := ((((((((H1.out.set k 0 (by omega) (.bool (R k).mute)).set k 1 (by omega) (.int .i64 (R k).nc)).set k 2 (by omega) (.int .i64 (R k).nt)).set k 3 (by omega) (.int .i64 (R k).sc)).set k 4 (by omega) (.int .i64 (R k).st)).set k 5 (by omega) (.slice (some ⟨g, 0, none⟩) (R k).ne (R k).ne)).set k 6 (by omega) (.int .i64 (R k).bc)).set k 7 (by omega) (.int .i64 (R k).bt)).congr (fun i hi j hj => by
    by_cases e : i = k
    ·subst e
     rcases (show j = 0 ∨ j = 1 ∨ j = 2 ∨ j = 3 ∨ j = 4 ∨ j = 5 ∨ j = 6 ∨ j = 7 by omega) with rfl | rfl | rfl | rfl | rfl | rfl | rfl | rfl <;> simp [setF, rpF, rpV]
    ·have e1 : (i < k + 1) = (i < k) := propext (by omega)
     simp only [setF, rpF, e1, if_neg e]
     simp [e])
   have V5 : Hid (∀ j, j < k + 1 → w.heap.size < (if j = k then g else V j) ∧ ((((((((w1.setCell ⟨w.heap.size, k * 8, none⟩ (.bool (R k).mute)).setCell ⟨w.heap.size, k * 8 + 1, none⟩ (.int .i64 (R k).nc)).setCell ⟨w.heap.size, k * 8 + 2, none⟩ (.int .i64 (R k).nt)).setCell ⟨w.heap.size, k * 8 + 3, none⟩ (.int .i64 (R k).sc)).setCell ⟨w.heap.size, k * 8 + 4, none⟩ (.int .i64 (R k).st)).setCell ⟨w.heap.size, k * 8 + 5, none⟩ (.slice (some ⟨g, 0, none⟩) (R k).ne (R k).ne)).setCell ⟨w.heap.size, k * 8 + 6, none⟩ (.int .i64 (R k).bc)).setCell ⟨w.heap.size, k * 8 + 7, none⟩ (.int .i64 (R k).bt)).rowIs (if j = k then g else V j) 3 (R j).ne (fun i => .int .i64 ((R j).E i))) := fun j hj => by
    by_cases e : j = k
    ·subst e
     rw [if_pos rfl]
     exact ⟨hgz, World.rowIs.of_block hr (O1.block _ (World.rowIs.lt hr) (by omega))⟩
    ·rw [if_neg e]
     obtain ⟨q1, q2⟩ := HV.out j (by omega)
     have q3 := World.rowIs.of_block q2 (hb.block _ (World.rowIs.lt q2))
     exact ⟨q1, World.rowIs.of_block q3 (O1.block _ (World.rowIs.lt q3) (by omega))⟩
   have B5 : Hid (Below w.heap.size w ((((((((w1.setCell ⟨w.heap.size, k * 8, none⟩ (.bool (R k).mute)).setCell ⟨w.heap.size, k * 8 + 1, none⟩ (.int .i64 (R k).nc)).setCell ⟨w.heap.size, k * 8 + 2, none⟩ (.int .i64 (R k).nt)).setCell ⟨w.heap.size, k * 8 + 3, none⟩ (.int .i64 (R k).sc)).setCell ⟨w.heap.size, k * 8 + 4, none⟩ (.int .i64 (R k).st)).setCell ⟨w.heap.size, k * 8 + 5, none⟩ (.slice (some ⟨g, 0, none⟩) (R k).ne (R k).ne)).setCell ⟨w.heap.size, k * 8 + 6, none⟩ (.int .i64 (R k).bc)).setCell ⟨w.heap.size, k * 8 + 7, none⟩ (.int .i64 (R k).bt))) := (HB.out.trans (hb.mono HB.out.size)).trans (O1.toBelow (by omega) (Nat.le_trans HB.out.size hb.size))
   have S5 : Hid (w.heap.size < ((((((((w1.setCell ⟨w.heap.size, k * 8, none⟩ (.bool (R k).mute)).setCell ⟨w.heap.size, k * 8 + 1, none⟩ (.int .i64 (R k).nc)).setCell ⟨w.heap.size, k * 8 + 2, none⟩ (.int .i64 (R k).nt)).setCell ⟨w.heap.size, k * 8 + 3, none⟩ (.int .i64 (R k).sc)).setCell ⟨w.heap.size, k * 8 + 4, none⟩ (.int .i64 (R k).st)).setCell ⟨w.heap.size, k * 8 + 5, none⟩ (.slice (some ⟨g, 0, none⟩) (R k).ne (R k).ne)).setCell ⟨w.heap.size, k * 8 + 6, none⟩ (.int .i64 (R k).bc)).setCell ⟨w.heap.size, k * 8 + 7, none⟩ (.int .i64 (R k).bt)).heap.size) := Nat.lt_of_lt_of_le HS.out (Nat.le_trans hb.size O1.size)
   clear H1 O1 hr hb HR HB HV HS TP hgz hg HA HE d0 d1 d2 d3 d4 d5 d6 d7
   go_wp2
   go_roundw
   case rel => exact ⟨k + 1, fun j => if j = k then g else V j, by omega, by go_num, R5.out, V5.out, S5.out, B5.out⟩
   case measure => simp [intOf]; omega
  ·have hlt' : ¬ (k : Int) < (n : Int) := by omega
   obtain rfl : k = n := by omega
   have HR : Hid (RowE wr 8 (some ⟨w.heap.size, 0, none⟩) w.heap.size k (rpF R (fun j => .slice (some ⟨V j, 0, none⟩) (R j).ne (R j).ne))) := hrow.congr (fun i hi j hj => by unfold rpF; dsimp only; rw [if_pos hi, if_pos hi])
   clear hrow hb
   go_wp2
   go_ret
   exact ⟨⟨rfl, V, HR.out, HV.out, HS.out⟩, HB.out⟩
def woZ : Wo := ⟨0, 0, 0, fun _ => 0, 0, 0⟩
theorem Try.infWo : (Try.prog.info? 37).map (fun i => (i.zero, i.size, i.bytes)) = some (some (.agg #[.int .i64 0, .int .i64 0, .slice none 0 0, .int .i64 0, .int .i64 0]), 5, 56) := by kernel_rfl
theorem makWo (n : Nat) (hn : n ≤ 1048576) (w : World) : (Instr.makeSlice 25 (.int .i64 n) (.int .i64 n)).run Try.prog w = .ok (.slice (some ⟨w.heap.size, 0, none⟩) n n) (w.alloc (.cells (madeCells #[.int .i64 0, .int .i64 0, .slice none 0 0, .int .i64 0, .int .i64 0] (n * 5)) 37)) := by
 obtain ⟨i, hi, hzz⟩ := Option.map_eq_some_iff.1 Try.infWo
 simp only [Prod.mk.injEq] at hzz
 obtain ⟨hz, hs, hb⟩ := hzz
 have hr := run_make (P := Try.prog) w 25 37 i _ Try.underlying25 hi hz .i64 .i64 n n (by omega) (Int.le_refl _) (by rw [hb]; omega) (by omega)
 simp only [Int.toNat_natCast, hs] at hr
 exact hr
theorem RowE.woMad (w : World) (n : Nat) : RowE (w.alloc (.cells (madeCells #[.int .i64 0, .int .i64 0, .slice none 0 0, .int .i64 0, .int .i64 0] (n * 5)) 37)) 5 (some ⟨w.heap.size, 0, none⟩) w.heap.size n (woF (fun _ => woZ) (fun _ => .slice none 0 0)) := RowE.made w 5 n _ _ rfl _ (fun i j hj => by
 rcases (show j = 0 ∨ j = 1 ∨ j = 2 ∨ j = 3 ∨ j = 4 by omega) with rfl | rfl | rfl | rfl | rfl <;> rfl)
set_option maxRecDepth 100000 in
set_option maxHeartbeats 4000000 in
theorem toWriteOpS_any (a : Option Addr) (n c : Nat) (R : Nat → Wo) (A : Nat → Option Addr) (X : Nat → Nat) (hn : n ≤ 1048576) (he : ∀ i, i < n → (R i).ne ≤ 1048576) (w : World) (h : WoV w a n R A X) :
  Calls Try.prog 38 #[.slice a n c] w fun e w' => (∃ V : Nat → Nat, e = .returned (.slice (some ⟨w.heap.size, 0, none⟩) n n) ∧ RowE w' 5 (some ⟨w.heap.size, 0, none⟩) w.heap.size n (woF R (fun j => .slice (some ⟨V j, 0, none⟩) (R j).ne (R j).ne)) ∧ (∀ j, j < n → w.heap.size < V j ∧ w'.rowIs (V j) 3 (R j).ne (fun i => .int .i64 ((R j).E i))) ∧ w.heap.size < w'.heap.size) ∧ Below w.heap.size w w' := by
 have m1 := makWo n hn w
 have S0 : Hid (w.heap.size < (w.alloc (.cells (madeCells #[.int .i64 0, .int .i64 0, .slice none 0 0, .int .i64 0, .int .i64 0] (n * 5)) 37)).heap.size) := by show _ < _; simp
 have HA : Hid (WoV w a n R A X) := h
 have HE : Hid (∀ i, i < n → (R i).ne ≤ 1048576) := he
 clear h he
 go_enter Try.func38, Try.ntmps38
 go_wp2
 clear m1
 go_loopw [4] (fun i wr => ∃ (k : Nat) (V : Nat → Nat), k ≤ n ∧ i = .int .i64 k ∧ RowE wr 5 (some ⟨w.heap.size, 0, none⟩) w.heap.size n (woF (fun j => if j < k then R j else woZ) (fun j => if j < k then .slice (some ⟨V j, 0, none⟩) (R j).ne (R j).ne else .slice none 0 0)) ∧ (∀ j, j < k → w.heap.size < V j ∧ wr.rowIs (V j) 3 (R j).ne (fun i => .int .i64 ((R j).E i))) ∧ w.heap.size < wr.heap.size ∧ Below w.heap.size w wr) (fun i _ => n - (intOf i).toNat)
 case atStart => exact ⟨0, fun _ => 0, by omega, rfl, (RowE.woMad w n).congr (fun i hi j hj => by simp [woF]), fun j hj => absurd hj (Nat.not_lt_zero _), S0.out, (Below.refl _ _).alloc (Nat.le_refl _) _⟩
 case round =>
  clear S0
  obtain ⟨k, V, hk, rfl, hrow, hv, hsz, hb⟩ := hrel
  have HS : Hid (w.heap.size < wr.heap.size) := hsz
  have HV : Hid (∀ j, j < k → w.heap.size < V j ∧ wr.rowIs (V j) 3 (R j).ne (fun i => .int .i64 ((R j).E i))) := hv
  have HB : Hid (Below w.heap.size w wr) := hb
  clear hsz hv
  by_cases hlt : k < n
  ·obtain ⟨b, off, ha, hc⟩ := (HA.out.below hb).at hlt
   subst ha
   have d0 := hc 0 (by omega)
   have d1 := hc 1 (by omega)
   have d2 := hc 2 (by omega)
   have d3 := hc 3 (by omega)
   have d4 := hc 4 (by omega)
   simp only [woV, Nat.add_zero] at d0 d1 d2 d3 d4
   have hlt' : (k : Int) < (n : Int) := by omega
   have TP : Hid (∀ w0 : World, Below w.heap.size w w0 → Calls Try.prog 79 #[.agg #[.int .i64 (R k).mc, .int .i64 (R k).mt, .slice (A k) (R k).ne (X k), .int .i64 (R k).bg, .int .i64 (R k).en]] w0 fun e w' => (∃ g, w0.heap.size ≤ g ∧ e = .returned (.agg #[.int .i64 (R k).mc, .int .i64 (R k).mt, .slice (some ⟨g, 0, none⟩) (R k).ne (R k).ne, .int .i64 (R k).bg, .int .i64 (R k).en]) ∧ w'.rowIs g 3 (R k).ne (fun i => .int .i64 ((R k).E i))) ∧ Below w0.heap.size w0 w') := fun w0 q => toWriteOp_any (R k) (A k) (X k) (HE.out k hlt) w0 ((HA.out.below q).2 k hlt)
   have HR : Hid (RowE wr 5 (some ⟨w.heap.size, 0, none⟩) w.heap.size n (woF (fun j => if j < k then R j else woZ) (fun j => if j < k then .slice (some ⟨V j, 0, none⟩) (R j).ne (R j).ne else .slice none 0 0))) := hrow
   clear hrow hb hc
   go_wp2_with fail
   refine (TP.out _ HB.out).mono ?_
   rintro e w1 ⟨⟨g, hg, rfl, hr⟩, hb⟩
   have H1 : Hid (RowE w1 5 (some ⟨w.heap.size, 0, none⟩) w.heap.size n (woF (fun j => if j < k then R j else woZ) (fun j => if j < k then .slice (some ⟨V j, 0, none⟩) (R j).ne (R j).ne else .slice none 0 0))) := HR.out.below (by omega) hb
   have hgz : w.heap.size < g := Nat.lt_of_lt_of_le HS.out hg
   have g0 := H1.out.c k hlt 0 (by omega)
   have f0 := H1.out.z (k * 5 + 0) (by omega)
   have g1 := H1.out.c k hlt 1 (by omega)
   have f1 := H1.out.z (k * 5 + 1) (by omega)
   have g2 := H1.out.c k hlt 2 (by omega)
   have f2 := H1.out.z (k * 5 + 2) (by omega)
   have g3 := H1.out.c k hlt 3 (by omega)
   have f3 := H1.out.z (k * 5 + 3) (by omega)
   have g4 := H1.out.c k hlt 4 (by omega)
   have f4 := H1.out.z (k * 5 + 4) (by omega)
   simp only [Nat.add_zero] at g0 f0
   have O1 : OnlyB w.heap.size w1 (((((w1.setCell ⟨w.heap.size, k * 5, none⟩ (.int .i64 (R k).mc)).setCell ⟨w.heap.size, k * 5 + 1, none⟩ (.int .i64 (R k).mt)).setCell ⟨w.heap.size, k * 5 + 2, none⟩ (.slice (some ⟨g, 0, none⟩) (R k).ne (R k).ne)).setCell ⟨w.heap.size, k * 5 + 3, none⟩ (.int .i64 (R k).bg)).setCell ⟨w.heap.size, k * 5 + 4, none⟩ (.int .i64 (R k).en)) := ((((((OnlyB.refl w.heap.size w1).setCell (k * 5) _).setCell (k * 5 + 1) _).setCell (k * 5 + 2) _).setCell (k * 5 + 3) _).setCell (k * 5 + 4) _)
   have R5 : Hid (RowE (((((w1.setCell ⟨w.heap.size, k * 5, none⟩ (.int .i64 (R k).mc)).setCell ⟨w.heap.size, k * 5 + 1, none⟩ (.int .i64 (R k).mt)).setCell ⟨w.heap.size, k * 5 + 2, none⟩ (.slice (some ⟨g, 0, none⟩) (R k).ne (R k).ne)).setCell ⟨w.heap.size, k * 5 + 3, none⟩ (.int .i64 (R k).bg)).setCell ⟨w.heap.size, k * 5 + 4, none⟩ (.int .i64 (R k).en)) 5 (some ⟨w.heap.size, 0, none⟩) w.heap.size n (woF (fun j => if j < k + 1 then R j else woZ) (fun j => if j < k + 1 then .slice (some ⟨(if j = k then g else V j), 0, none⟩) (R j).ne (R j).ne else .slice none 0 0))) := (((((H1.out.set k 0 (by omega) (.int .i64 (R k).mc)).set k 1 (by omega) (.int .i64 (R k).mt)).set k 2 (by omega) (.slice (some ⟨g, 0, none⟩) (R k).ne (R k).ne)).set k 3 (by omega) (.int .i64 (R k).bg)).set k 4 (by omega) (.int .i64 (R k).en)).congr (fun i hi j hj => by
    by_cases e : i = k
    ·subst e
     rcases (show j = 0 ∨ j = 1 ∨ j = 2 ∨ j = 3 ∨ j = 4 by omega) with rfl | rfl | rfl | rfl | rfl <;> simp [setF, woF, woV]
    ·have e1 : (i < k + 1) = (i < k) := propext (by omega)
     simp only [setF, woF, e1, if_neg e]
     simp [e])
   have V5 : Hid (∀ j, j < k + 1 → w.heap.size < (if j = k then g else V j) ∧ (((((w1.setCell ⟨w.heap.size, k * 5, none⟩ (.int .i64 (R k).mc)).setCell ⟨w.heap.size, k * 5 + 1, none⟩ (.int .i64 (R k).mt)).setCell ⟨w.heap.size, k * 5 + 2, none⟩ (.slice (some ⟨g, 0, none⟩) (R k).ne (R k).ne)).setCell ⟨w.heap.size, k * 5 + 3, none⟩ (.int .i64 (R k).bg)).setCell ⟨w.heap.size, k * 5 + 4, none⟩ (.int .i64 (R k).en)).rowIs (if j = k then g else V j) 3 (R j).ne (fun i => .int .i64 ((R j).E i))) := fun j hj => by
    by_cases e : j = k
    ·subst e
     rw [if_pos rfl]
     exact ⟨hgz, World.rowIs.of_block hr (O1.block _ (World.rowIs.lt hr) (by omega))⟩
    ·rw [if_neg e]
     obtain ⟨q1, q2⟩ := HV.out j (by omega)
     have q3 := World.rowIs.of_block q2 (hb.block _ (World.rowIs.lt q2))
     exact ⟨q1, World.rowIs.of_block q3 (O1.block _ (World.rowIs.lt q3) (by omega))⟩
   have B5 : Hid (Below w.heap.size w (((((w1.setCell ⟨w.heap.size, k * 5, none⟩ (.int .i64 (R k).mc)).setCell ⟨w.heap.size, k * 5 + 1, none⟩ (.int .i64 (R k).mt)).setCell ⟨w.heap.size, k * 5 + 2, none⟩ (.slice (some ⟨g, 0, none⟩) (R k).ne (R k).ne)).setCell ⟨w.heap.size, k * 5 + 3, none⟩ (.int .i64 (R k).bg)).setCell ⟨w.heap.size, k * 5 + 4, none⟩ (.int .i64 (R k).en))) := (HB.out.trans (hb.mono HB.out.size)).trans (O1.toBelow (by omega) (Nat.le_trans HB.out.size hb.size))
   have S5 : Hid (w.heap.size < (((((w1.setCell ⟨w.heap.size, k * 5, none⟩ (.int .i64 (R k).mc)).setCell ⟨w.heap.size, k * 5 + 1, none⟩ (.int .i64 (R k).mt)).setCell ⟨w.heap.size, k * 5 + 2, none⟩ (.slice (some ⟨g, 0, none⟩) (R k).ne (R k).ne)).setCell ⟨w.heap.size, k * 5 + 3, none⟩ (.int .i64 (R k).bg)).setCell ⟨w.heap.size, k * 5 + 4, none⟩ (.int .i64 (R k).en)).heap.size) := Nat.lt_of_lt_of_le HS.out (Nat.le_trans hb.size O1.size)
   clear H1 O1 hr hb HR HB HV HS TP hgz hg HA HE d0 d1 d2 d3 d4
   go_wp2
   go_roundw
   case rel => exact ⟨k + 1, fun j => if j = k then g else V j, by omega, by go_num, R5.out, V5.out, S5.out, B5.out⟩
   case measure => simp [intOf]; omega
  ·have hlt' : ¬ (k : Int) < (n : Int) := by omega
   obtain rfl : k = n := by omega
   have HR : Hid (RowE wr 5 (some ⟨w.heap.size, 0, none⟩) w.heap.size k (woF R (fun j => .slice (some ⟨V j, 0, none⟩) (R j).ne (R j).ne))) := hrow.congr (fun i hi j hj => by unfold woF; dsimp only; rw [if_pos hi, if_pos hi])
   clear hrow hb
   go_wp2
   go_ret
   exact ⟨⟨rfl, V, HR.out, HV.out, HS.out⟩, HB.out⟩
def roZ : Ro := ⟨0, fun _ => 0, 0, 0, 0, 0⟩
theorem Try.infRo : (Try.prog.info? 90).map (fun i => (i.zero, i.size, i.bytes)) = some (some (.agg #[.slice none 0 0, .int .i64 0, .int .i64 0, .int .i64 0, .int .i64 0]), 5, 56) := by kernel_rfl
theorem makRo (n : Nat) (hn : n ≤ 1048576) (w : World) : (Instr.makeSlice 26 (.int .i64 n) (.int .i64 n)).run Try.prog w = .ok (.slice (some ⟨w.heap.size, 0, none⟩) n n) (w.alloc (.cells (madeCells #[.slice none 0 0, .int .i64 0, .int .i64 0, .int .i64 0, .int .i64 0] (n * 5)) 90)) := by
 obtain ⟨i, hi, hzz⟩ := Option.map_eq_some_iff.1 Try.infRo
 simp only [Prod.mk.injEq] at hzz
 obtain ⟨hz, hs, hb⟩ := hzz
 have hr := run_make (P := Try.prog) w 26 90 i _ Try.underlying26 hi hz .i64 .i64 n n (by omega) (Int.le_refl _) (by rw [hb]; omega) (by omega)
 simp only [Int.toNat_natCast, hs] at hr
 exact hr
theorem RowE.roMad (w : World) (n : Nat) : RowE (w.alloc (.cells (madeCells #[.slice none 0 0, .int .i64 0, .int .i64 0, .int .i64 0, .int .i64 0] (n * 5)) 90)) 5 (some ⟨w.heap.size, 0, none⟩) w.heap.size n (roF (fun _ => roZ) (fun _ => .slice none 0 0)) := RowE.made w 5 n _ _ rfl _ (fun i j hj => by
 rcases (show j = 0 ∨ j = 1 ∨ j = 2 ∨ j = 3 ∨ j = 4 by omega) with rfl | rfl | rfl | rfl | rfl <;> rfl)
set_option maxRecDepth 100000 in
set_option maxHeartbeats 4000000 in
theorem toReadOpS_any (a : Option Addr) (n c : Nat) (R : Nat → Ro) (A : Nat → Option Addr) (X : Nat → Nat) (hn : n ≤ 1048576) (he : ∀ i, i < n → (R i).ne ≤ 1048576) (w : World) (h : RoV w a n R A X) :
  Calls Try.prog 39 #[.slice a n c] w fun e w' => (∃ V : Nat → Nat, e = .returned (.slice (some ⟨w.heap.size, 0, none⟩) n n) ∧ RowE w' 5 (some ⟨w.heap.size, 0, none⟩) w.heap.size n (roF R (fun j => .slice (some ⟨V j, 0, none⟩) (R j).ne (R j).ne)) ∧ (∀ j, j < n → w.heap.size < V j ∧ w'.rowIs (V j) 3 (R j).ne (fun i => .int .i64 ((R j).E i))) ∧ w.heap.size < w'.heap.size) ∧ Below w.heap.size w w' := by
 have m1 := makRo n hn w
 have S0 : Hid (w.heap.size < (w.alloc (.cells (madeCells #[.slice none 0 0, .int .i64 0, .int .i64 0, .int .i64 0, .int .i64 0] (n * 5)) 90)).heap.size) := by show _ < _; simp
 have HA : Hid (RoV w a n R A X) := h
 have HE : Hid (∀ i, i < n → (R i).ne ≤ 1048576) := he
 clear h he
 go_enter Try.func39, Try.ntmps39
 go_wp2
 clear m1
 go_loopw [4] (fun i wr => ∃ (k : Nat) (V : Nat → Nat), k ≤ n ∧ i = .int .i64 k ∧ RowE wr 5 (some ⟨w.heap.size, 0, none⟩) w.heap.size n (roF (fun j => if j < k then R j else roZ) (fun j => if j < k then .slice (some ⟨V j, 0, none⟩) (R j).ne (R j).ne else .slice none 0 0)) ∧ (∀ j, j < k → w.heap.size < V j ∧ wr.rowIs (V j) 3 (R j).ne (fun i => .int .i64 ((R j).E i))) ∧ w.heap.size < wr.heap.size ∧ Below w.heap.size w wr) (fun i _ => n - (intOf i).toNat)
 case atStart => exact ⟨0, fun _ => 0, by omega, rfl, (RowE.roMad w n).congr (fun i hi j hj => by simp [roF]), fun j hj => absurd hj (Nat.not_lt_zero _), S0.out, (Below.refl _ _).alloc (Nat.le_refl _) _⟩
 case round =>
  clear S0
  obtain ⟨k, V, hk, rfl, hrow, hv, hsz, hb⟩ := hrel
  have HS : Hid (w.heap.size < wr.heap.size) := hsz
  have HV : Hid (∀ j, j < k → w.heap.size < V j ∧ wr.rowIs (V j) 3 (R j).ne (fun i => .int .i64 ((R j).E i))) := hv
  have HB : Hid (Below w.heap.size w wr) := hb
  clear hsz hv
  by_cases hlt : k < n
  ·obtain ⟨b, off, ha, hc⟩ := (HA.out.below hb).at hlt
   subst ha
   have d0 := hc 0 (by omega)
   have d1 := hc 1 (by omega)
   have d2 := hc 2 (by omega)
   have d3 := hc 3 (by omega)
   have d4 := hc 4 (by omega)
   simp only [roV, Nat.add_zero] at d0 d1 d2 d3 d4
   have hlt' : (k : Int) < (n : Int) := by omega
   have TP : Hid (∀ w0 : World, Below w.heap.size w w0 → Calls Try.prog 80 #[.agg #[.slice (A k) (R k).ne (X k), .int .i64 (R k).bc, .int .i64 (R k).bt, .int .i64 (R k).bg, .int .i64 (R k).en]] w0 fun e w' => (∃ g, w0.heap.size ≤ g ∧ e = .returned (.agg #[.slice (some ⟨g, 0, none⟩) (R k).ne (R k).ne, .int .i64 (R k).bc, .int .i64 (R k).bt, .int .i64 (R k).bg, .int .i64 (R k).en]) ∧ w'.rowIs g 3 (R k).ne (fun i => .int .i64 ((R k).E i))) ∧ Below w0.heap.size w0 w') := fun w0 q => toReadOp_any (R k) (A k) (X k) (HE.out k hlt) w0 ((HA.out.below q).2 k hlt)
   have HR : Hid (RowE wr 5 (some ⟨w.heap.size, 0, none⟩) w.heap.size n (roF (fun j => if j < k then R j else roZ) (fun j => if j < k then .slice (some ⟨V j, 0, none⟩) (R j).ne (R j).ne else .slice none 0 0))) := hrow
   clear hrow hb hc
   go_wp2_with fail
   refine (TP.out _ HB.out).mono ?_
   rintro e w1 ⟨⟨g, hg, rfl, hr⟩, hb⟩
   have H1 : Hid (RowE w1 5 (some ⟨w.heap.size, 0, none⟩) w.heap.size n (roF (fun j => if j < k then R j else roZ) (fun j => if j < k then .slice (some ⟨V j, 0, none⟩) (R j).ne (R j).ne else .slice none 0 0))) := HR.out.below (by omega) hb
   have hgz : w.heap.size < g := Nat.lt_of_lt_of_le HS.out hg
   have g0 := H1.out.c k hlt 0 (by omega)
   have f0 := H1.out.z (k * 5 + 0) (by omega)
   have g1 := H1.out.c k hlt 1 (by omega)
   have f1 := H1.out.z (k * 5 + 1) (by omega)
   have g2 := H1.out.c k hlt 2 (by omega)
   have f2 := H1.out.z (k * 5 + 2) (by omega)
   have g3 := H1.out.c k hlt 3 (by omega)
   have f3 := H1.out.z (k * 5 + 3) (by omega)
   have g4 := H1.out.c k hlt 4 (by omega)
   have f4 := H1.out.z (k * 5 + 4) (by omega)
   simp only [Nat.add_zero] at g0 f0
   have O1 : OnlyB w.heap.size w1 (((((w1.setCell ⟨w.heap.size, k * 5, none⟩ (.slice (some ⟨g, 0, none⟩) (R k).ne (R k).ne)).setCell ⟨w.heap.size, k * 5 + 1, none⟩ (.int .i64 (R k).bc)).setCell ⟨w.heap.size, k * 5 + 2, none⟩ (.int .i64 (R k).bt)).setCell ⟨w.heap.size, k * 5 + 3, none⟩ (.int .i64 (R k).bg)).setCell ⟨w.heap.size, k * 5 + 4, none⟩ (.int .i64 (R k).en)) := ((((((OnlyB.refl w.heap.size w1).setCell (k * 5) _).setCell (k * 5 + 1) _).setCell (k * 5 + 2) _).setCell (k * 5 + 3) _).setCell (k * 5 + 4) _)
   have R5 : Hid (RowE (((((w1.setCell ⟨w.heap.size, k * 5, none⟩ (.slice (some ⟨g, 0, none⟩) (R k).ne (R k).ne)).setCell ⟨w.heap.size, k * 5 + 1, none⟩ (.int .i64 (R k).bc)).setCell ⟨w.heap.size, k * 5 + 2, none⟩ (.int .i64 (R k).bt)).setCell ⟨w.heap.size, k * 5 + 3, none⟩ (.int .i64 (R k).bg)).setCell ⟨w.heap.size, k * 5 + 4, none⟩ (.int .i64 (R k).en)) 5 (some ⟨w.heap.size, 0, none⟩) w.heap.size n (roF (fun j => if j < k + 1 then R j else roZ) (fun j => if j < k + 1 then .slice (some ⟨(if j = k then g else V j), 0, none⟩) (R j).ne (R j).ne else .slice none 0 0))) := (((((H1.out.set k 0 (by omega) (.slice (some ⟨g, 0, none⟩) (R k).ne (R k).ne)).set k 1 (by omega) (.int .i64 (R k).bc)).set k 2 (by omega) (.int .i64 (R k).bt)).set k 3 (by omega) (.int .i64 (R k).bg)).set k 4 (by omega) (.int .i64 (R k).en)).congr (fun i hi j hj => by
    by_cases e : i = k
    ·subst e
     rcases (show j = 0 ∨ j = 1 ∨ j = 2 ∨ j = 3 ∨ j = 4 by omega) with rfl | rfl | rfl | rfl | rfl <;> simp [setF, roF, roV]
    ·have e1 : (i < k + 1) = (i < k) := propext (by omega)
     simp only [setF, roF, e1, if_neg e]
     simp [e])
   have V5 : Hid (∀ j, j < k + 1 → w.heap.size < (if j = k then g else V j) ∧ (((((w1.setCell ⟨w.heap.size, k * 5, none⟩ (.slice (some ⟨g, 0, none⟩) (R k).ne (R k).ne)).setCell ⟨w.heap.size, k * 5 + 1, none⟩ (.int .i64 (R k).bc)).setCell ⟨w.heap.size, k * 5 + 2, none⟩ (.int .i64 (R k).bt)).setCell ⟨w.heap.size, k * 5 + 3, none⟩ (.int .i64 (R k).bg)).setCell ⟨w.heap.size, k * 5 + 4, none⟩ (.int .i64 (R k).en)).rowIs (if j = k then g else V j) 3 (R j).ne (fun i => .int .i64 ((R j).E i))) := fun j hj => by
    by_cases e : j = k
    ·subst e
     rw [if_pos rfl]
     exact ⟨hgz, World.rowIs.of_block hr (O1.block _ (World.rowIs.lt hr) (by omega))⟩
    ·rw [if_neg e]
     obtain ⟨q1, q2⟩ := HV.out j (by omega)
     have q3 := World.rowIs.of_block q2 (hb.block _ (World.rowIs.lt q2))
     exact ⟨q1, World.rowIs.of_block q3 (O1.block _ (World.rowIs.lt q3) (by omega))⟩
   have B5 : Hid (Below w.heap.size w (((((w1.setCell ⟨w.heap.size, k * 5, none⟩ (.slice (some ⟨g, 0, none⟩) (R k).ne (R k).ne)).setCell ⟨w.heap.size, k * 5 + 1, none⟩ (.int .i64 (R k).bc)).setCell ⟨w.heap.size, k * 5 + 2, none⟩ (.int .i64 (R k).bt)).setCell ⟨w.heap.size, k * 5 + 3, none⟩ (.int .i64 (R k).bg)).setCell ⟨w.heap.size, k * 5 + 4, none⟩ (.int .i64 (R k).en))) := (HB.out.trans (hb.mono HB.out.size)).trans (O1.toBelow (by omega) (Nat.le_trans HB.out.size hb.size))
   have S5 : Hid (w.heap.size < (((((w1.setCell ⟨w.heap.size, k * 5, none⟩ (.slice (some ⟨g, 0, none⟩) (R k).ne (R k).ne)).setCell ⟨w.heap.size, k * 5 + 1, none⟩ (.int .i64 (R k).bc)).setCell ⟨w.heap.size, k * 5 + 2, none⟩ (.int .i64 (R k).bt)).setCell ⟨w.heap.size, k * 5 + 3, none⟩ (.int .i64 (R k).bg)).setCell ⟨w.heap.size, k * 5 + 4, none⟩ (.int .i64 (R k).en)).heap.size) := Nat.lt_of_lt_of_le HS.out (Nat.le_trans hb.size O1.size)
   clear H1 O1 hr hb HR HB HV HS TP hgz hg HA HE d0 d1 d2 d3 d4
   go_wp2
   go_roundw
   case rel => exact ⟨k + 1, fun j => if j = k then g else V j, by omega, by go_num, R5.out, V5.out, S5.out, B5.out⟩
   case measure => simp [intOf]; omega
  ·have hlt' : ¬ (k : Int) < (n : Int) := by omega
   obtain rfl : k = n := by omega
   have HR : Hid (RowE wr 5 (some ⟨w.heap.size, 0, none⟩) w.heap.size k (roF R (fun j => .slice (some ⟨V j, 0, none⟩) (R j).ne (R j).ne))) := hrow.congr (fun i hi j hj => by unfold roF; dsimp only; rw [if_pos hi, if_pos hi])
   clear hrow hb
   go_wp2
   go_ret
   exact ⟨⟨rfl, V, HR.out, HV.out, HS.out⟩, HB.out⟩
end Go.Proofs.Ytedncfcmhaaobaa
