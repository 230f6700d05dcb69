/-
  Texts of the proof, joined: RetCell, DiskTo, DiskRow, KeepD, SzX.
-/
import Derived.Test.YtboekhegbachpaaGreatDoorS04
import Derived.Laws.ResultCell
import Derived.Test.YtboekhegbachpaaGreatDoorS02
import Derived.Deep.RegionWith
import Derived.Laws.OwnMore
import Derived.Lib.AppendZeros
import Derived.Maps.AppendAt
import Derived.OwnWalk
namespace Go.Proofs.YtboekhegbachpaaGreatDoor
open Go.ChangeShapes Go.WideShapes Go.ChangeAt Go.RowKit
theorem ret_cell {P : Program} {fn : Func} {p : Tmp} {ty : TypeId} {tmps : Array Value} {w : World} {b : Nat} {v : Value} {Post : Ending → World → Prop} (h : fn.results = #[.cell p ty]) (hp : tmps.getD p undef = .pointer (some ⟨b, 0, none⟩)) (hl : (loadVar ty ⟨b, 0, none⟩).run P w = .ok v w) (hq : Post (.returned v) w) : bodyPost P fn Post .ret { tmps := tmps, defers := [] } w :=
 bodyPost_ret (results_cell_one h tmps P w hp hl) rfl hq
theorem ret_cell2 {P : Program} {fn : Func} {p u : Tmp} {ty : TypeId} {tmps : Array Value} {w : World} {b : Nat} {v x : Value} {Post : Ending → World → Prop} (h : fn.results = #[.cell p ty, .tmp u]) (hp : tmps.getD p undef = .pointer (some ⟨b, 0, none⟩)) (hu : tmps.getD u undef = x) (hl : (loadVar ty ⟨b, 0, none⟩).run P w = .ok v w) (hq : Post (.returned (.tuple #[v, x])) w) : bodyPost P fn Post .ret { tmps := tmps, defers := [] } w := by
 refine bodyPost_ret (v := .tuple #[v, x]) ?_ rfl hq
 rw [results_cell_tmp h, hp, hu]
 simp [asAddr, hl, Result.andThen]
end Go.Proofs.YtboekhegbachpaaGreatDoor
namespace Go.Proofs.YtboekhegbachpaaGreatDoor
open Go.ChangeShapes Go.WideShapes Go.ChangeAt Go.RowKit
theorem Tryz.infoStrD : (Tryz.prog.info? 9).map (fun i => (i.zero, i.size, i.bytes)) = some (some (.string ⟨#[]⟩), 1, 16) := by kernel_rfl
theorem mkStrsD (n : Nat) (hn : n ≤ 1048576) (w : World) : (Instr.makeSlice 22 (.int .i64 n) (.int .i64 n)).run Tryz.prog w = .ok (.slice (some ⟨w.heap.size, 0, none⟩) n n) (w.alloc (.cells (madeCells #[.string ⟨#[]⟩] n) 9)) :=
 run_make_row' (P := Tryz.prog) 22 9 (.string ⟨#[]⟩) 16 Tryz.underlying22 Tryz.infoStrD rfl .i64 .i64 n (by omega) (by omega) w
theorem Tryz.infoPen : (Tryz.prog.info? 68).map (fun i => (i.zero, i.size, i.bytes)) = some (some (.agg #[.int .i64 0, .string ⟨#[]⟩]), 2, 24) := by kernel_rfl
theorem mkPens (n : Nat) (hn : n ≤ 1048576) (w : World) : (Instr.makeSlice 27 (.int .i64 n) (.int .i64 n)).run Tryz.prog w = .ok (.slice (some ⟨w.heap.size, 0, none⟩) n n) (w.alloc (.cells (madeCells #[.int .i64 0, .string ⟨#[]⟩] (n * 2)) 68)) := by
 obtain ⟨i, hi, hzz⟩ := Option.map_eq_some_iff.1 Tryz.infoPen
 simp only [Prod.mk.injEq] at hzz
 obtain ⟨hz, hs, hb⟩ := hzz
 have hr := run_make (P := Tryz.prog) w 27 68 i _ Tryz.underlying27 hi hz .i64 .i64 n n (by omega) (Int.le_refl _) (by rw [hb]; omega) (by omega)
 simp only [Int.toNat_natCast, hs] at hr
 exact hr
def penC (A : Nat → Int) (D : Nat → ByteArray) (k : Nat) : Value := if k % 2 = 0 then .int .i64 (A (k / 2)) else .string (D (k / 2))
theorem penC0 (A : Nat → Int) (D : Nat → ByteArray) (i : Nat) : penC A D (i * 2) = .int .i64 (A i) := by unfold penC; rw [if_pos (by omega), show i * 2 / 2 = i from by omega]
theorem penC1 (A : Nat → Int) (D : Nat → ByteArray) (i : Nat) : penC A D (i * 2 + 1) = .string (D i) := by unfold penC; rw [if_neg (by omega), show (i * 2 + 1) / 2 = i from by omega]
def PenRow (w : World) (b n : Nat) (A : Nat → Int) (D : Nat → ByteArray) : Prop := w.rowIs b 68 (n * 2) (penC A D)
theorem PenRow.pens {w : World} {b n : Nat} {A : Nat → Int} {D : Nat → ByteArray} (h : PenRow w b n A D) : Pens w (some ⟨b, 0, none⟩) n A D := fun i hi => ⟨b, 0, rfl, by rw [Nat.zero_add, World.rowIs.cell h (by omega), penC0], by rw [Nat.zero_add, World.rowIs.cell h (by omega), penC1]⟩
theorem PenRow.made (w : World) (n : Nat) : PenRow (w.alloc (.cells (madeCells #[.int .i64 0, .string ⟨#[]⟩] (n * 2)) 68)) w.heap.size n (fun _ => 0) (fun _ => ⟨#[]⟩) :=
 ⟨_, (MapKept.heap_alloc w _).1, size_madeCells _ _, fun i hi => by
  unfold penC
  rcases (show i % 2 = 0 ∨ i % 2 = 1 by omega) with e | e <;> simp [madeCells, hi, e]⟩
theorem PenRow.put {w : World} {b n : Nat} {A : Nat → Int} {D : Nat → ByteArray} (h : PenRow w b n A D) (k : Nat) (x : Int) (s : ByteArray) : PenRow ((w.setCell ⟨b, k * 2, none⟩ (.int .i64 x)).setCell ⟨b, k * 2 + 1, none⟩ (.string s)) b n (fun i => if i = k then x else A i) (fun i => if i = k then s else D i) := by
 refine World.rowIs.congr ((World.rowIs.set h (k * 2) _).set (k * 2 + 1) _) (fun j hj => ?_)
 unfold penC
 rcases (show j % 2 = 0 ∨ j % 2 = 1 by omega) with e | e
 ·rw [if_neg (by omega)]
  by_cases q : j = k * 2
  ·rw [if_pos q, if_pos e, show j / 2 = k from by omega]; simp only [if_pos]
  ·have : ¬ j / 2 = k := by omega
   rw [if_neg q, if_pos e, if_pos e]; simp only [if_neg this]
 ·by_cases q : j = k * 2 + 1
  ·rw [if_pos q, if_neg (by omega), show j / 2 = k from by omega]; simp only [if_pos]
  ·have : ¬ j / 2 = k := by omega
   rw [if_neg q, if_neg (by omega), if_neg (by omega), if_neg (by omega)]; simp only [if_neg this]
theorem PenRow.ofBlock {w w' : World} {b n : Nat} {A : Nat → Int} {D : Nat → ByteArray} (h : PenRow w b n A D) (e : w'.heap[b]? = w.heap[b]?) : PenRow w' b n A D := World.rowIs.of_block h e
theorem PenRow.congr {w : World} {b n : Nat} {A A' : Nat → Int} {D D' : Nat → ByteArray} (h : PenRow w b n A D) (e : ∀ i, i < n → A i = A' i ∧ D i = D' i) : PenRow w b n A' D' :=
 World.rowIs.congr h (fun j hj => by
  unfold penC
  obtain ⟨h1, h2⟩ := e (j / 2) (by omega)
  rw [h1, h2])
set_option maxRecDepth 100000 in
set_option maxHeartbeats 1000000 in
theorem toStringS_any (a : Option Addr) (n c : Nat) (f : Nat → ByteArray) (w : World) (h : Strs w a n f) (hn : n ≤ 1048576) :
  Calls Tryz.prog 16 #[.slice a n c] w fun e w' => e = .returned (.slice (some ⟨w.heap.size, 0, none⟩) n n) ∧ w'.rowIs w.heap.size 9 n (fun i => .string (f i)) ∧ Below w.heap.size w w' := by
 have m1 := mkStrsD n hn
 rcases Nat.eq_zero_or_pos n with rfl | hpos
 ·have m0 : ∀ w : World, (Instr.makeSlice 22 (.int .i64 0) (.int .i64 0)).run Tryz.prog w = .ok (.slice (some ⟨w.heap.size, 0, none⟩) 0 0) (w.alloc (.cells (madeCells #[.string ⟨#[]⟩] 0) 9)) := mkStrsD 0 (by omega)
  clear m1
  go_enter Tryz.func16, Tryz.ntmps16
  go_wp2
  go_loopw [4] (fun i wr => i = .int .i64 0 ∧ wr = w.alloc (.cells (madeCells #[.string ⟨#[]⟩] 0) 9)) (fun _ _ => 0)
  case atStart => exact ⟨rfl, rfl⟩
  case round =>
   obtain ⟨rfl, rfl⟩ := hrel
   go_wp2
   go_ret
   exact ⟨rfl, (World.rowIs_made w (.string ⟨#[]⟩) 0 9).congr (fun j hj => by omega), (Below.refl _ _).alloc (Nat.le_refl _) _⟩
 ·obtain ⟨b, off, rfl, hc⟩ := h.opened hpos
  have HC : Hid (∀ i, i < n → w.cell? ⟨b, off + i, none⟩ = some (.string (f i))) := hc
  clear h hc
  go_enter Tryz.func16, Tryz.ntmps16
  go_wp2
  go_loopw [4] (fun i wr => ∃ k : Nat, k ≤ n ∧ i = .int .i64 k ∧ wr.rowIs w.heap.size 9 n (fun j => .string (if j < k then f j else ⟨#[]⟩)) ∧ Below w.heap.size w wr) (fun i _ => n - (intOf i).toNat)
  case atStart =>
   refine ⟨0, by omega, rfl, ?_, (Below.refl _ _).alloc (Nat.le_refl _) _⟩
   exact (World.rowIs_made w (.string ⟨#[]⟩) n 9).congr (fun j hj => by simp)
  case round =>
   obtain ⟨k, hk, rfl, hrow, hb⟩ := hrel
   have HR : Hid (wr.rowIs w.heap.size 9 n (fun j => .string (if j < k then f j else ⟨#[]⟩))) := hrow
   have HB : Hid (Below w.heap.size w wr) := hb
   by_cases hlt : k < n
   ·have c0 := HC.out k hlt
    have c1 : wr.cell? ⟨b, off + k, none⟩ = some (.string (f k)) := by rw [hb.cell (strBlock c0)]; exact c0
    have c2 := hrow.cell hlt
    have f2 := hrow.frozen k
    have e2 : (if k < k then f k else (⟨#[]⟩ : ByteArray)) = ⟨#[]⟩ := if_neg (by omega)
    rw [e2] at c2
    have HK : Hid (∃ V, V = f k) := ⟨_, rfl⟩
    clear hrow hb c0 e2 m1
    go_wp2
    go_roundw
    case rel =>
     refine ⟨k + 1, by omega, by go_num, ?_, HB.out.setCell (by simp) _⟩
     exact (HR.out.set k _).congr (fun j hj => by
      by_cases e : j = k
      ·subst e; simp
      ·simp only [if_neg e]
       by_cases g : j < k
       ·rw [if_pos g, if_pos (by omega)]
       ·rw [if_neg g, if_neg (by omega)])
    case measure => simp [intOf]; omega
   ·clear hrow hb m1
    go_wp2
    go_ret
    exact ⟨rfl, HR.out.congr (fun j hj => by rw [if_pos (by omega)]), HB.out⟩
set_option maxRecDepth 100000 in
theorem toPending_any (x : Int) (s : ByteArray) (w : World) :
  Calls Tryz.prog 33 #[.agg #[.int .i64 x, .string s]] w fun e w' => e = .returned (.agg #[.int .i64 x, .string s]) ∧ Below w.heap.size w w' := by
 go_enter Tryz.func33, Tryz.ntmps33
 go_wp2
 refine ret_cell (b := w.heap.size + 1) (v := .agg #[.int .i64 x, .string s]) Tryz.results33 rfl (by go_simp) ⟨rfl, (((Below.refl w.heap.size w).alloc (Nat.le_refl _) _).alloc (by simp) _).alloc (by simp; omega) _⟩
set_option maxRecDepth 100000 in
set_option maxHeartbeats 1000000 in
theorem toPendingS_any (a : Option Addr) (n c : Nat) (A : Nat → Int) (D : Nat → ByteArray) (w : World) (h : Pens w a n A D) (hn : n ≤ 1048576) :
  Calls Tryz.prog 17 #[.slice a n c] w fun e w' => e = .returned (.slice (some ⟨w.heap.size, 0, none⟩) n n) ∧ PenRow w' w.heap.size n A D ∧ Below w.heap.size w w' := by
 have m1 := mkPens n hn
 rcases Nat.eq_zero_or_pos n with rfl | hpos
 ·have m0 : ∀ w : World, (Instr.makeSlice 27 (.int .i64 0) (.int .i64 0)).run Tryz.prog w = .ok (.slice (some ⟨w.heap.size, 0, none⟩) 0 0) (w.alloc (.cells (madeCells #[.int .i64 0, .string ⟨#[]⟩] (0 * 2)) 68)) := mkPens 0 (by omega)
  have P0 : Hid (PenRow (w.alloc (.cells (madeCells #[.int .i64 0, .string ⟨#[]⟩] (0 * 2)) 68)) w.heap.size 0 A D) := (PenRow.made w 0).congr (fun i hi => absurd hi (by omega))
  have B0 : Hid (Below w.heap.size w (w.alloc (.cells (madeCells #[.int .i64 0, .string ⟨#[]⟩] (0 * 2)) 68))) := (Below.refl _ _).alloc (Nat.le_refl _) _
  clear m1
  go_enter Tryz.func17, Tryz.ntmps17
  go_wp2
  go_loopw [4] (fun i wr => i = .int .i64 0 ∧ wr = w.alloc (.cells (madeCells #[.int .i64 0, .string ⟨#[]⟩] (0 * 2)) 68)) (fun _ _ => 0)
  case atStart => exact ⟨rfl, rfl⟩
  case round =>
   obtain ⟨rfl, rfl⟩ := hrel
   go_wp2
   go_ret
   exact ⟨rfl, P0.out, B0.out⟩
 ·obtain ⟨b, off, rfl, hc⟩ := h.opened hpos
  have HC : Hid (∀ i, i < n → w.cell? ⟨b, off + i * 2, none⟩ = some (.int .i64 (A i)) ∧ w.cell? ⟨b, off + i * 2 + 1, none⟩ = some (.string (D i))) := hc
  clear h hc
  go_enter Tryz.func17, Tryz.ntmps17
  go_wp2
  go_loopw [4] (fun i wr => ∃ k : Nat, k ≤ n ∧ i = .int .i64 k ∧ PenRow wr w.heap.size n (fun j => if j < k then A j else 0) (fun j => if j < k then D j else ⟨#[]⟩) ∧ Below w.heap.size w wr) (fun i _ => n - (intOf i).toNat)
  case atStart => exact ⟨0, by omega, rfl, (PenRow.made w n).congr (fun j hj => by simp), (Below.refl _ _).alloc (Nat.le_refl _) _⟩
  case round =>
   obtain ⟨k, hk, rfl, hrow, hb⟩ := hrel
   by_cases hlt : k < n
   ·obtain ⟨c0, d0⟩ := HC.out k hlt
    have c1 : wr.cell? ⟨b, off + k * 2, none⟩ = some (.int .i64 (A k)) := by rw [hb.cell (strBlock c0)]; exact c0
    have d1 : wr.cell? ⟨b, off + k * 2 + 1, none⟩ = some (.string (D k)) := by rw [hb.cell (strBlock d0)]; exact d0
    have TP : Hid (∀ w : World, Calls Tryz.prog 33 #[.agg #[.int .i64 (A k), .string (D k)]] w fun e w' => e = .returned (.agg #[.int .i64 (A k), .string (D k)]) ∧ Below w.heap.size w w') := toPending_any (A k) (D k)
    have HR : Hid (PenRow wr w.heap.size n (fun j => if j < k then A j else 0) (fun j => if j < k then D j else ⟨#[]⟩)) := hrow
    have HB : Hid (Below w.heap.size w wr) := hb
    clear hrow hb c0 d0 m1
    go_wp2_with fail
    refine (TP.out _).mono ?_
    rintro e w1 ⟨rfl, hb⟩
    have R1 := HR.out.ofBlock (hb.block _ (World.rowIs.lt HR.out))
    have g0 := World.rowIs.cell R1 (i := k * 2) (by omega)
    have g1 := World.rowIs.cell R1 (i := k * 2 + 1) (by omega)
    have f0 := World.rowIs.frozen R1 (k * 2)
    have f1 := World.rowIs.frozen R1 (k * 2 + 1)
    rw [penC0] at g0
    rw [penC1] at g1
    have H1 : Hid (PenRow w1 w.heap.size n (fun j => if j < k then A j else 0) (fun j => if j < k then D j else ⟨#[]⟩)) := R1
    have B1 : Hid (Below w.heap.size w w1) := HB.out.trans (hb.mono HB.out.size)
    generalize (if k < k then A k else 0) = u at *
    generalize (if k < k then D k else ⟨#[]⟩) = v at *
    clear R1 hb HR HB TP c1 d1
    go_wp2
    go_roundw
    case rel =>
     refine ⟨k + 1, by omega, by go_num, (H1.out.put k (A k) (D k)).congr (fun j hj => ?_), (B1.out.setCell (by simp) _).setCell (by simp) _⟩
     by_cases e : j = k
     ·subst e; simp
     ·simp only [if_neg e]
      by_cases g : j < k
      ·rw [if_pos g, if_pos (by omega), if_pos g, if_pos (by omega)]; exact ⟨rfl, rfl⟩
      ·rw [if_neg g, if_neg (by omega), if_neg g, if_neg (by omega)]; exact ⟨rfl, rfl⟩
    case measure => simp [intOf]; omega
   ·have HR : Hid (PenRow wr w.heap.size n A D) := hrow.congr (fun i hi => by rw [if_pos (by omega), if_pos (by omega)]; exact ⟨rfl, rfl⟩)
    have HB : Hid (Below w.heap.size w wr) := hb
    clear hrow hb m1
    go_wp2
    go_ret
    exact ⟨rfl, HR.out, HB.out⟩
set_option maxRecDepth 100000 in
set_option maxHeartbeats 1000000 in
theorem toDisk_any (d : Dk) (a0 a1 a2 : Option Addr) (c0 c1 c2 : Nat) (w : World) (h : DiskV w d a0 a1 a2) (h0 : d.nb ≤ 1048576) (h1 : d.nc ≤ 1048576) (h2 : d.ns ≤ 1048576) :
  Calls Tryz.prog 6 #[.agg #[.slice a0 d.nb c0, .slice a1 d.nc c1, .slice a2 d.ns c2]] w fun e w' => (∃ g0 g1 g2, w.heap.size ≤ g0 ∧ g0 < g1 ∧ g1 < g2 ∧ e = .returned (.agg #[.slice (some ⟨g0, 0, none⟩) d.nb d.nb, .slice (some ⟨g1, 0, none⟩) d.nc d.nc, .slice (some ⟨g2, 0, none⟩) d.ns d.ns]) ∧ w'.rowIs g0 9 d.nb (fun i => .string (d.B i)) ∧ PenRow w' g1 d.nc d.A d.D ∧ w'.rowIs g2 9 d.ns (fun i => .string (d.S i))) ∧ Below w.heap.size w w' := by
 have T0 : Hid (∀ w : World, Strs w a0 d.nb d.B → Calls Tryz.prog 16 #[.slice a0 d.nb c0] w fun e w' => e = .returned (.slice (some ⟨w.heap.size, 0, none⟩) d.nb d.nb) ∧ w'.rowIs w.heap.size 9 d.nb (fun i => .string (d.B i)) ∧ Below w.heap.size w w') := fun w h => toStringS_any a0 d.nb c0 d.B w h h0
 have T1 : Hid (∀ w : World, Pens w a1 d.nc d.A d.D → Calls Tryz.prog 17 #[.slice a1 d.nc c1] w fun e w' => e = .returned (.slice (some ⟨w.heap.size, 0, none⟩) d.nc d.nc) ∧ PenRow w' w.heap.size d.nc d.A d.D ∧ Below w.heap.size w w') := fun w h => toPendingS_any a1 d.nc c1 d.A d.D w h h1
 have T2 : Hid (∀ w : World, Strs w a2 d.ns d.S → Calls Tryz.prog 16 #[.slice a2 d.ns c2] w fun e w' => e = .returned (.slice (some ⟨w.heap.size, 0, none⟩) d.ns d.ns) ∧ w'.rowIs w.heap.size 9 d.ns (fun i => .string (d.S i)) ∧ Below w.heap.size w w') := fun w h => toStringS_any a2 d.ns c2 d.S w h h2
 have HD : Hid (DiskV w d a0 a1 a2) := h
 clear h h0 h1 h2
 go_enter Tryz.func6, Tryz.ntmps6
 have A1 : Hid (Below w.heap.size w (((w.alloc (.cells #[.slice a0 d.nb c0, .slice a1 d.nc c1, .slice a2 d.ns c2] 25)).alloc (.cells #[.slice none 0 0, .slice none 0 0, .slice none 0 0] 29)).alloc (.cells #[.slice none 0 0, .slice none 0 0, .slice none 0 0] 29))) := (((Below.refl w.heap.size w).alloc (Nat.le_refl _) _).alloc (by simp) _).alloc (by simp; omega) _
 have sz : (((w.alloc (.cells #[.slice a0 d.nb c0, .slice a1 d.nc c1, .slice a2 d.ns c2] 25)).alloc (.cells #[.slice none 0 0, .slice none 0 0, .slice none 0 0] 29)).alloc (.cells #[.slice none 0 0, .slice none 0 0, .slice none 0 0] 29)).heap.size = w.heap.size + 3 := by simp
 have RA : Hid (Box3 (((w.alloc (.cells #[.slice a0 d.nb c0, .slice a1 d.nc c1, .slice a2 d.ns c2] 25)).alloc (.cells #[.slice none 0 0, .slice none 0 0, .slice none 0 0] 29)).alloc (.cells #[.slice none 0 0, .slice none 0 0, .slice none 0 0] 29)) w.heap.size 25 (.slice a0 d.nb c0) (.slice a1 d.nc c1) (.slice a2 d.ns c2)) := ((Box3.made w _ _ _ _).alloc _).alloc _
 have RB : Hid (Box3 (((w.alloc (.cells #[.slice a0 d.nb c0, .slice a1 d.nc c1, .slice a2 d.ns c2] 25)).alloc (.cells #[.slice none 0 0, .slice none 0 0, .slice none 0 0] 29)).alloc (.cells #[.slice none 0 0, .slice none 0 0, .slice none 0 0] 29)) (w.heap.size + 1) 29 (.slice none 0 0) (.slice none 0 0) (.slice none 0 0)) := (Box3.madeAt (by simp) _ _ _ _).alloc _
 have RC : Hid (Box3 (((w.alloc (.cells #[.slice a0 d.nb c0, .slice a1 d.nc c1, .slice a2 d.ns c2] 25)).alloc (.cells #[.slice none 0 0, .slice none 0 0, .slice none 0 0] 29)).alloc (.cells #[.slice none 0 0, .slice none 0 0, .slice none 0 0] 29)) (w.heap.size + 1 + 1) 29 (.slice none 0 0) (.slice none 0 0) (.slice none 0 0)) := Box3.madeAt (by simp) _ _ _ _
 go_wp2_with fail
 generalize (((w.alloc (.cells #[.slice a0 d.nb c0, .slice a1 d.nc c1, .slice a2 d.ns c2] 25)).alloc (.cells #[.slice none 0 0, .slice none 0 0, .slice none 0 0] 29)).alloc (.cells #[.slice none 0 0, .slice none 0 0, .slice none 0 0] 29)) = v at *
 refine (T0.out _ (HD.out.1.below A1.out)).mono ?_
 rintro e w1 ⟨rfl, hr0, hb⟩
 have hv := hb.size
 replace A1 : Hid (Below w.heap.size w w1) := A1.out.trans (hb.mono A1.out.size)
 replace RA : Hid (Box3 w1 w.heap.size 25 (.slice a0 d.nb c0) (.slice a1 d.nc c1) (.slice a2 d.ns c2)) := RA.out.below hb
 replace RB : Hid (Box3 w1 (w.heap.size + 1) 29 (.slice none 0 0) (.slice none 0 0) (.slice none 0 0)) := RB.out.below hb
 replace RC : Hid (Box3 w1 (w.heap.size + 1 + 1) 29 (.slice none 0 0) (.slice none 0 0) (.slice none 0 0)) := RC.out.below hb
 have E0 : Hid (w1.rowIs v.heap.size 9 d.nb (fun i => .string (d.B i))) := hr0
 have hg0 : w.heap.size + 3 ≤ v.heap.size := by omega
 have hg0' : v.heap.size < w1.heap.size := hr0.lt
 generalize v.heap.size = g0 at *
 have k0 := RC.out.c0
 have k1 := RC.out.fr 0
 have k2 := RA.out.c1
 clear hb hr0 T0 sz hv
 go_wp2_with fail
 have N1 : Hid (Box3 (w1.setCell ⟨w.heap.size + 1 + 1, 0, none⟩ (.slice (some ⟨g0, 0, none⟩) d.nb d.nb)) (w.heap.size + 1 + 1) 29 (.slice (some ⟨g0, 0, none⟩) d.nb d.nb) (.slice none 0 0) (.slice none 0 0)) := RC.out.set0 _
 replace RA : Hid (Box3 (w1.setCell ⟨w.heap.size + 1 + 1, 0, none⟩ (.slice (some ⟨g0, 0, none⟩) d.nb d.nb)) w.heap.size 25 (.slice a0 d.nb c0) (.slice a1 d.nc c1) (.slice a2 d.ns c2)) := RA.out.other (by simp; omega) _
 replace RB : Hid (Box3 (w1.setCell ⟨w.heap.size + 1 + 1, 0, none⟩ (.slice (some ⟨g0, 0, none⟩) d.nb d.nb)) (w.heap.size + 1) 29 (.slice none 0 0) (.slice none 0 0) (.slice none 0 0)) := RB.out.other (by simp) _
 replace E0 : Hid ((w1.setCell ⟨w.heap.size + 1 + 1, 0, none⟩ (.slice (some ⟨g0, 0, none⟩) d.nb d.nb)).rowIs g0 9 d.nb (fun i => .string (d.B i))) := E0.out.setOther (by simp; omega) _
 replace A1 : Hid (Below w.heap.size w (w1.setCell ⟨w.heap.size + 1 + 1, 0, none⟩ (.slice (some ⟨g0, 0, none⟩) d.nb d.nb))) := A1.out.setCell (by simp; omega) _
 have sz1 : (w1.setCell ⟨w.heap.size + 1 + 1, 0, none⟩ (.slice (some ⟨g0, 0, none⟩) d.nb d.nb)).heap.size = w1.heap.size := by simp
 generalize (w1.setCell ⟨w.heap.size + 1 + 1, 0, none⟩ (.slice (some ⟨g0, 0, none⟩) d.nb d.nb)) = v1 at *
 clear RC k0 k1 k2
 refine (T1.out _ (HD.out.2.1.below A1.out)).mono ?_
 rintro e w2 ⟨rfl, hr1, hb⟩
 replace A1 : Hid (Below w.heap.size w w2) := A1.out.trans (hb.mono A1.out.size)
 replace RA : Hid (Box3 w2 w.heap.size 25 (.slice a0 d.nb c0) (.slice a1 d.nc c1) (.slice a2 d.ns c2)) := RA.out.below hb
 replace RB : Hid (Box3 w2 (w.heap.size + 1) 29 (.slice none 0 0) (.slice none 0 0) (.slice none 0 0)) := RB.out.below hb
 replace N1 : Hid (Box3 w2 (w.heap.size + 1 + 1) 29 (.slice (some ⟨g0, 0, none⟩) d.nb d.nb) (.slice none 0 0) (.slice none 0 0)) := N1.out.below hb
 replace E0 : Hid (w2.rowIs g0 9 d.nb (fun i => .string (d.B i))) := E0.out.of_block (hb.block _ E0.out.lt)
 have E1 : Hid (PenRow w2 v1.heap.size d.nc d.A d.D) := hr1
 have hg1 : g0 < v1.heap.size := by omega
 have hg1' : v1.heap.size < w2.heap.size := World.rowIs.lt hr1
 generalize v1.heap.size = g1 at *
 have k0 := N1.out.c1
 have k1 := N1.out.fr 1
 have k2 := RA.out.c2
 clear hb hr1 T1 sz1
 go_wp2_with fail
 have N2 : Hid (Box3 (w2.setCell ⟨w.heap.size + 1 + 1, 1, none⟩ (.slice (some ⟨g1, 0, none⟩) d.nc d.nc)) (w.heap.size + 1 + 1) 29 (.slice (some ⟨g0, 0, none⟩) d.nb d.nb) (.slice (some ⟨g1, 0, none⟩) d.nc d.nc) (.slice none 0 0)) := N1.out.set1 _
 replace RB : Hid (Box3 (w2.setCell ⟨w.heap.size + 1 + 1, 1, none⟩ (.slice (some ⟨g1, 0, none⟩) d.nc d.nc)) (w.heap.size + 1) 29 (.slice none 0 0) (.slice none 0 0) (.slice none 0 0)) := RB.out.other (by simp) _
 replace E0 : Hid ((w2.setCell ⟨w.heap.size + 1 + 1, 1, none⟩ (.slice (some ⟨g1, 0, none⟩) d.nc d.nc)).rowIs g0 9 d.nb (fun i => .string (d.B i))) := E0.out.setOther (by simp; omega) _
 replace E1 : Hid (PenRow (w2.setCell ⟨w.heap.size + 1 + 1, 1, none⟩ (.slice (some ⟨g1, 0, none⟩) d.nc d.nc)) g1 d.nc d.A d.D) := World.rowIs.setOther E1.out (by simp; omega) _
 replace A1 : Hid (Below w.heap.size w (w2.setCell ⟨w.heap.size + 1 + 1, 1, none⟩ (.slice (some ⟨g1, 0, none⟩) d.nc d.nc))) := A1.out.setCell (by simp; omega) _
 have sz2 : (w2.setCell ⟨w.heap.size + 1 + 1, 1, none⟩ (.slice (some ⟨g1, 0, none⟩) d.nc d.nc)).heap.size = w2.heap.size := by simp
 generalize (w2.setCell ⟨w.heap.size + 1 + 1, 1, none⟩ (.slice (some ⟨g1, 0, none⟩) d.nc d.nc)) = v2 at *
 clear N1 RA k0 k1 k2
 refine (T2.out _ (HD.out.2.2.below A1.out)).mono ?_
 rintro e w3 ⟨rfl, hr2, hb⟩
 replace A1 : Hid (Below w.heap.size w w3) := A1.out.trans (hb.mono A1.out.size)
 replace RB : Hid (Box3 w3 (w.heap.size + 1) 29 (.slice none 0 0) (.slice none 0 0) (.slice none 0 0)) := RB.out.below hb
 replace N2 : Hid (Box3 w3 (w.heap.size + 1 + 1) 29 (.slice (some ⟨g0, 0, none⟩) d.nb d.nb) (.slice (some ⟨g1, 0, none⟩) d.nc d.nc) (.slice none 0 0)) := N2.out.below hb
 replace E0 : Hid (w3.rowIs g0 9 d.nb (fun i => .string (d.B i))) := E0.out.of_block (hb.block _ E0.out.lt)
 replace E1 : Hid (PenRow w3 g1 d.nc d.A d.D) := E1.out.ofBlock (hb.block _ (World.rowIs.lt E1.out))
 have E2 : Hid (w3.rowIs v2.heap.size 9 d.ns (fun i => .string (d.S i))) := hr2
 have hg2 : g1 < v2.heap.size := by omega
 generalize v2.heap.size = g2 at *
 have k0 := N2.out.c2
 have k1 := N2.out.fr 2
 have k3 := N2.out.c0
 have k4 := N2.out.c1
 have k5 := RB.out.c0
 have k6 := RB.out.c1
 have k7 := RB.out.c2
 have k8 := RB.out.fr 0
 have k9 := RB.out.fr 1
 have k10 := RB.out.fr 2
 clear hb hr2 T2 sz2 HD
 go_wp2
 have F0 : ((((w3.setCell ⟨w.heap.size + 1 + 1, 2, none⟩ (.slice (some ⟨g2, 0, none⟩) d.ns d.ns)).setCell ⟨w.heap.size + 1, 0, none⟩ (.slice (some ⟨g0, 0, none⟩) d.nb d.nb)).setCell ⟨w.heap.size + 1, 1, none⟩ (.slice (some ⟨g1, 0, none⟩) d.nc d.nc)).setCell ⟨w.heap.size + 1, 2, none⟩ (.slice (some ⟨g2, 0, none⟩) d.ns d.ns)).rowIs g0 9 d.nb (fun i => .string (d.B i)) := (((E0.out.setOther (by simp; omega) _).setOther (by simp; omega) _).setOther (by simp; omega) _).setOther (by simp; omega) _
 have F1 : PenRow ((((w3.setCell ⟨w.heap.size + 1 + 1, 2, none⟩ (.slice (some ⟨g2, 0, none⟩) d.ns d.ns)).setCell ⟨w.heap.size + 1, 0, none⟩ (.slice (some ⟨g0, 0, none⟩) d.nb d.nb)).setCell ⟨w.heap.size + 1, 1, none⟩ (.slice (some ⟨g1, 0, none⟩) d.nc d.nc)).setCell ⟨w.heap.size + 1, 2, none⟩ (.slice (some ⟨g2, 0, none⟩) d.ns d.ns)) g1 d.nc d.A d.D := (((World.rowIs.setOther E1.out (by simp; omega) _).setOther (by simp; omega) _).setOther (by simp; omega) _).setOther (by simp; omega) _
 have F2 : ((((w3.setCell ⟨w.heap.size + 1 + 1, 2, none⟩ (.slice (some ⟨g2, 0, none⟩) d.ns d.ns)).setCell ⟨w.heap.size + 1, 0, none⟩ (.slice (some ⟨g0, 0, none⟩) d.nb d.nb)).setCell ⟨w.heap.size + 1, 1, none⟩ (.slice (some ⟨g1, 0, none⟩) d.nc d.nc)).setCell ⟨w.heap.size + 1, 2, none⟩ (.slice (some ⟨g2, 0, none⟩) d.ns d.ns)).rowIs g2 9 d.ns (fun i => .string (d.S i)) := (((E2.out.setOther (by simp; omega) _).setOther (by simp; omega) _).setOther (by simp; omega) _).setOther (by simp; omega) _
 have FB : Box3 ((((w3.setCell ⟨w.heap.size + 1 + 1, 2, none⟩ (.slice (some ⟨g2, 0, none⟩) d.ns d.ns)).setCell ⟨w.heap.size + 1, 0, none⟩ (.slice (some ⟨g0, 0, none⟩) d.nb d.nb)).setCell ⟨w.heap.size + 1, 1, none⟩ (.slice (some ⟨g1, 0, none⟩) d.nc d.nc)).setCell ⟨w.heap.size + 1, 2, none⟩ (.slice (some ⟨g2, 0, none⟩) d.ns d.ns)) (w.heap.size + 1) 29 (.slice (some ⟨g0, 0, none⟩) d.nb d.nb) (.slice (some ⟨g1, 0, none⟩) d.nc d.nc) (.slice (some ⟨g2, 0, none⟩) d.ns d.ns) := (((RB.out.other (by simp) _).set0 _).set1 _).set2 _
 have FA : Below w.heap.size w ((((w3.setCell ⟨w.heap.size + 1 + 1, 2, none⟩ (.slice (some ⟨g2, 0, none⟩) d.ns d.ns)).setCell ⟨w.heap.size + 1, 0, none⟩ (.slice (some ⟨g0, 0, none⟩) d.nb d.nb)).setCell ⟨w.heap.size + 1, 1, none⟩ (.slice (some ⟨g1, 0, none⟩) d.nc d.nc)).setCell ⟨w.heap.size + 1, 2, none⟩ (.slice (some ⟨g2, 0, none⟩) d.ns d.ns)) := (((A1.out.setCell (by simp; omega) _).setCell (by simp) _).setCell (by simp) _).setCell (by simp) _
 exact ret_cell (b := w.heap.size + 1) Tryz.results6 rfl FB.load ⟨⟨g0, g1, g2, by omega, by omega, hg2, rfl, F0, F1, F2⟩, FA⟩
set_option maxRecDepth 100000 in
set_option maxHeartbeats 1000000 in
theorem szStringS_any (a : Option Addr) (n c : Nat) (f : Nat → ByteArray) (x : Int) (w : World) (h : Strs w a n f) (hx0 : 0 ≤ x) (hx : x ≤ 1048576) (hn : n ≤ maxLen) (hf : ∀ i, i < n → (f i).size ≤ maxLen) :
  Calls Tryz.prog 11 #[.slice a n c, .int .i64 x] w fun e w' => (∃ y : Int, e = .returned (.int .i64 y) ∧ y ≤ 1048576 ∧ (0 ≤ y → n ≤ 1048576)) ∧ w = w' := by
 unfold maxLen at hn hf
 by_cases h0 : (n : Int) ≤ x
 ·obtain ⟨y, hy⟩ : ∃ y, y = x - (n : Int) := ⟨_, rfl⟩
  have ey : x - (n : Int) = y := hy.symm
  have e0 : ¬ y < 0 := by omega
  have e1 : n ≤ 1048576 := by omega
  have ha : n = 0 ∨ ∃ b off, a = some ⟨b, off, none⟩ ∧ ∀ i, i < n → w.cell? ⟨b, off + i, none⟩ = some (.string (f i)) := by
   rcases Nat.eq_zero_or_pos n with rfl | hpos
   ·exact .inl rfl
   ·exact .inr (h.opened hpos)
  have HA : Hid (n = 0 ∨ ∃ b off, a = some ⟨b, off, none⟩ ∧ ∀ i, i < n → w.cell? ⟨b, off + i, none⟩ = some (.string (f i))) := ha
  have HF : Hid (∀ i, i < n → (f i).size ≤ 2 ^ 63 - 1) := hf
  have y0 : y ≤ 1048576 := by omega
  clear h ha hf hy
  go_enter Tryz.func11, Tryz.ntmps11
  go_wp2
  go_loopw [1, 5] (fun l i wr => ∃ (k : Nat) (z : Int), k ≤ n ∧ i = .int .i64 k ∧ l = .int .i64 z ∧ 0 ≤ z ∧ z ≤ 1048576 ∧ w = wr) (fun _ i _ => n - (intOf i).toNat)
  case atStart => exact ⟨0, y, by omega, rfl, rfl, by omega, by omega, rfl⟩
  case round =>
   obtain ⟨k, z, hk, rfl, rfl, hz, hz2, rfl⟩ := hrel
   by_cases hlt : k < n
   ·rcases HA.out with h1 | ⟨b, off, rfl, hc⟩
    ·omega
    ·have c1 := hc k hlt
     have hs := HF.out k hlt
     have hlt' : (k : Int) < (n : Int) := by omega
     generalize f k = V at *
     clear hc HA
     by_cases hz3 : z - (V.size : Int) < 0
     ·have x1 : z - (V.size : Int) < 0 := hz3
      have x2 : IntKind.i64.wrap (z - (V.size : Int)) = z - (V.size : Int) := IntWalk.i64_in _ (by omega)
      go_wp2
      go_ret
      exact ⟨⟨-1, rfl, by omega, by omega⟩, rfl⟩
     ·have x1 : ¬ z - (V.size : Int) < 0 := hz3
      have x2 : IntKind.i64.wrap (z - (V.size : Int)) = z - (V.size : Int) := IntWalk.i64_in _ (by omega)
      go_wp2
      go_roundw
      case rel => exact ⟨k + 1, z - (V.size : Int), by omega, by go_num, rfl, by omega, by omega, trivial⟩
      case measure => simp [intOf]; omega
   ·have hlt' : ¬ (k : Int) < (n : Int) := by omega
    clear HA
    go_wp2
    go_ret
    exact ⟨⟨z, rfl, hz2⟩, rfl⟩
 ·have e0 : x - (n : Int) < 0 := by omega
  go_enter Tryz.func11, Tryz.ntmps11
  go_wp2
  go_ret
  exact ⟨⟨-1, rfl, by omega, by omega⟩, rfl⟩
set_option maxRecDepth 100000 in
theorem szPending_any (a : Int) (s : ByteArray) (x : Int) (w : World) (hx0 : 0 ≤ x) (hx : x ≤ 1048576) (hs : s.size ≤ maxLen) :
  Calls Tryz.prog 28 #[.agg #[.int .i64 a, .string s], .int .i64 x] w fun e w' => (∃ y : Int, e = .returned (.int .i64 y) ∧ -1 ≤ y ∧ y ≤ 1048576) ∧ Below w.heap.size w w' := by
 unfold maxLen at hs
 have x2 : IntKind.i64.wrap (x - (s.size : Int)) = x - (s.size : Int) := IntWalk.i64_in _ (by omega)
 by_cases h0 : x - (s.size : Int) < 0
 ·go_enter Tryz.func28, Tryz.ntmps28
  go_wp2
  go_ret
  exact ⟨⟨-1, rfl, by omega, by omega⟩, (Below.refl w.heap.size w).alloc (Nat.le_refl _) _⟩
 ·go_enter Tryz.func28, Tryz.ntmps28
  go_wp2
  go_ret
  exact ⟨⟨_, rfl, by omega, by omega⟩, (Below.refl w.heap.size w).alloc (Nat.le_refl _) _⟩
set_option maxRecDepth 100000 in
set_option maxHeartbeats 1000000 in
theorem szPendingS_any (a : Option Addr) (n c : Nat) (A : Nat → Int) (D : Nat → ByteArray) (x : Int) (w : World) (h : Pens w a n A D) (hx0 : 0 ≤ x) (hx : x ≤ 1048576) (hn : n ≤ maxLen) (hf : ∀ i, i < n → (D i).size ≤ maxLen) :
  Calls Tryz.prog 12 #[.slice a n c, .int .i64 x] w fun e w' => (∃ y : Int, e = .returned (.int .i64 y) ∧ y ≤ 1048576 ∧ (0 ≤ y → n ≤ 1048576)) ∧ Below w.heap.size w w' := by
 unfold maxLen at hn
 by_cases h0 : (n : Int) ≤ x
 ·obtain ⟨y, hy⟩ : ∃ y, y = x - (n : Int) := ⟨_, rfl⟩
  have ey : x - (n : Int) = y := hy.symm
  have e0 : ¬ y < 0 := by omega
  have e1 : n ≤ 1048576 := by omega
  have HA : Hid (Pens w a n A D) := h
  have HF : Hid (∀ i, i < n → (D i).size ≤ maxLen) := hf
  have y0 : y ≤ 1048576 := by omega
  clear h hf hy
  go_enter Tryz.func12, Tryz.ntmps12
  go_wp2
  go_loopw [1, 5] (fun l i wr => ∃ (k : Nat) (z : Int), k ≤ n ∧ i = .int .i64 k ∧ l = .int .i64 z ∧ 0 ≤ z ∧ z ≤ 1048576 ∧ Below w.heap.size w wr) (fun _ i _ => n - (intOf i).toNat)
  case atStart => exact ⟨0, y, by omega, rfl, rfl, by omega, by omega, Below.refl _ _⟩
  case round =>
   obtain ⟨k, z, hk, rfl, rfl, hz, hz2, hb⟩ := hrel
   have HB : Hid (Below w.heap.size w wr) := hb
   by_cases hlt : k < n
   ·obtain ⟨b, off, rfl, hc⟩ := (HA.out.below hb).opened (by omega)
    obtain ⟨c1, c2⟩ := hc k hlt
    have hlt' : (k : Int) < (n : Int) := by omega
    have SP : Hid (∀ w : World, Calls Tryz.prog 28 #[.agg #[.int .i64 (A k), .string (D k)], .int .i64 z] w fun e w' => (∃ y : Int, e = .returned (.int .i64 y) ∧ -1 ≤ y ∧ y ≤ 1048576) ∧ Below w.heap.size w w') := fun w => szPending_any _ _ z w hz hz2 (HF.out k hlt)
    clear hc hb
    go_wp2_with fail
    refine (SP.out _).mono ?_
    rintro e w1 ⟨⟨y1, rfl, hy1, hy2⟩, hb⟩
    have B1 : Hid (Below w.heap.size w w1) := HB.out.trans (hb.mono HB.out.size)
    clear hb HB SP c1 c2
    by_cases hz3 : y1 < 0
    ·go_wp2
     go_ret
     exact ⟨⟨-1, rfl, by omega, by omega⟩, B1.out⟩
    ·go_wp2
     go_roundw
     case rel => exact ⟨k + 1, y1, by omega, by go_num, rfl, by omega, by omega, B1.out⟩
     case measure => simp [intOf]; omega
   ·have hlt' : ¬ (k : Int) < (n : Int) := by omega
    clear hb
    go_wp2
    go_ret
    exact ⟨⟨z, rfl, hz2⟩, HB.out⟩
 ·have e0 : x - (n : Int) < 0 := by omega
  go_enter Tryz.func12, Tryz.ntmps12
  go_wp2
  go_ret
  exact ⟨⟨-1, rfl, by omega, by omega⟩, Below.refl _ _⟩
set_option maxRecDepth 100000 in
theorem eqPending_yes (x : Int) (s : ByteArray) (w : World) :
  Calls Tryz.prog 44 #[.agg #[.int .i64 x, .string s], .agg #[.int .i64 x, .string s]] w fun e w' => e = .returned (.bool true) ∧ Below w.heap.size w w' := by
 have e1 : (x != x) = false := by simp
 go_enter Tryz.func44, Tryz.ntmps44
 go_wp2
 go_ret
 exact ⟨rfl, ((Below.refl w.heap.size w).alloc (Nat.le_refl _) _).alloc (by simp) _⟩
set_option maxRecDepth 100000 in
set_option maxHeartbeats 1000000 in
theorem eqPendingS_yes (a b : Option Addr) (n c d : Nat) (A : Nat → Int) (D : Nat → ByteArray) (A' : Nat → Int) (D' : Nat → ByteArray) (w : World) (h : Pens w a n A D) (h' : Pens w b n A' D') (he : ∀ i, i < n → A i = A' i ∧ D i = D' i) (hn : n ≤ 1048576) :
  Calls Tryz.prog 23 #[.slice a n c, .slice b n d] w fun e w' => e = .returned (.bool true) ∧ Below w.heap.size w w' := by
 have HA : Hid (Pens w a n A D) := h
 have HA' : Hid (Pens w b n A D) := fun i hi => by obtain ⟨e1, e2⟩ := he i hi; rw [e1, e2]; exact h' i hi
 have hne : ((n : Int) != (n : Int)) = false := by simp
 clear h h' he
 go_enter Tryz.func23, Tryz.ntmps23
 go_wp2
 go_loopw [5] (fun i wr => ∃ k : Nat, k ≤ n ∧ i = .int .i64 k ∧ Below w.heap.size w wr) (fun i _ => n - (intOf i).toNat)
 case atStart => exact ⟨0, by omega, rfl, Below.refl _ _⟩
 case round =>
  obtain ⟨k, hk, rfl, hb⟩ := hrel
  have HB : Hid (Below w.heap.size w wr) := hb
  by_cases hlt : k < n
  ·obtain ⟨b1, o1, rfl, hc⟩ := (HA.out.below hb).opened (by omega)
   obtain ⟨b2, o2, rfl, hc'⟩ := (HA'.out.below hb).opened (by omega)
   obtain ⟨c1, c2⟩ := hc k hlt
   obtain ⟨c3, c4⟩ := hc' k hlt
   have hlt' : (k : Int) < (n : Int) := by omega
   have EP : Hid (∀ w : World, Calls Tryz.prog 44 #[.agg #[.int .i64 (A k), .string (D k)], .agg #[.int .i64 (A k), .string (D k)]] w fun e w' => e = .returned (.bool true) ∧ Below w.heap.size w w') := eqPending_yes (A k) (D k)
   clear hc hc' hb
   go_wp2_with fail
   go_region_with (go_at_call 44; refine (EP.out _).mono ?_; rintro e w' ⟨rfl, hb⟩)
   all_goals
    have B1 : Hid (Below w.heap.size w w') := HB.out.drew.trans (hb.mono HB.out.size)
    clear hb HB EP c1 c2 c3 c4
    dsimp only [Act.put]
    go_wp2
    go_roundw
    case rel => exact ⟨k + 1, by omega, by go_num, B1.out⟩
    case measure => simp [intOf]; omega
  ·go_wp2
   go_ret
   exact ⟨rfl, HB.out⟩
set_option maxRecDepth 100000 in
set_option maxHeartbeats 1000000 in
theorem eqDisk_yes (x y : Dk) (a0 a1 a2 b0 b1 b2 : Option Addr) (c0 c1 c2 d0 d1 d2 : Nat) (w : World) (h : DiskV w x a0 a1 a2) (h' : DiskV w y b0 b1 b2) (e0 : x.nb = y.nb) (e1 : x.nc = y.nc) (e2 : x.ns = y.ns) (eB : ∀ i, i < x.nb → x.B i = y.B i) (eC : ∀ i, i < x.nc → x.A i = y.A i ∧ x.D i = y.D i) (eS : ∀ i, i < x.ns → x.S i = y.S i) (l0 : x.nb ≤ 1048576) (l1 : x.nc ≤ 1048576) (l2 : x.ns ≤ 1048576) :
  Calls Tryz.prog 8 #[.agg #[.slice a0 x.nb c0, .slice a1 x.nc c1, .slice a2 x.ns c2], .agg #[.slice b0 y.nb d0, .slice b1 y.nc d1, .slice b2 y.ns d2]] w fun e w' => e = .returned (.bool true) ∧ Below w.heap.size w w' := by
 have Q0 : Hid (∀ w : World, Strs w a0 x.nb x.B → Strs w b0 y.nb y.B → Calls Tryz.prog 22 #[.slice a0 x.nb c0, .slice b0 y.nb d0] w fun e w' => e = .returned (.bool true) ∧ ∃ q, w' = w.drewN q) := fun w k k' => by rw [← e0] at k' ⊢; exact eqStringS_yes a0 b0 x.nb c0 d0 x.B y.B w k k' eB l0
 have Q1 : Hid (∀ w : World, Pens w a1 x.nc x.A x.D → Pens w b1 y.nc y.A y.D → Calls Tryz.prog 23 #[.slice a1 x.nc c1, .slice b1 y.nc d1] w fun e w' => e = .returned (.bool true) ∧ Below w.heap.size w w') := fun w k k' => by rw [← e1] at k' ⊢; exact eqPendingS_yes a1 b1 x.nc c1 d1 x.A x.D y.A y.D w k k' eC l1
 have Q2 : Hid (∀ w : World, Strs w a2 x.ns x.S → Strs w b2 y.ns y.S → Calls Tryz.prog 22 #[.slice a2 x.ns c2, .slice b2 y.ns d2] w fun e w' => e = .returned (.bool true) ∧ ∃ q, w' = w.drewN q) := fun w k k' => by rw [← e2] at k' ⊢; exact eqStringS_yes a2 b2 x.ns c2 d2 x.S y.S w k k' eS l2
 have HX : Hid (DiskV w x a0 a1 a2) := h
 have HY : Hid (DiskV w y b0 b1 b2) := h'
 clear h h' e0 e1 e2 eB eC eS l0 l1 l2
 have A1 : Hid (Below w.heap.size w ((w.alloc (.cells #[.slice a0 x.nb c0, .slice a1 x.nc c1, .slice a2 x.ns c2] 29)).alloc (.cells #[.slice b0 y.nb d0, .slice b1 y.nc d1, .slice b2 y.ns d2] 29))) := ((Below.refl w.heap.size w).alloc (Nat.le_refl _) _).alloc (by simp) _
 have RA : Hid (Box3 ((w.alloc (.cells #[.slice a0 x.nb c0, .slice a1 x.nc c1, .slice a2 x.ns c2] 29)).alloc (.cells #[.slice b0 y.nb d0, .slice b1 y.nc d1, .slice b2 y.ns d2] 29)) w.heap.size 29 (.slice a0 x.nb c0) (.slice a1 x.nc c1) (.slice a2 x.ns c2)) := (Box3.made w _ _ _ _).alloc _
 have RB : Hid (Box3 ((w.alloc (.cells #[.slice a0 x.nb c0, .slice a1 x.nc c1, .slice a2 x.ns c2] 29)).alloc (.cells #[.slice b0 y.nb d0, .slice b1 y.nc d1, .slice b2 y.ns d2] 29)) (w.heap.size + 1) 29 (.slice b0 y.nb d0) (.slice b1 y.nc d1) (.slice b2 y.ns d2)) := Box3.madeAt (by simp) _ _ _ _
 go_enter Tryz.func8, Tryz.ntmps8
 go_wp2_with fail
 generalize ((w.alloc (.cells #[.slice a0 x.nb c0, .slice a1 x.nc c1, .slice a2 x.ns c2] 29)).alloc (.cells #[.slice b0 y.nb d0, .slice b1 y.nc d1, .slice b2 y.ns d2] 29)) = v at *
 refine (Q0.out _ (HX.out.1.below A1.out) (HY.out.1.below A1.out)).mono ?_
 rintro e w1 ⟨rfl, q, rfl⟩
 have hb : Below v.heap.size v (v.drewN q) := ⟨rfl, rfl, rfl, Nat.le_refl _, fun _ _ => rfl⟩
 generalize v.drewN q = v1 at *
 replace A1 : Hid (Below w.heap.size w v1) := A1.out.trans (hb.mono A1.out.size)
 replace RA : Hid (Box3 v1 w.heap.size 29 (.slice a0 x.nb c0) (.slice a1 x.nc c1) (.slice a2 x.ns c2)) := RA.out.below hb
 replace RB : Hid (Box3 v1 (w.heap.size + 1) 29 (.slice b0 y.nb d0) (.slice b1 y.nc d1) (.slice b2 y.ns d2)) := RB.out.below hb
 have k1 := RA.out.c1
 have k2 := RB.out.c1
 clear hb Q0
 go_wp2_with fail
 refine (Q1.out _ (HX.out.2.1.below A1.out) (HY.out.2.1.below A1.out)).mono ?_
 rintro e v2 ⟨rfl, hb⟩
 replace A1 : Hid (Below w.heap.size w v2) := A1.out.trans (hb.mono A1.out.size)
 replace RA : Hid (Box3 v2 w.heap.size 29 (.slice a0 x.nb c0) (.slice a1 x.nc c1) (.slice a2 x.ns c2)) := RA.out.below hb
 replace RB : Hid (Box3 v2 (w.heap.size + 1) 29 (.slice b0 y.nb d0) (.slice b1 y.nc d1) (.slice b2 y.ns d2)) := RB.out.below hb
 clear hb Q1 k1 k2
 have k1 := RA.out.c2
 have k2 := RB.out.c2
 go_wp2_with fail
 refine (Q2.out _ (HX.out.2.2.below A1.out) (HY.out.2.2.below A1.out)).mono ?_
 rintro e w1 ⟨rfl, q, rfl⟩
 have hb : Below v2.heap.size v2 (v2.drewN q) := ⟨rfl, rfl, rfl, Nat.le_refl _, fun _ _ => rfl⟩
 generalize v2.drewN q = v3 at *
 replace A1 : Hid (Below w.heap.size w v3) := A1.out.trans (hb.mono A1.out.size)
 clear hb Q2 k1 k2 RA RB
 go_wp2
 go_ret
 exact ⟨rfl, A1.out⟩
end Go.Proofs.YtboekhegbachpaaGreatDoor
namespace Go.Proofs.YtboekhegbachpaaGreatDoor
open Go.ChangeShapes Go.WideShapes Go.ChangeAt Go.RowKit
def TxR (w : World) (B : Nat) (v : Value) (n : Nat) (f : Nat → ByteArray) : Prop := w.ownsRow B 9 1 v n ((List.range n).map fun i => .string (f i))
def PnR (w : World) (B : Nat) (v : Value) (n : Nat) (A : Nat → Int) (D : Nat → ByteArray) : Prop := w.ownsRow B 68 2 v n ((List.range (n * 2)).map (penC A D))
def rowOf (v : Value) : Nat := match v.ownBlock with | some g => g | none => 0
theorem TxR.form {w : World} {B : Nat} {v : Value} {n : Nat} {f : Nat → ByteArray} (h : TxR w B v n f) : ∃ a c, v = .slice a n c ∧ RowS w a (rowOf v) n f ∧ (0 < n → B ≤ rowOf v) ∧ (v.ownBlock = none → n = 0) ∧ n ≤ c := by
 obtain ⟨hl, ⟨rfl, rfl⟩ | ⟨g, cap, cur, rfl, hB, hh, hn, hm, hs, ht⟩⟩ := h
 ·exact ⟨none, 0, rfl, RowS.nil _ _ _ _, fun h => absurd h (by omega), fun _ => rfl, Nat.le_refl _⟩
 ·refine ⟨some ⟨g, 0, none⟩, cap, rfl, ⟨fun _ => rfl, fun i hi => ?_, fun i hi => ?_⟩, fun _ => hB, fun h => (by cases h), hn⟩
  ·have h1 : (cur.toList.take (n * 1))[i]? = some (.string (f i)) := by rw [ht]; simp [hi]
   rw [List.getElem?_take, if_pos (by omega), Array.getElem?_toList] at h1
   show w.cell? ⟨g, i, none⟩ = _
   simp [World.cell?, hh, h1]
  ·show w.frozen? ⟨g, i, none⟩ = false
   simp [World.frozen?, hh]
theorem PnR.form {w : World} {B : Nat} {v : Value} {n : Nat} {A : Nat → Int} {D : Nat → ByteArray} (h : PnR w B v n A D) : ∃ a c, v = .slice a n c ∧ RowP w a (rowOf v) n A D ∧ (0 < n → B ≤ rowOf v) ∧ (v.ownBlock = none → n = 0) ∧ n ≤ c := by
 obtain ⟨hl, ⟨rfl, rfl⟩ | ⟨g, cap, cur, rfl, hB, hh, hn, hm, hs, ht⟩⟩ := h
 ·exact ⟨none, 0, rfl, RowP.nil _ _ _ _ _, fun h => absurd h (by omega), fun _ => rfl, Nat.le_refl _⟩
 ·have each : ∀ i, i < n * 2 → w.cell? ⟨g, i, none⟩ = some (penC A D i) := fun i hi => by
   have h1 : (cur.toList.take (n * 2))[i]? = some (penC A D i) := by rw [ht]; simp [hi]
   rw [List.getElem?_take, if_pos (by omega), Array.getElem?_toList] at h1
   simp [World.cell?, hh, h1]
  refine ⟨some ⟨g, 0, none⟩, cap, rfl, ⟨fun _ => rfl, fun i hi => ?_, fun i hi => ?_, fun i hi => ?_⟩, fun _ => hB, fun h => (by cases h), hn⟩
  ·exact (each (i * 2) (by omega)).trans (by rw [penC0])
  ·exact (each (i * 2 + 1) (by omega)).trans (by rw [penC1])
  ·show w.frozen? ⟨g, i, none⟩ = false
   simp [World.frozen?, hh]
theorem ownsRow_block {w w' : World} {B : Nat} {e : TypeId} {size : Nat} {v : Value} {n : Nat} {xs : List Value} (h : w.ownsRow B e size v n xs) (hk : ∀ g, v.ownBlock = some g → w'.heap[g]? = w.heap[g]?) : w'.ownsRow B e size v n xs := by
 obtain ⟨hl, h0 | ⟨g, cap, cur, rfl, hB, hh, hr⟩⟩ := h
 ·exact ⟨hl, .inl h0⟩
 ·exact ⟨hl, .inr ⟨g, cap, cur, rfl, hB, (hk g rfl).trans hh, hr⟩⟩
theorem ownsRow_belowD {w w' : World} {B : Nat} {e : TypeId} {size : Nat} {v : Value} {n : Nat} {xs : List Value} (h : w.ownsRow B e size v n xs) (hb : Below w.heap.size w w') : w'.ownsRow B e size v n xs := ownsRow_block h (fun g hg => hb.block g (h.lt g hg).2)
theorem ownsRow_onlyB {w w' : World} {B b : Nat} {e : TypeId} {size : Nat} {v : Value} {n : Nat} {xs : List Value} (h : w.ownsRow B e size v n xs) (ho : OnlyB b w w') (hne : v.ownBlock ≠ some b) : w'.ownsRow B e size v n xs := ownsRow_block h (fun g hg => ho.block g (h.lt g hg).2 (fun e => hne (e ▸ hg)))
theorem TxR.below {w w' : World} {B : Nat} {v : Value} {n : Nat} {f : Nat → ByteArray} (h : TxR w B v n f) (hb : Below w.heap.size w w') : TxR w' B v n f := ownsRow_belowD h hb
theorem PnR.below {w w' : World} {B : Nat} {v : Value} {n : Nat} {A : Nat → Int} {D : Nat → ByteArray} (h : PnR w B v n A D) (hb : Below w.heap.size w w') : PnR w' B v n A D := ownsRow_belowD h hb
theorem TxR.onlyB {w w' : World} {B b : Nat} {v : Value} {n : Nat} {f : Nat → ByteArray} (h : TxR w B v n f) (ho : OnlyB b w w') (hne : v.ownBlock ≠ some b) : TxR w' B v n f := ownsRow_onlyB h ho hne
theorem PnR.onlyB {w w' : World} {B b : Nat} {v : Value} {n : Nat} {A : Nat → Int} {D : Nat → ByteArray} (h : PnR w B v n A D) (ho : OnlyB b w w') (hne : v.ownBlock ≠ some b) : PnR w' B v n A D := ownsRow_onlyB h ho hne
theorem TxR.nil (w : World) (B : Nat) (f : Nat → ByteArray) : TxR w B (.slice none 0 0) 0 f := World.ownsRow_nil w B _ _
theorem PnR.nil (w : World) (B : Nat) (A : Nat → Int) (D : Nat → ByteArray) : PnR w B (.slice none 0 0) 0 A D := World.ownsRow_nil w B _ _
theorem TxR.lit (w : World) (B : Nat) (hB : B ≤ w.heap.size) (f : Nat → ByteArray) : TxR (w.alloc (.cells #[] 9)) B (.slice (some ⟨w.heap.size, 0, none⟩) 0 0) 0 f := World.ownsRow_made w #[] 0 hB (Nat.zero_le _) rfl
theorem PnR.lit (w : World) (B : Nat) (hB : B ≤ w.heap.size) (A : Nat → Int) (D : Nat → ByteArray) : PnR (w.alloc (.cells #[] 68)) B (.slice (some ⟨w.heap.size, 0, none⟩) 0 0) 0 A D := World.ownsRow_made w #[] 0 hB (Nat.zero_le _) rfl
def catT (n : Nat) (f g : Nat → ByteArray) (i : Nat) : ByteArray := if i < n then f i else g (i - n)
def catI (n : Nat) (f g : Nat → Int) (i : Nat) : Int := if i < n then f i else g (i - n)
theorem grown_belowD {w w' : World} (h : w.grownBy w' none) : Below w.heap.size w w' := (Below.refl _ w).grown h (Nat.le_refl _) (fun k hk => by cases hk)
set_option maxRecDepth 100000 in
theorem appTx (w : World) (B : Nat) (v : Value) (n : Nat) (f : Nat → ByteArray) (a : Option Addr) (m c : Nat) (g : Nat → ByteArray) (ty : TypeId) (hB : B ≤ w.heap.size) (hn : n + m ≤ 1048576) (h : TxR w B v n f) (hs : Strs w a m g) (ha : a = none → c = 0) :
  ∃ v' w', (Builtin.append_ #[22, 22] ty #[v, .slice a m c]).run Tryz.prog w = .ok v' w' ∧ TxR w' B v' (n + m) (catT n f g) ∧ w.grownBy w' v.ownBlock ∧ (v'.ownBlock = v.ownBlock ∨ v'.ownBlock = some w.heap.size) := by
 obtain ⟨i, hi, hz, hsz, hby⟩ := info_parts Tryz.infoStrD
 have hcat : (List.range (n + m)).map (fun i => Value.string (catT n f g i)) = (List.range n).map (fun i => .string (f i)) ++ (List.range m).map (fun i => .string (g i)) := by
  rw [List.range_add, List.map_append, List.map_map]
  congr 1
  ·exact List.map_congr_left (fun j hj => by unfold catT; rw [if_pos (List.mem_range.1 hj)])
  ·exact List.map_congr_left (fun j _ => by show Value.string (catT n f g (n + j)) = _; unfold catT; rw [if_neg (by omega), Nat.add_sub_cancel_left])
 by_cases h0 : m = 0
 ·subst h0
  have hcong : TxR w B v (n + 0) (catT n f g) := by
   unfold TxR
   rw [hcat]
   simpa [TxR] using h
  cases a with
  | none =>
   obtain rfl := ha rfl
   exact ⟨v, w, run_append_owned_none w B 22 ty 9 i 1 Tryz.underlying22 hi v n _ h, hcong, ⟨rfl, rfl, rfl, Nat.le_refl _, fun _ _ _ => rfl⟩, .inl rfl⟩
  | some ad =>
   obtain ⟨v', w', hr, ho, hg, _, hloc⟩ := run_append_own_at (P := Tryz.prog) w B 22 ty 9 i (.string ⟨#[]⟩) 1 16 Tryz.underlying22 hi hz hsz hby rfl (by decide) v n _ h ad 0 c [] rfl (fun j u hj => by simp at hj) (fun u hu => by simp at hu) (by unfold maxLen; omega) (by omega) hB
   exact ⟨v', w', hr, by unfold TxR; rw [hcat]; simpa using ho, hg, hloc⟩
 ·obtain ⟨b, off, rfl, hc⟩ := hs.opened (by omega)
  obtain ⟨v', w', hr, ho, hg, _, hloc⟩ := run_append_own_at (P := Tryz.prog) w B 22 ty 9 i (.string ⟨#[]⟩) 1 16 Tryz.underlying22 hi hz hsz hby rfl (by decide) v n _ h ⟨b, off, none⟩ m c ((List.range m).map fun i => .string (g i)) (by simp) (fun j u hj => by
   have hjm : j < m := by have := (List.getElem?_eq_some_iff.1 hj).1; simpa using this
   rw [show ((⟨b, off, none⟩ : Addr).add j) = ⟨b, off + j, none⟩ from Go.WideShapes.add_plain _ _ _, hc j hjm]
   simpa [hjm] using hj) (fun u hu => by obtain ⟨j, _, rfl⟩ := List.mem_map.1 hu; rfl) (by unfold maxLen; omega) (by omega) hB
  exact ⟨v', w', hr, by unfold TxR; rw [hcat]; exact ho, hg, hloc⟩
theorem penC_cat (n : Nat) (A A' : Nat → Int) (D D' : Nat → ByteArray) (m : Nat) : (List.range ((n + m) * 2)).map (penC (catI n A A') (catT n D D')) = (List.range (n * 2)).map (penC A D) ++ (List.range (m * 2)).map (penC A' D') := by
 rw [Nat.add_mul, List.range_add, List.map_append, List.map_map]
 congr 1
 ·exact List.map_congr_left (fun j hj => by
   have := List.mem_range.1 hj
   unfold penC catI catT
   rw [if_pos (show j / 2 < n by omega), if_pos (show j / 2 < n by omega)])
 ·exact List.map_congr_left (fun j _ => by
   show penC _ _ (n * 2 + j) = _
   unfold penC catI catT
   rw [if_neg (show ¬ (n * 2 + j) / 2 < n by omega), if_neg (show ¬ (n * 2 + j) / 2 < n by omega), show (n * 2 + j) / 2 - n = j / 2 from by omega, show (n * 2 + j) % 2 = j % 2 from by omega])
set_option maxRecDepth 100000 in
theorem appPn (w : World) (B : Nat) (v : Value) (n : Nat) (A : Nat → Int) (D : Nat → ByteArray) (a : Option Addr) (m c : Nat) (A' : Nat → Int) (D' : Nat → ByteArray) (ty : TypeId) (hB : B ≤ w.heap.size) (hn : n + m ≤ 1048576) (h : PnR w B v n A D) (hs : Pens w a m A' D') (ha : a = none → c = 0) :
  ∃ v' w', (Builtin.append_ #[27, 27] ty #[v, .slice a m c]).run Tryz.prog w = .ok v' w' ∧ PnR w' B v' (n + m) (catI n A A') (catT n D D') ∧ w.grownBy w' v.ownBlock ∧ (v'.ownBlock = v.ownBlock ∨ v'.ownBlock = some w.heap.size) := by
 obtain ⟨i, hi, hz, hsz, hby⟩ := info_parts Tryz.infoPen
 by_cases h0 : m = 0
 ·subst h0
  have hcong : PnR w B v (n + 0) (catI n A A') (catT n D D') := by
   unfold PnR
   rw [penC_cat]
   simpa [PnR] using h
  cases a with
  | none =>
   obtain rfl := ha rfl
   exact ⟨v, w, run_append_owned_none w B 27 ty 68 i 2 Tryz.underlying27 hi v n _ h, hcong, ⟨rfl, rfl, rfl, Nat.le_refl _, fun _ _ _ => rfl⟩, .inl rfl⟩
  | some ad =>
   obtain ⟨v', w', hr, ho, hg, _, hloc⟩ := run_append_own_at (P := Tryz.prog) w B 27 ty 68 i _ 2 24 Tryz.underlying27 hi hz hsz hby rfl (by decide) v n _ h ad 0 c [] rfl (fun j u hj => by simp at hj) (fun u hu => by simp at hu) (by unfold maxLen; omega) (by omega) hB
   exact ⟨v', w', hr, by unfold PnR; rw [penC_cat]; simpa using ho, hg, hloc⟩
 ·obtain ⟨b, off, rfl, hc⟩ := hs.opened (by omega)
  obtain ⟨v', w', hr, ho, hg, _, hloc⟩ := run_append_own_at (P := Tryz.prog) w B 27 ty 68 i _ 2 24 Tryz.underlying27 hi hz hsz hby rfl (by decide) v n _ h ⟨b, off, none⟩ m c ((List.range (m * 2)).map (penC A' D')) (by simp) (fun j u hj => by
   have hjm : j < m * 2 := by have := (List.getElem?_eq_some_iff.1 hj).1; simpa using this
   have hu : u = penC A' D' j := by simpa [hjm] using hj.symm
   rw [show ((⟨b, off, none⟩ : Addr).add j) = ⟨b, off + j, none⟩ from Go.WideShapes.add_plain _ _ _, hu]
   obtain ⟨h1, h2⟩ := hc (j / 2) (by omega)
   rcases (show j % 2 = 0 ∨ j % 2 = 1 by omega) with e | e
   ·rw [show off + j = off + j / 2 * 2 from by omega, h1]; unfold penC; rw [if_pos e]
   ·rw [show off + j = off + j / 2 * 2 + 1 from by omega, h2]; unfold penC; rw [if_neg (by omega)]) (fun u hu => by
   obtain ⟨j, _, rfl⟩ := List.mem_map.1 hu
   unfold penC
   split <;> rfl) (by unfold maxLen; omega) (by omega) hB
  exact ⟨v', w', hr, by unfold PnR; rw [penC_cat]; exact ho, hg, hloc⟩
theorem TxR.congr {w : World} {B : Nat} {v : Value} {n : Nat} {f f' : Nat → ByteArray} (h : TxR w B v n f) (e : ∀ i, i < n → f i = f' i) : TxR w B v n f' := by
 unfold TxR at *
 rwa [List.map_congr_left (fun i hi => by rw [← e i (List.mem_range.1 hi)])]
theorem PnR.congr {w : World} {B : Nat} {v : Value} {n : Nat} {A A' : Nat → Int} {D D' : Nat → ByteArray} (h : PnR w B v n A D) (e : ∀ i, i < n → A i = A' i ∧ D i = D' i) : PnR w B v n A' D' := by
 unfold PnR at *
 rwa [List.map_congr_left (fun i hi => by
  unfold penC
  obtain ⟨h1, h2⟩ := e (i / 2) (by have := List.mem_range.1 hi; omega)
  rw [← h1, ← h2])]
set_option maxRecDepth 100000 in
theorem copiedBlocks_any (a : Option Addr) (n c : Nat) (f : Nat → ByteArray) (hn : n ≤ 1048576) (ha : a = none → c = 0) (w : World) (h : Strs w a n f) :
  Calls Tryz.prog 38 #[.slice a n c] w fun e w' => (∃ v, e = .returned v ∧ TxR w' w.heap.size v n f) ∧ Below w.heap.size w w' := by
 obtain ⟨v', w', hr, ho, hg, -⟩ := appTx w w.heap.size (.slice none 0 0) 0 f a n c f 22 (Nat.le_refl _) (by omega) (TxR.nil _ _ _) h ha
 have HT : Hid (TxR w' w.heap.size v' n f) := by
  rw [Nat.zero_add] at ho
  exact ho.congr (fun i hi => by unfold catT; rw [if_neg (by omega), Nat.sub_zero])
 have HB : Hid (Below w.heap.size w w') := grown_belowD hg
 have HR : Hid _ := hr
 clear ho hg h ha hr
 go_enter Tryz.func38, Tryz.ntmps38
 go_wp2_with (at_builtin; refine Lib.wpList_append_run _ rfl (.const (.slice none 0 0)) (.tmp 3) _ _ rfl _ _ rfl rfl _ _ HR.out ?_)
 go_ret
 exact ⟨⟨v', rfl, HT.out⟩, HB.out⟩
end Go.Proofs.YtboekhegbachpaaGreatDoor
namespace Go.Proofs.YtboekhegbachpaaGreatDoor
open Go.ChangeShapes Go.WideShapes Go.ChangeAt Go.RowKit
set_option linter.unusedVariables false
def KeepR (lo hi : Nat) (w w' : World) : Prop := ∀ b, b < w.heap.size → (b < lo ∨ hi ≤ b) → w'.heap[b]? = w.heap[b]?
theorem LtD.mono {d : Dk} {g0 g1 g2 n m : Nat} (h : LtD d g0 g1 g2 n) (q : n ≤ m) : LtD d g0 g1 g2 m := ⟨fun z => Nat.lt_of_lt_of_le (h.1 z) q, fun z => Nat.lt_of_lt_of_le (h.2.1 z) q, fun z => Nat.lt_of_lt_of_le (h.2.2 z) q⟩
theorem GeD.mono {d : Dk} {g0 g1 g2 n m : Nat} (h : GeD d g0 g1 g2 n) (q : m ≤ n) : GeD d g0 g1 g2 m := ⟨fun z => Nat.le_trans q (h.1 z), fun z => Nat.le_trans q (h.2.1 z), fun z => Nat.le_trans q (h.2.2 z)⟩
theorem KeepG.keepR {w w' : World} {d : Dk} {g0 g1 g2 lo hi : Nat} (hk : KeepG w w' d g0 g1 g2) (h0 : GeD d g0 g1 g2 lo) (h1 : LtD d g0 g1 g2 hi) : KeepR lo hi w w' := fun b hb q => hk b hb (fun z => by have := h0.1 z; have := h1.1 z; omega) (fun z => by have := h0.2.1 z; have := h1.2.1 z; omega) (fun z => by have := h0.2.2 z; have := h1.2.2 z; omega)
theorem RowD.keepR {w w' : World} {d : Dk} {a0 a1 a2 : Option Addr} {g0 g1 g2 lo hi : Nat} (h : RowD w d a0 a1 a2 g0 g1 g2) (hk : KeepR lo hi w w') (q : LtD d g0 g1 g2 lo ∨ GeD d g0 g1 g2 hi) : RowD w' d a0 a1 a2 g0 g1 g2 :=
 h.ofBlocks (fun z => hk _ (h.s0.lt z) (q.imp (fun q => q.1 z) (fun q => q.1 z))) (fun z => hk _ (h.s1.lt z) (q.imp (fun q => q.2.1 z) (fun q => q.2.1 z))) (fun z => hk _ (h.s2.lt z) (q.imp (fun q => q.2.2 z) (fun q => q.2.2 z)))
theorem Box3.keepR {w w' : World} {b lo hi : Nat} {t : TypeId} {x y z : Value} (h : Box3 w b t x y z) (hk : KeepR lo hi w w') (q : b < lo ∨ hi ≤ b) : Box3 w' b t x y z := h.ofBlock (hk b h.lt q)
theorem rowD_of_rows {w : World} {d : Dk} {g0 g1 g2 : Nat} (h0 : w.rowIs g0 9 d.nb (fun i => .string (d.B i))) (h1 : PenRow w g1 d.nc d.A d.D) (h2 : w.rowIs g2 9 d.ns (fun i => .string (d.S i))) (q0 : g0 < g1) (q1 : g1 < g2) : RowD w d (some ⟨g0, 0, none⟩) (some ⟨g1, 0, none⟩) (some ⟨g2, 0, none⟩) g0 g1 g2 :=
 ⟨RowS.ofRow h0 (Nat.le_refl _) (fun _ _ => rfl), ⟨fun _ => rfl, fun i hi => by rw [World.rowIs.cell h1 (by omega), penC0], fun i hi => by rw [World.rowIs.cell h1 (by omega), penC1], fun i _ => World.rowIs.frozen h1 i⟩, RowS.ofRow h2 (Nat.le_refl _) (fun _ _ => rfl), fun _ _ => by omega, fun _ _ => by omega, fun _ _ => by omega⟩
theorem toDisk_row (d : Dk) (a0 a1 a2 : Option Addr) (c0 c1 c2 : Nat) (w : World) (h : DiskV w d a0 a1 a2) (h0 : d.nb ≤ 1048576) (h1 : d.nc ≤ 1048576) (h2 : d.ns ≤ 1048576) :
  Calls Tryz.prog 6 #[.agg #[.slice a0 d.nb c0, .slice a1 d.nc c1, .slice a2 d.ns c2]] w fun e w' => (∃ g0 g1 g2, e = .returned (.agg #[.slice (some ⟨g0, 0, none⟩) d.nb d.nb, .slice (some ⟨g1, 0, none⟩) d.nc d.nc, .slice (some ⟨g2, 0, none⟩) d.ns d.ns]) ∧ RowD w' d (some ⟨g0, 0, none⟩) (some ⟨g1, 0, none⟩) (some ⟨g2, 0, none⟩) g0 g1 g2 ∧ GeD d g0 g1 g2 w.heap.size) ∧ Below w.heap.size w w' :=
 (toDisk_any d a0 a1 a2 c0 c1 c2 w h h0 h1 h2).mono fun e w' ⟨⟨g0, g1, g2, q, q0, q1, he, r0, r1, r2⟩, hb⟩ => ⟨⟨g0, g1, g2, he, rowD_of_rows r0 r1 r2 q0 q1, fun _ => q, fun _ => by omega, fun _ => by omega⟩, hb⟩
end Go.Proofs.YtboekhegbachpaaGreatDoor
namespace Go.Proofs.YtboekhegbachpaaGreatDoor
open Go.ChangeShapes Go.WideShapes Go.ChangeAt Go.RowKit
set_option maxRecDepth 100000 in
set_option maxHeartbeats 1000000 in
theorem szDisk_x (d : Dk) (a0 a1 a2 : Option Addr) (c0 c1 c2 : Nat) (x : Int) (x0 : 0 ≤ x) (x1 : x ≤ 1048576) (w : World) (h : DiskV w d a0 a1 a2) (l0 : d.nb ≤ maxLen) (l1 : d.nc ≤ maxLen) (l2 : d.ns ≤ maxLen) (m0 : ∀ i, i < d.nb → (d.B i).size ≤ maxLen) (m1 : ∀ i, i < d.nc → (d.D i).size ≤ maxLen) (m2 : ∀ i, i < d.ns → (d.S i).size ≤ maxLen) :
  Calls Tryz.prog 4 #[.agg #[.slice a0 d.nb c0, .slice a1 d.nc c1, .slice a2 d.ns c2], .int .i64 x] w fun e w' => (∃ y : Int, e = .returned (.int .i64 y) ∧ y ≤ 1048576 ∧ (0 ≤ y → d.nb ≤ 1048576 ∧ d.nc ≤ 1048576 ∧ d.ns ≤ 1048576)) ∧ Below w.heap.size w w' := by
 have S0 : Hid (∀ (x : Int) (w : World), 0 ≤ x → x ≤ 1048576 → Strs w a0 d.nb d.B → Calls Tryz.prog 11 #[.slice a0 d.nb c0, .int .i64 x] w fun e w' => (∃ y : Int, e = .returned (.int .i64 y) ∧ y ≤ 1048576 ∧ (0 ≤ y → d.nb ≤ 1048576)) ∧ w = w') := fun x w hx hx' h => szStringS_any a0 d.nb c0 d.B x w h hx hx' l0 m0
 have S1 : Hid (∀ (x : Int) (w : World), 0 ≤ x → x ≤ 1048576 → Pens w a1 d.nc d.A d.D → Calls Tryz.prog 12 #[.slice a1 d.nc c1, .int .i64 x] w fun e w' => (∃ y : Int, e = .returned (.int .i64 y) ∧ y ≤ 1048576 ∧ (0 ≤ y → d.nc ≤ 1048576)) ∧ Below w.heap.size w w') := fun x w hx hx' h => szPendingS_any a1 d.nc c1 d.A d.D x w h hx hx' l1 m1
 have S2 : Hid (∀ (x : Int) (w : World), 0 ≤ x → x ≤ 1048576 → Strs w a2 d.ns d.S → Calls Tryz.prog 11 #[.slice a2 d.ns c2, .int .i64 x] w fun e w' => (∃ y : Int, e = .returned (.int .i64 y) ∧ y ≤ 1048576 ∧ (0 ≤ y → d.ns ≤ 1048576)) ∧ w = w') := fun x w hx hx' h => szStringS_any a2 d.ns c2 d.S x w h hx hx' l2 m2
 have HD : Hid (DiskV w d a0 a1 a2) := h
 clear h l0 l1 l2 m0 m1 m2
 have A1 : Hid (Below w.heap.size w (w.alloc (.cells #[.slice a0 d.nb c0, .slice a1 d.nc c1, .slice a2 d.ns c2] 25))) := (Below.refl w.heap.size w).alloc (Nat.le_refl _) _
 have RA : Hid (Box3 (w.alloc (.cells #[.slice a0 d.nb c0, .slice a1 d.nc c1, .slice a2 d.ns c2] 25)) w.heap.size 25 (.slice a0 d.nb c0) (.slice a1 d.nc c1) (.slice a2 d.ns c2)) := Box3.made w _ _ _ _
 go_enter Tryz.func4, Tryz.ntmps4
 go_wp2_with fail
 generalize (w.alloc (.cells #[.slice a0 d.nb c0, .slice a1 d.nc c1, .slice a2 d.ns c2] 25)) = v at *
 refine (S0.out _ _ (by omega) (by omega) (HD.out.1.below A1.out)).mono ?_
 rintro e w1 ⟨⟨y0, rfl, hy0, hz0⟩, rfl⟩
 have Z0 : Hid (0 ≤ y0 → d.nb ≤ 1048576) := hz0
 have k1 := RA.out.c1
 clear hz0 S0
 by_cases p0 : y0 < 0
 ·go_wp2
  go_ret
  exact ⟨⟨-1, rfl, by omega, by omega⟩, A1.out⟩
 ·have q0 : ¬ y0 < 0 := p0
  go_wp2_with fail
  refine (S1.out _ _ (by omega) (by omega) (HD.out.2.1.below A1.out)).mono ?_
  rintro e w2 ⟨⟨y1, rfl, hy1, hz1⟩, hb⟩
  have Z1 : Hid (0 ≤ y1 → d.nc ≤ 1048576) := hz1
  replace A1 : Hid (Below w.heap.size w w2) := A1.out.trans (hb.mono A1.out.size)
  replace RA : Hid (Box3 w2 w.heap.size 25 (.slice a0 d.nb c0) (.slice a1 d.nc c1) (.slice a2 d.ns c2)) := RA.out.below hb
  have k2 := RA.out.c2
  clear hz1 S1 hb k1
  by_cases p1 : y1 < 0
  ·go_wp2
   go_ret
   exact ⟨⟨-1, rfl, by omega, by omega⟩, A1.out⟩
  ·have q1 : ¬ y1 < 0 := p1
   go_wp2_with fail
   refine (S2.out _ _ (by omega) (by omega) (HD.out.2.2.below A1.out)).mono ?_
   rintro e w3 ⟨⟨y2, rfl, hy2, hz2⟩, rfl⟩
   have Z2 : Hid (0 ≤ y2 → d.ns ≤ 1048576) := hz2
   clear hz2 S2
   by_cases p2 : y2 < 0
   ·go_wp2
    go_ret
    exact ⟨⟨-1, rfl, by omega, by omega⟩, A1.out⟩
   ·have q2 : ¬ y2 < 0 := p2
    go_wp2
    go_ret
    exact ⟨⟨y2, rfl, hy2, fun _ => ⟨Z0.out (by omega), Z1.out (by omega), Z2.out (by omega)⟩⟩, A1.out⟩
end Go.Proofs.YtboekhegbachpaaGreatDoor
