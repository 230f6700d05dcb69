/-
  The model's step: the acts that change a copy.
-/
import Derived.Test.YtkhglllicblbbaaDoorSpecSt
namespace Go.Proofs.YtkhglllicblbbaaDoor
open Go.ChangeShapes Go.WideShapes Go.ChangeAt Go.RowKit
set_option linter.unusedVariables false
theorem actCells (w : World) (A C : Obj) (kd x : Int) (s : ByteArray) (k t : Value) : (((w.alloc A).alloc (.cells #[.int .i64 kd, .int .i64 x, .string s, k, t] 38)).alloc C).cell? ⟨w.heap.size + 1, 1, none⟩ = some (.int .i64 x) ∧ (((w.alloc A).alloc (.cells #[.int .i64 kd, .int .i64 x, .string s, k, t] 38)).alloc C).cell? ⟨w.heap.size + 1, 2, none⟩ = some (.string s) := by
  have m : (w.alloc A).heap.size = w.heap.size + 1 := by simp
  have bl : Below ((w.alloc A).alloc (.cells #[.int .i64 kd, .int .i64 x, .string s, k, t] 38)).heap.size ((w.alloc A).alloc (.cells #[.int .i64 kd, .int .i64 x, .string s, k, t] 38)) (((w.alloc A).alloc (.cells #[.int .i64 kd, .int .i64 x, .string s, k, t] 38)).alloc C) := (Below.refl _ _).alloc (Nat.le_refl _) _
  have hl : w.heap.size + 1 < ((w.alloc A).alloc (.cells #[.int .i64 kd, .int .i64 x, .string s, k, t] 38)).heap.size := by simp
  exact ⟨(bl.cell hl).trans (cell_alloc_at m _ _ 1), (bl.cell hl).trans (cell_alloc_at m _ _ 2)⟩
set_option maxRecDepth 100000 in
set_option maxHeartbeats 2000000 in
theorem step_tamper (d : Dk) (a : Ac) (a0 a1 a2 ak : Option Addr) (c0 c1 c2 ck : Nat) (hd : d.Ok) (z0 : a0 = none → c0 = 0) (z1 : a1 = none → c1 = 0) (z2 : a2 = none → c2 = 0) (w : World) (h : DiskV w d a0 a1 a2) (hk : a.kd = 6) (hx : 0 ≤ a.x ∧ a.x < d.nb) (hl : ¬ 200 < a.s.size) :
    Calls Tryd.prog 48 #[.agg #[.slice a0 d.nb c0, .slice a1 d.nc c1, .slice a2 d.ns c2], .agg #[.int .i64 6, .int .i64 a.x, .string a.s, .slice ak a.nk ck, .int .i64 a.t]] w fun e w' => RetT w.heap.size a0 a1 a2 w' e (d.done a) (codeF (d.fault a)) ∧ Below w.heap.size w w' := by
  have A1 : Below w.heap.size w (((w.alloc (.cells #[.slice a0 d.nb c0, .slice a1 d.nc c1, .slice a2 d.ns c2] 28)).alloc (.cells #[.int .i64 6, .int .i64 a.x, .string a.s, .slice ak a.nk ck, .int .i64 a.t] 38)).alloc (.cells #[.slice none 0 0, .slice none 0 0, .slice none 0 0] 28)) := (((Below.refl w.heap.size w).alloc (Nat.le_refl _) _).alloc (by simp) _).alloc (by simp; omega) _
  have AA1 : Hid (Below w.heap.size w (((w.alloc (.cells #[.slice a0 d.nb c0, .slice a1 d.nc c1, .slice a2 d.ns c2] 28)).alloc (.cells #[.int .i64 6, .int .i64 a.x, .string a.s, .slice ak a.nk ck, .int .i64 a.t] 38)).alloc (.cells #[.slice none 0 0, .slice none 0 0, .slice none 0 0] 28))) := A1
  have X0 : Hid (Box3 (((w.alloc (.cells #[.slice a0 d.nb c0, .slice a1 d.nc c1, .slice a2 d.ns c2] 28)).alloc (.cells #[.int .i64 6, .int .i64 a.x, .string a.s, .slice ak a.nk ck, .int .i64 a.t] 38)).alloc (.cells #[.slice none 0 0, .slice none 0 0, .slice none 0 0] 28)) (w.heap.size + 2) 28 (.slice none 0 0) (.slice none 0 0) (.slice none 0 0)) := Box3.madeAt (by simp) _ _ _ _
  have Y0 : Hid (Box3 (((w.alloc (.cells #[.slice a0 d.nb c0, .slice a1 d.nc c1, .slice a2 d.ns c2] 28)).alloc (.cells #[.int .i64 6, .int .i64 a.x, .string a.s, .slice ak a.nk ck, .int .i64 a.t] 38)).alloc (.cells #[.slice none 0 0, .slice none 0 0, .slice none 0 0] 28)) w.heap.size 28 (.slice a0 d.nb c0) (.slice a1 d.nc c1) (.slice a2 d.ns c2)) := ((Box3.made w _ _ _ _).alloc _).alloc _
  have DV : Hid (DiskV w d a0 a1 a2) := h
  have f : d.fault a = 0 := by unfold Dk.fault; simp [hk, hx, hl]
  have g : d.done a = d.tampered a.x.toNat a.s := by unfold Dk.done; rw [f]; unfold Dk.acted; simp [hk]
  have hn1 := hd.nb1
  have hn2 := hd.nb2
  have IN : Hid (∀ w : World, Calls Tryd.prog 63 #[.int .i64 a.x, .int .i64 0, .int .i64 ((d.nb : Int) - 1)] w fun e w' => e = .returned (.bool true) ∧ w = w') := fun w => in_any a.x 0 ((d.nb : Int) - 1) true (by symm; rw [decide_eq_true_iff]; omega) w
  have OW : Hid (∀ w : World, DiskV w d a0 a1 a2 → Calls Tryd.prog 49 #[.agg #[.slice a0 d.nb c0, .slice a1 d.nc c1, .slice a2 d.ns c2]] w fun e w' => (∃ v0 v1 v2, e = .returned (.agg #[v0, v1, v2]) ∧ Rows3 w' w.heap.size d v0 v1 v2) ∧ Below w.heap.size w w') := fun w h => l05Own_any d a0 a1 a2 c0 c1 c2 (by have := hd.nb2; omega) (by have := hd.nc; omega) (by have := hd.ns; have := hd.nb2; omega) z0 z1 z2 w h
  have y9 : ¬ (200 : Int) < (a.s.size : Int) := by omega
  have G0 : w.heap.size + 3 ≤ (((w.alloc (.cells #[.slice a0 d.nb c0, .slice a1 d.nc c1, .slice a2 d.ns c2] 28)).alloc (.cells #[.int .i64 6, .int .i64 a.x, .string a.s, .slice ak a.nk ck, .int .i64 a.t] 38)).alloc (.cells #[.slice none 0 0, .slice none 0 0, .slice none 0 0] 28)).heap.size := by simp
  have hxe : ((a.x.toNat : Nat) : Int) = a.x := by omega
  have hxl : a.x.toNat < d.nb := by omega
  rw [f, g]
  clear h A1 z0 z1 z2 f g
  go_enter Tryd.func48, Tryd.ntmps48
  go_wp2_with fail
  refine (Calls.mono (IN.out _)) ?_
  rintro e w1 ⟨rfl, rfl⟩
  go_wp2_with fail
  have Z1 : (((w.alloc (.cells #[.slice a0 d.nb c0, .slice a1 d.nc c1, .slice a2 d.ns c2] 28)).alloc (.cells #[.int .i64 6, .int .i64 a.x, .string a.s, .slice ak a.nk ck, .int .i64 a.t] 38)).alloc (.cells #[.slice none 0 0, .slice none 0 0, .slice none 0 0] 28)).cell? ⟨w.heap.size + 1, 1, none⟩ = some (.int .i64 a.x) ∧ (((w.alloc (.cells #[.slice a0 d.nb c0, .slice a1 d.nc c1, .slice a2 d.ns c2] 28)).alloc (.cells #[.int .i64 6, .int .i64 a.x, .string a.s, .slice ak a.nk ck, .int .i64 a.t] 38)).alloc (.cells #[.slice none 0 0, .slice none 0 0, .slice none 0 0] 28)).cell? ⟨w.heap.size + 1, 2, none⟩ = some (.string a.s) := actCells w _ _ _ _ _ _ _
  generalize (((w.alloc (.cells #[.slice a0 d.nb c0, .slice a1 d.nc c1, .slice a2 d.ns c2] 28)).alloc (.cells #[.int .i64 6, .int .i64 a.x, .string a.s, .slice ak a.nk ck, .int .i64 a.t] 38)).alloc (.cells #[.slice none 0 0, .slice none 0 0, .slice none 0 0] 28)) = u at *
  refine (OW.out _ (DV.out.below AA1.out)).mono ?_
  rintro e w1 ⟨⟨v0, v1, v2, rfl, hR⟩, hb⟩
  obtain ⟨g0, k0, rfl, r0, hBg0, -, hgl⟩ := hR.t0.pos (by omega)
  obtain ⟨i1, k1, rfl, -⟩ := hR.t1.form
  obtain ⟨i2, k2, rfl, -⟩ := hR.t2.form
  have X1 := X0.out.below hb
  have Z2 := (hb.cell (strBlock Z1.1)).trans Z1.1
  have Z3 := (hb.cell (strBlock Z1.2)).trans Z1.2
  have zl := strBlock Z2
  have x0 := X1.c0
  have x1 := X1.c1
  have x2 := X1.c2
  have f0 := X1.fr 0
  have f1 := X1.fr 1
  have f2 := X1.fr 2
  have xl := X1.lt
  have cx := r0.c _ hxl
  have fx := r0.z _ hxl
  have B1 : Below w.heap.size w w1 := AA1.out.trans (hb.mono AA1.out.size)
  have OG : OnlyB g0 w1 (w1.setCell ⟨g0, a.x.toNat, none⟩ (.string a.s)) := (OnlyB.refl g0 w1).setCell _ _
  have O5 : OnlyB (w.heap.size + 2) (w1.setCell ⟨g0, a.x.toNat, none⟩ (.string a.s)) ((((w1.setCell ⟨g0, a.x.toNat, none⟩ (.string a.s)).setCell ⟨w.heap.size + 2, 0, none⟩ (.slice (some ⟨g0, 0, none⟩) d.nb k0)).setCell ⟨w.heap.size + 2, 1, none⟩ (.slice i1 d.nc k1)).setCell ⟨w.heap.size + 2, 2, none⟩ (.slice i2 d.ns k2)) := (((OnlyB.refl _ _).setCell 0 _).setCell 1 _).setCell 2 _
  have bA : Below ((((w1.setCell ⟨g0, a.x.toNat, none⟩ (.string a.s)).setCell ⟨w.heap.size + 2, 0, none⟩ (.slice (some ⟨g0, 0, none⟩) d.nb k0)).setCell ⟨w.heap.size + 2, 1, none⟩ (.slice i1 d.nc k1)).setCell ⟨w.heap.size + 2, 2, none⟩ (.slice i2 d.ns k2)).heap.size ((((w1.setCell ⟨g0, a.x.toNat, none⟩ (.string a.s)).setCell ⟨w.heap.size + 2, 0, none⟩ (.slice (some ⟨g0, 0, none⟩) d.nb k0)).setCell ⟨w.heap.size + 2, 1, none⟩ (.slice i1 d.nc k1)).setCell ⟨w.heap.size + 2, 2, none⟩ (.slice i2 d.ns k2)) (((((w1.setCell ⟨g0, a.x.toNat, none⟩ (.string a.s)).setCell ⟨w.heap.size + 2, 0, none⟩ (.slice (some ⟨g0, 0, none⟩) d.nb k0)).setCell ⟨w.heap.size + 2, 1, none⟩ (.slice i1 d.nc k1)).setCell ⟨w.heap.size + 2, 2, none⟩ (.slice i2 d.ns k2)).alloc (.cells #[.slice (some ⟨g0, 0, none⟩) d.nb k0, .slice i1 d.nc k1, .slice i2 d.ns k2] 28)) := (Below.refl _ _).alloc (Nat.le_refl _) _
  have gs : g0 ≠ w.heap.size + 2 := by omega
  have X5 : Hid (Box3 (((((w1.setCell ⟨g0, a.x.toNat, none⟩ (.string a.s)).setCell ⟨w.heap.size + 2, 0, none⟩ (.slice (some ⟨g0, 0, none⟩) d.nb k0)).setCell ⟨w.heap.size + 2, 1, none⟩ (.slice i1 d.nc k1)).setCell ⟨w.heap.size + 2, 2, none⟩ (.slice i2 d.ns k2)).alloc (.cells #[.slice (some ⟨g0, 0, none⟩) d.nb k0, .slice i1 d.nc k1, .slice i2 d.ns k2] 28)) (w.heap.size + 2) 28 (.slice (some ⟨g0, 0, none⟩) d.nb k0) (.slice i1 d.nc k1) (.slice i2 d.ns k2)) := ((((X1.ofBlock (OG.block _ X1.lt (Ne.symm gs))).set0 _).set1 _).set2 _).alloc _
  have R4 : Rows3 (w1.setCell ⟨g0, a.x.toNat, none⟩ (.string a.s)) u.heap.size (d.tampered a.x.toNat a.s) (.slice (some ⟨g0, 0, none⟩) d.nb k0) (.slice i1 d.nc k1) (.slice i2 d.ns k2) := ⟨hR.t0.put _ _, hR.t1.onlyB OG (hR.n01 g0 rfl), hR.t2.onlyB OG (hR.n02 g0 rfl), hR.n01, hR.n02, hR.n12⟩
  have R5 : Hid (Rows3 (((((w1.setCell ⟨g0, a.x.toNat, none⟩ (.string a.s)).setCell ⟨w.heap.size + 2, 0, none⟩ (.slice (some ⟨g0, 0, none⟩) d.nb k0)).setCell ⟨w.heap.size + 2, 1, none⟩ (.slice i1 d.nc k1)).setCell ⟨w.heap.size + 2, 2, none⟩ (.slice i2 d.ns k2)).alloc (.cells #[.slice (some ⟨g0, 0, none⟩) d.nb k0, .slice i1 d.nc k1, .slice i2 d.ns k2] 28)) u.heap.size (d.tampered a.x.toNat a.s) (.slice (some ⟨g0, 0, none⟩) d.nb k0) (.slice i1 d.nc k1) (.slice i2 d.ns k2)) := Rows3.below ⟨R4.t0.onlyB O5 (fun e => by have := (World.ownsRow.lt R4.t0 _ e).1; omega), R4.t1.onlyB O5 (fun e => by have := (World.ownsRow.lt R4.t1 _ e).1; omega), R4.t2.onlyB O5 (fun e => by have := (World.ownsRow.lt R4.t2 _ e).1; omega), R4.n01, R4.n02, R4.n12⟩ bA
  have B5 : Hid (Below w.heap.size w (((((w1.setCell ⟨g0, a.x.toNat, none⟩ (.string a.s)).setCell ⟨w.heap.size + 2, 0, none⟩ (.slice (some ⟨g0, 0, none⟩) d.nb k0)).setCell ⟨w.heap.size + 2, 1, none⟩ (.slice i1 d.nc k1)).setCell ⟨w.heap.size + 2, 2, none⟩ (.slice i2 d.ns k2)).alloc (.cells #[.slice (some ⟨g0, 0, none⟩) d.nb k0, .slice i1 d.nc k1, .slice i2 d.ns k2] 28))) := by
    have q1 := B1.trans (OG.toBelow (B := w.heap.size) (by omega) B1.size)
    have q2 := q1.trans (O5.toBelow (B := w.heap.size) (by omega) q1.size)
    exact q2.trans (bA.mono q2.size)
  clear OG O5 bA R4 hR hb B1 X1 r0 X0 Y0 AA1 OW IN DV
  go_wp2
  generalize (((((w1.setCell ⟨g0, a.x.toNat, none⟩ (.string a.s)).setCell ⟨w.heap.size + 2, 0, none⟩ (.slice (some ⟨g0, 0, none⟩) d.nb k0)).setCell ⟨w.heap.size + 2, 1, none⟩ (.slice i1 d.nc k1)).setCell ⟨w.heap.size + 2, 2, none⟩ (.slice i2 d.ns k2)).alloc (.cells #[.slice (some ⟨g0, 0, none⟩) d.nb k0, .slice i1 d.nc k1, .slice i2 d.ns k2] 28)) = u5 at *
  clear x0 x1 x2 f0 f1 f2 cx fx
  have y0 := X5.out.c0
  have y1 := X5.out.c1
  have y2 := X5.out.c2
  obtain ⟨j0, j1, j2, l0, l1, l2, e0, e1, e2, hv, q0, q1, q2⟩ := R5.out.diskV
  cases e0
  cases e1
  cases e2
  exact ret_cell2 (b := w.heap.size + 2) (v := .agg #[.slice (some ⟨g0, 0, none⟩) d.nb k0, .slice i1 d.nc k1, .slice i2 d.ns k2]) Tryd.results48 rfl rfl (by go_simp) ⟨⟨_, _, _, _, _, _, rfl, hv, q0, q1, q2, R5.out.fr0 (by omega), R5.out.fr1 (by omega), R5.out.fr2 (by omega)⟩, B5.out⟩
end Go.Proofs.YtkhglllicblbbaaDoor
