/-
  Texts of the proof, joined: SavM, SavI.
-/
import Derived.Test.YtboekhegbachpaaGreatDoorS44
import Derived.Test.YtboekhegbachpaaGreatDoorS46
namespace Go.Proofs.YtboekhegbachpaaGreatDoor
open Go.ChangeShapes Go.WideShapes Go.ChangeAt Go.RowKit
set_option linter.unusedVariables false
def aS : Ac := ⟨2, 0, ⟨#[]⟩, 0, fun _ => false, 0⟩
def aW (x : Int) (t : ByteArray) : Ac := ⟨1, x, t, 0, fun _ => false, 0⟩
def acK (x : Int) (t : ByteArray) (k : Nat) : Ac := if k = 1 then aW x t else aS
noncomputable def svK (d : Dk) (x : Int) (t : ByteArray) : Nat → Dk
 | 0 => d
 | k + 1 => (svK d x t k).done (acK x t k)
theorem svK_ok {d : Dk} (h : d.Ok) (x : Int) (t : ByteArray) : ∀ k, (svK d x t k).Ok
 | 0 => h
 | k + 1 => Dk.done_ok (svK_ok h x t k) _
def SvAns (k s : ByteArray) (d : Dk) (D : Dk) (code : Int) : Prop := ∃ n x t, SpAns k s d n x t code ∧ ((code ≠ 0 ∧ D = newD 0) ∨ (code = 0 ∧ D = svK d x t 3))
theorem svAns_ex (k s : ByteArray) (d : Dk) : ∃ D code, SvAns k s d D code := by
 obtain ⟨n, x, t, code, h⟩ := spAns_ex k s d
 by_cases z : code = 0
 ·exact ⟨_, _, n, x, t, h, .inr ⟨z, rfl⟩⟩
 ·exact ⟨_, _, n, x, t, h, .inl ⟨z, rfl⟩⟩
theorem spAns_zero {k s : ByteArray} {d : Dk} {n : Nat} {x : Int} {t : ByteArray} (h : SpAns k s d n x t 0) : n = 3 ∧ d.Ok ∧ 2 ≤ d.nb ∧ 0 ≤ x ∧ x < 2 ∧ t.size ≤ 200 ∧ k.size = 32 ∧ s.size ≤ 65536 := by
 obtain ⟨cf, hf, h⟩ := h
 rcases h with ⟨h1, h2, h3⟩ | ⟨h1, h2, h3, h4⟩ | ⟨h1, h2, h3, h4, e, h5, h6, h7⟩
 ·omega
 ·omega
 ·subst h1
  have hs := h2.2.2
  rcases hf with ⟨_, c⟩ | ⟨_, _, _, c⟩ | ⟨_, _, _, _, c⟩ | ⟨q1, q2, q3, q4, _⟩
  ·omega
  ·omega
  ·omega
  ·refine ⟨h3, q3, q4, by omega, by omega, ?_, q1, q2⟩
   rw [h7]
   unfold planT
   rw [kstr_size]
   omega
theorem PlanR.act {w : World} {b : Nat} {x : Int} {t : ByteArray} (h : PlanR w b x t) (k : Nat) (hk : k < 3) : w.cell? ⟨b, k * 5, none⟩ = some (.int .i64 (acK x t k).kd) ∧ w.cell? ⟨b, k * 5 + 1, none⟩ = some (.int .i64 (acK x t k).x) ∧ w.cell? ⟨b, k * 5 + 2, none⟩ = some (.string (acK x t k).s) ∧ w.cell? ⟨b, k * 5 + 3, none⟩ = some (.slice none 0 0) ∧ w.cell? ⟨b, k * 5 + 4, none⟩ = some (.int .i64 (acK x t k).t) := by
 have c := fun i hi => h.cell i hi
 rcases (show k = 0 ∨ k = 1 ∨ k = 2 by omega) with rfl | rfl | rfl
 ·exact ⟨c 0 (by omega), c 1 (by omega), c 2 (by omega), c 3 (by omega), c 4 (by omega)⟩
 ·exact ⟨c 5 (by omega), c 6 (by omega), c 7 (by omega), c 8 (by omega), c 9 (by omega)⟩
 ·exact ⟨c 10 (by omega), c 11 (by omega), c 12 (by omega), c 13 (by omega), c 14 (by omega)⟩
end Go.Proofs.YtboekhegbachpaaGreatDoor
namespace Go.Proofs.YtboekhegbachpaaGreatDoor
open Go.ChangeShapes Go.WideShapes Go.ChangeAt Go.RowKit
set_option linter.unusedVariables false
theorem do_plan (B q b : Nat) (d : Dk) (x : Int) (t : ByteArray) (k : Nat) (v0 v1 v2 : Value) (p0 p1 p2 p3 p4 : Addr) (hd : d.Ok) (w : World) (hBw : B ≤ w.heap.size) (hE : Errs w p0 p1 p2 p3 p4) (h : Drv w B q b d v0 v1 v2) :
  Calls Tryz.prog 21 #[.pointer (some ⟨q, 0, none⟩), .agg #[.int .i64 (acK x t k).kd, .int .i64 (acK x t k).x, .string (acK x t k).s, .slice none 0 0, .int .i64 (acK x t k).t]] w fun e w' => (∃ f, e = .returned f) ∧ (∃ u0 u1 u2, Drv w' B q b (d.done (acK x t k)) u0 u1 u2) ∧ Below B w w' := by
 by_cases h1 : k = 1
 ·have e : acK x t k = aW x t := if_pos h1
  rw [e]
  refine (do_write B q b d (aW x t) v0 v1 v2 none 0 p0 p1 p2 p3 p4 hd w hBw hE h rfl).mono ?_
  rintro e w' ⟨h1, ⟨u0, u1, u2, h2, -⟩, h3⟩
  exact ⟨⟨_, h1⟩, ⟨u0, u1, u2, h2⟩, h3⟩
 ·have e : acK x t k = aS := if_neg h1
  rw [e]
  refine (do_sync B q b d aS v0 v1 v2 none 0 p0 p1 p2 p3 p4 hd w hBw hE h rfl).mono ?_
  rintro e w' ⟨h1, ⟨u0, u1, u2, h2, -⟩, h3⟩
  exact ⟨⟨_, h1⟩, ⟨u0, u1, u2, h2⟩, h3⟩
set_option maxRecDepth 100000 in
set_option maxHeartbeats 8000000 in
theorem implSave_any (K s : ByteArray) (d : Dk) (a0 a1 a2 : Option Addr) (c0 c1 c2 : Nat) (D : Dk) (code : Int) (hr : SvAns K s d D code) (hs : d.nb ≤ 1048576 ∧ d.nc ≤ 1048576 ∧ d.ns ≤ 1048576) (z0 : a0 = none → c0 = 0) (z1 : a1 = none → c1 = 0) (z2 : a2 = none → c2 = 0) (p0 p1 p2 p3 p4 : Addr) (w : World) (h : DiskV w d a0 a1 a2) (hE : Errs w p0 p1 p2 p3 p4) (ht : Tabs w) :
  Calls Tryz.prog 7 #[.string K, .agg #[.slice a0 d.nb c0, .slice a1 d.nc c1, .slice a2 d.ns c2], .string s] w fun e w' => RetD w.heap.size w' e D code ∧ Below w.heap.size w w' := by
 obtain ⟨n, x, t, hp, hD⟩ := hr
 have A1 : Hid (Below w.heap.size w ((w.alloc (.cells #[.slice a0 d.nb c0, .slice a1 d.nc c1, .slice a2 d.ns c2] 29)).alloc (.cells #[.slice none 0 0, .slice none 0 0, .slice none 0 0] 29))) := ((Below.refl w.heap.size w).alloc (Nat.le_refl _) _).alloc (by simp) _
 have X0 : Hid (Box3 ((w.alloc (.cells #[.slice a0 d.nb c0, .slice a1 d.nc c1, .slice a2 d.ns c2] 29)).alloc (.cells #[.slice none 0 0, .slice none 0 0, .slice none 0 0] 29)) (w.heap.size + 1) 29 (.slice none 0 0) (.slice none 0 0) (.slice none 0 0)) := Box3.madeAt (by simp) _ _ _ _
 have Y0 : Hid (Box3 ((w.alloc (.cells #[.slice a0 d.nb c0, .slice a1 d.nc c1, .slice a2 d.ns c2] 29)).alloc (.cells #[.slice none 0 0, .slice none 0 0, .slice none 0 0] 29)) w.heap.size 29 (.slice a0 d.nb c0) (.slice a1 d.nc c1) (.slice a2 d.ns c2)) := (Box3.made w _ _ _ _).alloc _
 have G0 : w.heap.size + 2 ≤ ((w.alloc (.cells #[.slice a0 d.nb c0, .slice a1 d.nc c1, .slice a2 d.ns c2] 29)).alloc (.cells #[.slice none 0 0, .slice none 0 0, .slice none 0 0] 29)).heap.size := by simp
 have PL : Hid (∀ u : World, DiskV u d a0 a1 a2 → Errs u p0 p1 p2 p3 p4 → Tabs u → Calls Tryz.prog 18 #[.string K, .agg #[.slice a0 d.nb c0, .slice a1 d.nc c1, .slice a2 d.ns c2], .string s] u fun e w' => RetP u.heap.size w' e n x t code ∧ Below u.heap.size u w') := fun u h1 h2 h3 => implPlan_any K s d a0 a1 a2 c0 c1 c2 n x t code hp hs p0 p1 u h1 h2.e0 h2.e1 h3
 have HD : Hid (DiskV w d a0 a1 a2) := h
 have HE : Hid (Errs w p0 p1 p2 p3 p4) := hE
 have HT : Hid (Tabs w) := ht
 clear h hE ht hs
 rcases hD with ⟨hc, rfl⟩ | ⟨hc, rfl⟩
 ·have e1 : (code != 0) = true := by rw [bne_iff_ne]; exact hc
  clear hp hc z0 z1 z2
  go_enter Tryz.func7, Tryz.ntmps7
  go_wp2_with fail
  generalize ((w.alloc (.cells #[.slice a0 d.nb c0, .slice a1 d.nc c1, .slice a2 d.ns c2] 29)).alloc (.cells #[.slice none 0 0, .slice none 0 0, .slice none 0 0] 29)) = u at *
  refine (PL.out u (HD.out.below A1.out) (HE.out.below A1.out) (HT.out.below A1.out)).mono ?_
  rintro e w1 ⟨⟨a, c, b, rfl, -⟩, hb⟩
  have B1 := A1.out.trans (hb.mono A1.out.size)
  have X1 := X0.out.below hb
  have O2 : OnlyB (w.heap.size + 1) w1 (((w1.setCell ⟨w.heap.size + 1, 0, none⟩ (.slice none 0 0)).setCell ⟨w.heap.size + 1, 1, none⟩ (.slice none 0 0)).setCell ⟨w.heap.size + 1, 2, none⟩ (.slice none 0 0)) := (((OnlyB.refl _ w1).setCell 0 _).setCell 1 _).setCell 2 _
  have X2 : Hid (Box3 (((w1.setCell ⟨w.heap.size + 1, 0, none⟩ (.slice none 0 0)).setCell ⟨w.heap.size + 1, 1, none⟩ (.slice none 0 0)).setCell ⟨w.heap.size + 1, 2, none⟩ (.slice none 0 0)) (w.heap.size + 1) 29 (.slice none 0 0) (.slice none 0 0) (.slice none 0 0)) := ((X1.set0 _).set1 _).set2 _
  have B2 : Hid (Below w.heap.size w (((w1.setCell ⟨w.heap.size + 1, 0, none⟩ (.slice none 0 0)).setCell ⟨w.heap.size + 1, 1, none⟩ (.slice none 0 0)).setCell ⟨w.heap.size + 1, 2, none⟩ (.slice none 0 0))) := B1.trans (O2.toBelow (by omega) B1.size)
  have x0 := X1.c0
  have x1 := X1.c1
  have x2 := X1.c2
  have f0 := X1.fr 0
  have f1 := X1.fr 1
  have f2 := X1.fr 2
  clear hb PL A1 X0 Y0 X1 O2 B1 HD HE HT
  go_wp2
  generalize (((w1.setCell ⟨w.heap.size + 1, 0, none⟩ (.slice none 0 0)).setCell ⟨w.heap.size + 1, 1, none⟩ (.slice none 0 0)).setCell ⟨w.heap.size + 1, 2, none⟩ (.slice none 0 0)) = u5 at *
  have y0 := X2.out.c0
  have y1 := X2.out.c1
  have y2 := X2.out.c2
  exact ret_cell2 (b := w.heap.size + 1) (v := .agg #[.slice none 0 0, .slice none 0 0, .slice none 0 0]) Tryz.results7 rfl rfl (by go_simp) ⟨⟨_, _, _, _, _, _, _, _, _, rfl, RowD.empty _ _ _ _, fun h => absurd h (by decide), fun h => absurd h (by decide), fun h => absurd h (by decide)⟩, B2.out⟩
 ·subst hc
  obtain ⟨rfl, ok, nb2, hx0, hx1, ht, -, -⟩ := spAns_zero hp
  have OK : Hid (∀ k, (svK d x t k).Ok) := fun k => svK_ok ok x t k
  have CP : Hid (∀ w : World, DiskV w d a0 a1 a2 → Calls Tryz.prog 20 #[.agg #[.slice a0 d.nb c0, .slice a1 d.nc c1, .slice a2 d.ns c2]] w fun e w' => (∃ v0 v1 v2, e = .returned (.agg #[v0, v1, v2]) ∧ Rows3 w' w.heap.size d v0 v1 v2) ∧ Below w.heap.size w w') := fun w h => copiedDisk_any d a0 a1 a2 c0 c1 c2 ok.nb2 ok.nc (by have := ok.ns; have := ok.nb2; omega) z0 z1 z2 w h
  have DO : Hid (∀ (a0 a1 a2 : Option Addr) (c0 c1 c2 : Nat) (w : World), Pens w a1 d.nc d.A d.D → Calls Tryz.prog 19 #[.agg #[.slice a0 d.nb c0, .slice a1 d.nc c1, .slice a2 d.ns c2]] w fun e w' => e = .returned (.pointer (some ⟨w.heap.size + 2, 0, none⟩)) ∧ Box4 w' (w.heap.size + 2) 55 (.slice a0 d.nb c0) (.slice a1 d.nc c1) (.slice a2 d.ns c2) (.map (some (w.heap.size + 1))) ∧ MapI w' (w.heap.size + 1) (lastM d.A d.D d.nc) ∧ Below w.heap.size w w') := fun a0 a1 a2 c0 c1 c2 w h => driveOf_any d a0 a1 a2 c0 c1 c2 ok.nc w h
  clear hp ok nb2 hx0 hx1 ht z0 z1 z2
  go_enter Tryz.func7, Tryz.ntmps7
  go_wp2_with fail
  generalize ((w.alloc (.cells #[.slice a0 d.nb c0, .slice a1 d.nc c1, .slice a2 d.ns c2] 29)).alloc (.cells #[.slice none 0 0, .slice none 0 0, .slice none 0 0] 29)) = u at *
  refine (PL.out u (HD.out.below A1.out) (HE.out.below A1.out) (HT.out.below A1.out)).mono ?_
  rintro e w1 ⟨⟨a, c, b, rfl, hq⟩, hb⟩
  obtain ⟨-, rfl, rfl, hbu, hpr⟩ : 3 = 3 ∧ c = 3 ∧ a = some ⟨b, 0, none⟩ ∧ u.heap.size ≤ b ∧ PlanR w1 b x t := by
   rcases hq with z | z
   ·cases z
   ·exact z
  have PR : Hid (PlanR w1 b x t) := hpr
  have B1 : Hid (Below w.heap.size w w1) := A1.out.trans (hb.mono A1.out.size)
  have X1 : Hid (Box3 w1 (w.heap.size + 1) 29 (.slice none 0 0) (.slice none 0 0) (.slice none 0 0)) := X0.out.below hb
  have Y1 := Y0.out.below hb
  have y0 := Y1.c0
  have y1 := Y1.c1
  have y2 := Y1.c2
  have G1 : w.heap.size + 2 ≤ w1.heap.size := by have := hb.size; omega
  clear hb hq hpr hbu PL A1 X0 Y0 G0 Y1 HT
  go_wp2_with fail
  refine (CP.out _ (HD.out.below B1.out)).mono ?_
  rintro e w2 ⟨⟨v0, v1, v2, rfl, hR⟩, hb⟩
  have B2 : Hid (Below w.heap.size w w2) := B1.out.trans (hb.mono B1.out.size)
  have X2 : Hid (Box3 w2 (w.heap.size + 1) 29 (.slice none 0 0) (.slice none 0 0) (.slice none 0 0)) := X1.out.below hb
  have PR2 : Hid (PlanR w2 b x t) := PR.out.below hb
  have G2 : w.heap.size + 2 ≤ w2.heap.size := by have := hb.size; omega
  have HW1 := PR.out.lt
  have HS2 := hb.size
  obtain ⟨i0, k0, rfl, -⟩ := hR.t0.form
  obtain ⟨i1, k1, rfl, q1, -⟩ := hR.t1.form
  obtain ⟨i2, k2, rfl, -⟩ := hR.t2.form
  have R2 : Hid (Rows3 w2 w1.heap.size d (.slice i0 d.nb k0) (.slice i1 d.nc k1) (.slice i2 d.ns k2)) := hR
  have Q1 : Hid (Pens w2 i1 d.nc d.A d.D) := q1.pens
  clear hb CP B1 X1 hR q1 y0 y1 y2 PR HD
  go_wp2_with fail
  refine (DO.out _ _ _ _ _ _ _ Q1.out).mono ?_
  rintro e w3 ⟨rfl, hq, hm, hb⟩
  have B3 : Hid (Below w.heap.size w w3) := B2.out.trans (hb.mono B2.out.size)
  have X3 : Hid (Box3 w3 (w.heap.size + 1) 29 (.slice none 0 0) (.slice none 0 0) (.slice none 0 0)) := X2.out.below hb
  have R3 := R2.out.below hb
  have PR3 : Hid (PlanR w3 b x t) := PR2.out.below hb
  have V3 : Hid (Drv w3 w1.heap.size (w2.heap.size + 2) (w2.heap.size + 1) d (.slice i0 d.nb k0) (.slice i1 d.nc k1) (.slice i2 d.ns k2)) := ⟨hq, R3.t0, R3.t1, R3.t2, hm, ⟨fun e => by have := (World.ownsRow.lt R2.out.t0 _ e).2; omega, fun e => by have := (World.ownsRow.lt R2.out.t0 _ e).2; omega⟩, ⟨fun e => by have := (World.ownsRow.lt R2.out.t1 _ e).2; omega, fun e => by have := (World.ownsRow.lt R2.out.t1 _ e).2; omega⟩, ⟨fun e => by have := (World.ownsRow.lt R2.out.t2 _ e).2; omega, fun e => by have := (World.ownsRow.lt R2.out.t2 _ e).2; omega⟩, by omega, R3.n01, R3.n02, R3.n12, by omega, by omega⟩
  have G3 : w1.heap.size ≤ w3.heap.size := by have := hb.size; omega
  clear hb hq hm DO B2 X2 R2 Q1 R3 G2 PR2 HS2
  generalize w2.heap.size = z at *
  generalize w1.heap.size = B at *
  go_wp2_with fail
  have HB1 : Hid (w.heap.size + 2 ≤ B ∧ B ≤ w3.heap.size ∧ b < B) := ⟨G1, G3, HW1⟩
  clear G1 G3 HW1
  go_loopw [29] (fun i wr => ∃ (k : Nat) (v0 v1 v2 : Value), k ≤ 3 ∧ i = .int .i64 (k : Int) ∧ Drv wr B (z + 2) (z + 1) (svK d x t k) v0 v1 v2 ∧ Below B w3 wr) (fun i _ => 3 - (intOf i).toNat)
  case atStart => exact ⟨0, _, _, _, by omega, rfl, V3.out, Below.refl _ _⟩
  case round =>
   obtain ⟨k, v0, v1, v2, hk, rfl, hD, hb⟩ := hrel
   have HDr : Hid (Drv wr B (z + 2) (z + 1) (svK d x t k) v0 v1 v2) := hD
   have HBl : Hid (Below B w3 wr) := hb
   have BW : Hid (Below w.heap.size w wr) := B3.out.trans (hb.mono (by have := HB1.out.1; omega))
   have PRk : Hid (PlanR wr b x t) := World.rowIs.of_block PR3.out (hb.block b HB1.out.2.2)
   have XX : Hid (Box3 wr (w.heap.size + 1) 29 (.slice none 0 0) (.slice none 0 0) (.slice none 0 0)) := X3.out.ofBlock (hb.block _ (by have := HB1.out.1; omega))
   have hBw : Hid (B ≤ wr.heap.size) := Nat.le_trans HB1.out.2.1 hb.size
   clear hD hb
   by_cases hlt : k < 3
   ·have hlt' : (k : Int) < 3 := by omega
    have hk0 : (0 : Int) ≤ (k : Int) := by omega
    obtain ⟨q0, q1, q2, q3, q4⟩ := PRk.out.act k hlt
    have L6 : Below wr.heap.size wr (wr.alloc (.cells #[.int .i64 (acK x t k).kd, .int .i64 (acK x t k).x, .string (acK x t k).s, .slice none 0 0, .int .i64 (acK x t k).t] 49)) := (Below.refl _ _).alloc (Nat.le_refl _) _
    have DD : Hid (Calls Tryz.prog 21 #[.pointer (some ⟨z + 2, 0, none⟩), .agg #[.int .i64 (acK x t k).kd, .int .i64 (acK x t k).x, .string (acK x t k).s, .slice none 0 0, .int .i64 (acK x t k).t]] (wr.alloc (.cells #[.int .i64 (acK x t k).kd, .int .i64 (acK x t k).x, .string (acK x t k).s, .slice none 0 0, .int .i64 (acK x t k).t] 49)) fun e w' => (∃ f, e = .returned f) ∧ (∃ u0 u1 u2, Drv w' B (z + 2) (z + 1) ((svK d x t k).done (acK x t k)) u0 u1 u2) ∧ Below B (wr.alloc (.cells #[.int .i64 (acK x t k).kd, .int .i64 (acK x t k).x, .string (acK x t k).s, .slice none 0 0, .int .i64 (acK x t k).t] 49)) w') := do_plan B (z + 2) (z + 1) (svK d x t k) x t k v0 v1 v2 p0 p1 p2 p3 p4 (OK.out k) _ (Nat.le_trans hBw.out L6.size) ((HE.out.below BW.out).below L6) (HDr.out.below L6)
    have B66 : Hid (Below B w3 (wr.alloc (.cells #[.int .i64 (acK x t k).kd, .int .i64 (acK x t k).x, .string (acK x t k).s, .slice none 0 0, .int .i64 (acK x t k).t] 49))) := HBl.out.trans (L6.mono hBw.out)
    clear L6 HDr HBl BW PRk XX hBw
    go_wp2_with fail
    refine DD.out.mono ?_
    rintro e w5 ⟨⟨f, rfl⟩, ⟨t0, t1, t2, hv⟩, hb⟩
    have D8 : Hid (Drv w5 B (z + 2) (z + 1) (svK d x t (k + 1)) t0 t1 t2) := hv
    have B8 : Hid (Below B w3 w5) := B66.out.trans hb
    clear hv hb B66 DD q0 q1 q2 q3 q4
    go_wp2
    go_roundw
    case rel => exact ⟨k + 1, t0, t1, t2, by omega, by go_num, D8.out, B8.out⟩
    case measure => simp [intOf]; omega
   ·have hlt' : ¬ (k : Int) < 3 := by omega
    obtain rfl : k = 3 := by omega
    obtain ⟨i0, i1, i2, k0, k1, k2, g0, g1, g2, rfl, rfl, rfl, -⟩ := HDr.out.rows.rowD
    have d0 := HDr.out.box.c0
    have d1 := HDr.out.box.c1
    have d2 := HDr.out.box.c2
    have x0 := XX.out.c0
    have x1 := XX.out.c1
    have x2 := XX.out.c2
    have f0 := XX.out.fr 0
    have f1 := XX.out.fr 1
    have f2 := XX.out.fr 2
    have O5 : OnlyB (w.heap.size + 1) wr (((wr.setCell ⟨w.heap.size + 1, 0, none⟩ (.slice i0 (svK d x t 3).nb k0)).setCell ⟨w.heap.size + 1, 1, none⟩ (.slice i1 (svK d x t 3).nc k1)).setCell ⟨w.heap.size + 1, 2, none⟩ (.slice i2 (svK d x t 3).ns k2)) := (((OnlyB.refl _ wr).setCell 0 _).setCell 1 _).setCell 2 _
    have X5 : Hid (Box3 (((wr.setCell ⟨w.heap.size + 1, 0, none⟩ (.slice i0 (svK d x t 3).nb k0)).setCell ⟨w.heap.size + 1, 1, none⟩ (.slice i1 (svK d x t 3).nc k1)).setCell ⟨w.heap.size + 1, 2, none⟩ (.slice i2 (svK d x t 3).ns k2)) (w.heap.size + 1) 29 (.slice i0 (svK d x t 3).nb k0) (.slice i1 (svK d x t 3).nc k1) (.slice i2 (svK d x t 3).ns k2)) := ((XX.out.set0 _).set1 _).set2 _
    have R5 : Hid (Rows3 (((wr.setCell ⟨w.heap.size + 1, 0, none⟩ (.slice i0 (svK d x t 3).nb k0)).setCell ⟨w.heap.size + 1, 1, none⟩ (.slice i1 (svK d x t 3).nc k1)).setCell ⟨w.heap.size + 1, 2, none⟩ (.slice i2 (svK d x t 3).ns k2)) B (svK d x t 3) (.slice i0 (svK d x t 3).nb k0) (.slice i1 (svK d x t 3).nc k1) (.slice i2 (svK d x t 3).ns k2)) := ⟨HDr.out.t0.onlyB O5 (fun e => by have := (World.ownsRow.lt HDr.out.t0 _ e).1; have := HB1.out.1; omega), HDr.out.t1.onlyB O5 (fun e => by have := (World.ownsRow.lt HDr.out.t1 _ e).1; have := HB1.out.1; omega), HDr.out.t2.onlyB O5 (fun e => by have := (World.ownsRow.lt HDr.out.t2 _ e).1; have := HB1.out.1; omega), HDr.out.n01, HDr.out.n02, HDr.out.n12⟩
    have B5 : Hid (Below w.heap.size w (((wr.setCell ⟨w.heap.size + 1, 0, none⟩ (.slice i0 (svK d x t 3).nb k0)).setCell ⟨w.heap.size + 1, 1, none⟩ (.slice i1 (svK d x t 3).nc k1)).setCell ⟨w.heap.size + 1, 2, none⟩ (.slice i2 (svK d x t 3).ns k2))) := BW.out.trans (O5.toBelow (by omega) BW.out.size)
    clear O5 XX BW HE HBl PRk hBw HDr
    go_wp2
    generalize (((wr.setCell ⟨w.heap.size + 1, 0, none⟩ (.slice i0 (svK d x t 3).nb k0)).setCell ⟨w.heap.size + 1, 1, none⟩ (.slice i1 (svK d x t 3).nc k1)).setCell ⟨w.heap.size + 1, 2, none⟩ (.slice i2 (svK d x t 3).ns k2)) = u5 at *
    clear d0 d1 d2 x0 x1 x2 f0 f1 f2
    have y0 := X5.out.c0
    have y1 := X5.out.c1
    have y2 := X5.out.c2
    obtain ⟨j0, j1, j2, l0, l1, l2, g0, g1, g2, h0, h1, h2, hr, hg0, hg1, hg2⟩ := R5.out.rowD
    cases h0
    cases h1
    cases h2
    exact ret_cell2 (b := w.heap.size + 1) (v := .agg #[.slice i0 (svK d x t 3).nb k0, .slice i1 (svK d x t 3).nc k1, .slice i2 (svK d x t 3).ns k2]) Tryz.results7 rfl rfl (by go_simp) ⟨⟨_, _, _, _, _, _, _, _, _, rfl, hr, fun h => by have := hg0 h; have := HB1.out.1; omega, fun h => by have := hg1 h; have := HB1.out.1; omega, fun h => by have := hg2 h; have := HB1.out.1; omega⟩, B5.out⟩
end Go.Proofs.YtboekhegbachpaaGreatDoor
