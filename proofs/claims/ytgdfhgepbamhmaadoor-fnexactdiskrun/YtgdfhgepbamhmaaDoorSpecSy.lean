/-
  The model's sync.
-/
import Derived.Test.YtgdfhgepbamhmaaDoorDiskOw
namespace Go.Proofs.YtgdfhgepbamhmaaDoor
open Go.ChangeShapes Go.WideShapes Go.ChangeAt Go.RowKit
set_option linter.unusedVariables false
/-- d with its first k writes done. -/
def Dk.halfK (d : Dk) (k : Nat) : Dk := ⟨d.nb, fun i => rdF d.A d.D (d.B i) (i : Int) k, d.nc, d.A, d.D, d.ns, d.S⟩
set_option maxRecDepth 100000 in
set_option maxHeartbeats 4000000 in
theorem l05Sync_any (d : Dk) (a0 a1 a2 : Option Addr) (c0 c1 c2 : Nat) (hd : d.Ok) (z0 : a0 = none → c0 = 0) (z1 : a1 = none → c1 = 0) (z2 : a2 = none → c2 = 0) (w : World) (h : DiskV w d a0 a1 a2) :
    Calls Tryd.prog 36 #[.agg #[.slice a0 d.nb c0, .slice a1 d.nc c1, .slice a2 d.ns c2]] w fun e w' => (∃ v0 v1 v2, e = .returned (.agg #[v0, v1, v2]) ∧ Rows3 w' w.heap.size d.synced v0 v1 v2) ∧ Below w.heap.size w w' := by
  have OW : Hid (∀ w : World, DiskV w d a0 a1 a2 → Calls Tryd.prog 19 #[.agg #[.slice a0 d.nb c0, .slice a1 d.nc c1, .slice a2 d.ns c2]] w fun e w' => (∃ v0 v1 v2, e = .returned (.agg #[v0, v1, v2]) ∧ Rows3 w' w.heap.size d v0 v1 v2) ∧ Below w.heap.size w w') := fun w h => l05Own_any d a0 a1 a2 c0 c1 c2 (by have := hd.nb2; omega) (by have := hd.nc; omega) (by have := hd.ns; have := hd.nb2; omega) z0 z1 z2 w h
  have DV : Hid (DiskV w d a0 a1 a2) := h
  have A1 : Below w.heap.size w ((w.alloc (.cells #[.slice a0 d.nb c0, .slice a1 d.nc c1, .slice a2 d.ns c2] 27)).alloc (.cells #[.slice none 0 0, .slice none 0 0, .slice none 0 0] 27)) := ((Below.refl w.heap.size w).alloc (Nat.le_refl _) _).alloc (by simp) _
  have AA1 : Hid (Below w.heap.size w ((w.alloc (.cells #[.slice a0 d.nb c0, .slice a1 d.nc c1, .slice a2 d.ns c2] 27)).alloc (.cells #[.slice none 0 0, .slice none 0 0, .slice none 0 0] 27))) := A1
  have X0 : Hid (Box3 ((w.alloc (.cells #[.slice a0 d.nb c0, .slice a1 d.nc c1, .slice a2 d.ns c2] 27)).alloc (.cells #[.slice none 0 0, .slice none 0 0, .slice none 0 0] 27)) (w.heap.size + 1) 27 (.slice none 0 0) (.slice none 0 0) (.slice none 0 0)) := Box3.madeAt (by simp) _ _ _ _
  have Y0 : Hid (Box3 ((w.alloc (.cells #[.slice a0 d.nb c0, .slice a1 d.nc c1, .slice a2 d.ns c2] 27)).alloc (.cells #[.slice none 0 0, .slice none 0 0, .slice none 0 0] 27)) w.heap.size 27 (.slice a0 d.nb c0) (.slice a1 d.nc c1) (.slice a2 d.ns c2)) := (Box3.made w _ _ _ _).alloc _
  have G0 : w.heap.size + 2 ≤ ((w.alloc (.cells #[.slice a0 d.nb c0, .slice a1 d.nc c1, .slice a2 d.ns c2] 27)).alloc (.cells #[.slice none 0 0, .slice none 0 0, .slice none 0 0] 27)).heap.size := by simp
  clear h A1 z0 z1 z2
  go_enter Tryd.func36, Tryd.ntmps36
  go_wp2_with fail
  generalize ((w.alloc (.cells #[.slice a0 d.nb c0, .slice a1 d.nc c1, .slice a2 d.ns c2] 27)).alloc (.cells #[.slice none 0 0, .slice none 0 0, .slice none 0 0] 27)) = u at *
  refine (OW.out _ (DV.out.below AA1.out)).mono ?_
  rintro e w1 ⟨⟨v0, v1, v2, rfl, hR⟩, hb⟩
  obtain ⟨i0, k0, rfl, -⟩ := hR.t0.form
  obtain ⟨i1, k1, rfl, -⟩ := hR.t1.form
  obtain ⟨i2, k2, rfl, -⟩ := hR.t2.form
  have bA : Below w1.heap.size w1 (w1.alloc (.cells #[.slice i0 d.nb k0, .slice i1 d.nc k1, .slice i2 d.ns k2] 27)) := (Below.refl _ _).alloc (Nat.le_refl _) _
  have B1 : Below w.heap.size w w1 := AA1.out.trans (hb.mono AA1.out.size)
  have LT : Hid ((∀ g, (Value.slice i0 d.nb k0).ownBlock = some g → g < w1.heap.size) ∧ (∀ g, (Value.slice i1 d.nc k1).ownBlock = some g → g < w1.heap.size) ∧ (∀ g, (Value.slice i2 d.ns k2).ownBlock = some g → g < w1.heap.size)) := ⟨fun g e => (World.ownsRow.lt hR.t0 g e).2, fun g e => (World.ownsRow.lt hR.t1 g e).2, fun g e => (World.ownsRow.lt hR.t2 g e).2⟩
  have G1 : w.heap.size + 2 ≤ w1.heap.size := Nat.le_trans G0 hb.size
  have I1 : Hid (Box3 (w1.alloc (.cells #[.slice i0 d.nb k0, .slice i1 d.nc k1, .slice i2 d.ns k2] 27)) w.heap.size 27 (.slice a0 d.nb c0) (.slice a1 d.nc c1) (.slice a2 d.ns c2) ∧ Box3 (w1.alloc (.cells #[.slice i0 d.nb k0, .slice i1 d.nc k1, .slice i2 d.ns k2] 27)) (w.heap.size + 1) 27 (.slice none 0 0) (.slice none 0 0) (.slice none 0 0) ∧ Box3 (w1.alloc (.cells #[.slice i0 d.nb k0, .slice i1 d.nc k1, .slice i2 d.ns k2] 27)) w1.heap.size 27 (.slice i0 d.nb k0) (.slice i1 d.nc k1) (.slice i2 d.ns k2) ∧ Rows3 (w1.alloc (.cells #[.slice i0 d.nb k0, .slice i1 d.nc k1, .slice i2 d.ns k2] 27)) (w.heap.size + 2) (d.halfK 0) (.slice i0 d.nb k0) (.slice i1 d.nc k1) (.slice i2 d.ns k2) ∧ Below w.heap.size w (w1.alloc (.cells #[.slice i0 d.nb k0, .slice i1 d.nc k1, .slice i2 d.ns k2] 27))) :=
    ⟨(Y0.out.below hb).below bA, (X0.out.below hb).below bA, Box3.made _ _ _ _ _, (show Rows3 w1 (w.heap.size + 2) (d.halfK 0) _ _ _ from ⟨own_mono hR.t0 G0, own_mono hR.t1 G0, own_mono hR.t2 G0, hR.n01, hR.n02, hR.n12⟩).below bA, B1.trans (bA.mono B1.size)⟩
  clear hR hb bA B1 AA1 X0 Y0 OW G0
  go_wp2_with fail
  generalize (w1.alloc (.cells #[.slice i0 d.nb k0, .slice i1 d.nc k1, .slice i2 d.ns k2] 27)) = w2 at *
  generalize w1.heap.size = z at *
  go_loopw [4] (fun t wr => ∃ k : Nat, k ≤ d.nc ∧ t = .int .i64 (k : Int) ∧ Box3 wr w.heap.size 27 (.slice a0 d.nb c0) (.slice a1 d.nc c1) (.slice a2 d.ns c2) ∧ Box3 wr (w.heap.size + 1) 27 (.slice none 0 0) (.slice none 0 0) (.slice none 0 0) ∧ Box3 wr z 27 (.slice i0 d.nb k0) (.slice i1 d.nc k1) (.slice i2 d.ns k2) ∧ Rows3 wr (w.heap.size + 2) (d.halfK k) (.slice i0 d.nb k0) (.slice i1 d.nc k1) (.slice i2 d.ns k2) ∧ Below w.heap.size w wr) (fun t _ => d.nc - (intOf t).toNat)
  case atStart => exact ⟨0, by omega, rfl, I1.out⟩
  case round =>
    clear I1
    obtain ⟨k, hk, rfl, hY, hX, hZ, hR, hb⟩ := hrel
    have hc3 := hd.nc
    by_cases hlt : k < d.nc
    · have hlt' : (k : Int) < (d.nc : Int) := by omega
      obtain ⟨x, hxA⟩ : ∃ x : Nat, d.A k = (x : Int) := ⟨(d.A k).toNat, by have := (hd.C k hlt).1; omega⟩
      have hx : x < d.nb := by have := (hd.C k hlt).1; omega
      have hx' : (x : Int) < (d.nb : Int) := by omega
      obtain ⟨b1, o1, ea1, hp⟩ := (DV.out.2.1.below hb).opened (by omega)
      obtain ⟨q1, q2⟩ := hp k hlt
      rw [hxA] at q1
      obtain ⟨g0, c0', e0, r0, hBg0, -, hgl0⟩ := hR.t0.pos (by show 0 < d.nb; omega)
      cases e0
      have cx := r0.c x hx
      have fx := r0.z x hx
      have gz : g0 ≠ z := Nat.ne_of_lt (LT.out.1 g0 rfl)
      have O4 : OnlyB g0 wr (wr.setCell ⟨g0, x, none⟩ (.string (d.D k))) := (OnlyB.refl g0 _).setCell x _
      have D4 : Below (wr.setCell ⟨g0, x, none⟩ (.string (d.D k))).heap.size (wr.setCell ⟨g0, x, none⟩ (.string (d.D k))) (wr.setCell ⟨g0, x, none⟩ (.string (d.D k))).drew := (Below.refl _ _).drew
      have HF : Hid (∃ k' : Nat, k' ≤ d.nc ∧ Value.int .i64 ((k : Int) + 1) = .int .i64 (k' : Int) ∧ Box3 (wr.setCell ⟨g0, x, none⟩ (.string (d.D k))).drew w.heap.size 27 (.slice a0 d.nb c0) (.slice a1 d.nc c1) (.slice a2 d.ns c2) ∧ Box3 (wr.setCell ⟨g0, x, none⟩ (.string (d.D k))).drew (w.heap.size + 1) 27 (.slice none 0 0) (.slice none 0 0) (.slice none 0 0) ∧ Box3 (wr.setCell ⟨g0, x, none⟩ (.string (d.D k))).drew z 27 (.slice (some ⟨g0, 0, none⟩) d.nb k0) (.slice i1 d.nc k1) (.slice i2 d.ns k2) ∧ Rows3 (wr.setCell ⟨g0, x, none⟩ (.string (d.D k))).drew (w.heap.size + 2) (d.halfK k') (.slice (some ⟨g0, 0, none⟩) d.nb k0) (.slice i1 d.nc k1) (.slice i2 d.ns k2) ∧ Below w.heap.size w (wr.setCell ⟨g0, x, none⟩ (.string (d.D k))).drew) := ⟨k + 1, by omega, by go_num, (hY.ofBlock (O4.block _ hY.lt (by omega))).below D4, (hX.ofBlock (O4.block _ hX.lt (by omega))).below D4, (hZ.ofBlock (O4.block _ hZ.lt (Ne.symm gz))).below D4, Rows3.below ⟨(hR.t0.put x (d.D k)).congr (fun i _ => by
          show (if i = x then d.D k else rdF d.A d.D (d.B i) (i : Int) k) = (if d.A k = (i : Int) then d.D k else rdF d.A d.D (d.B i) (i : Int) k)
          by_cases e : i = x
          · rw [if_pos e, if_pos (by omega)]
          · rw [if_neg e, if_neg (by omega)]), hR.t1.onlyB O4 (hR.n01 g0 rfl), hR.t2.onlyB O4 (hR.n02 g0 rfl), hR.n01, hR.n02, hR.n12⟩ D4, (hb.trans (O4.toBelow (by omega) hb.size)).drew⟩
      have y1 := hY.c1
      have zz0 := hZ.c0
      subst ea1
      clear hY hX hZ hR hb hp O4 D4 r0
      go_wp2_with fail
      go_region
      go_wp2
      go_roundw
      case rel => exact HF.out
      case measure => simp [intOf]; omega
    · have hlt' : ¬ (k : Int) < (d.nc : Int) := by omega
      obtain rfl : k = d.nc := by omega
      have y1 := hY.c1
      have e0 := hZ.c0
      have e1 := hZ.c1
      have e2 := hZ.c2
      have f1 := hZ.fr 1
      have x0 := hX.c0
      have x1 := hX.c1
      have x2 := hX.c2
      have g0 := hX.fr 0
      have g1 := hX.fr 1
      have g2 := hX.fr 2
      have hzl := hZ.lt
      have hxl := hX.lt
      have hzs : w.heap.size + 1 ≠ z := by omega
      have OZ : OnlyB z wr (wr.setCell ⟨z, 1, none⟩ (.slice (some ⟨wr.heap.size, 0, none⟩) 0 0)) := (OnlyB.refl z wr).setCell 1 _
      have OX : OnlyB (w.heap.size + 1) (wr.setCell ⟨z, 1, none⟩ (.slice (some ⟨wr.heap.size, 0, none⟩) 0 0)) ((((wr.setCell ⟨z, 1, none⟩ (.slice (some ⟨wr.heap.size, 0, none⟩) 0 0)).setCell ⟨w.heap.size + 1, 0, none⟩ (.slice i0 d.nb k0)).setCell ⟨w.heap.size + 1, 1, none⟩ (.slice (some ⟨wr.heap.size, 0, none⟩) 0 0)).setCell ⟨w.heap.size + 1, 2, none⟩ (.slice i2 d.ns k2)) := (((OnlyB.refl _ (wr.setCell ⟨z, 1, none⟩ (.slice (some ⟨wr.heap.size, 0, none⟩) 0 0))).setCell 0 _).setCell 1 _).setCell 2 _
      have hsz : ((((wr.setCell ⟨z, 1, none⟩ (.slice (some ⟨wr.heap.size, 0, none⟩) 0 0)).setCell ⟨w.heap.size + 1, 0, none⟩ (.slice i0 d.nb k0)).setCell ⟨w.heap.size + 1, 1, none⟩ (.slice (some ⟨wr.heap.size, 0, none⟩) 0 0)).setCell ⟨w.heap.size + 1, 2, none⟩ (.slice i2 d.ns k2)).heap.size = wr.heap.size := by simp
      have bA : Below ((((wr.setCell ⟨z, 1, none⟩ (.slice (some ⟨wr.heap.size, 0, none⟩) 0 0)).setCell ⟨w.heap.size + 1, 0, none⟩ (.slice i0 d.nb k0)).setCell ⟨w.heap.size + 1, 1, none⟩ (.slice (some ⟨wr.heap.size, 0, none⟩) 0 0)).setCell ⟨w.heap.size + 1, 2, none⟩ (.slice i2 d.ns k2)).heap.size ((((wr.setCell ⟨z, 1, none⟩ (.slice (some ⟨wr.heap.size, 0, none⟩) 0 0)).setCell ⟨w.heap.size + 1, 0, none⟩ (.slice i0 d.nb k0)).setCell ⟨w.heap.size + 1, 1, none⟩ (.slice (some ⟨wr.heap.size, 0, none⟩) 0 0)).setCell ⟨w.heap.size + 1, 2, none⟩ (.slice i2 d.ns k2)) (((((wr.setCell ⟨z, 1, none⟩ (.slice (some ⟨wr.heap.size, 0, none⟩) 0 0)).setCell ⟨w.heap.size + 1, 0, none⟩ (.slice i0 d.nb k0)).setCell ⟨w.heap.size + 1, 1, none⟩ (.slice (some ⟨wr.heap.size, 0, none⟩) 0 0)).setCell ⟨w.heap.size + 1, 2, none⟩ (.slice i2 d.ns k2)).alloc (.cells #[] 68)) := (Below.refl _ _).alloc (Nat.le_refl _) _
      have X5 : Hid (Box3 (((((wr.setCell ⟨z, 1, none⟩ (.slice (some ⟨wr.heap.size, 0, none⟩) 0 0)).setCell ⟨w.heap.size + 1, 0, none⟩ (.slice i0 d.nb k0)).setCell ⟨w.heap.size + 1, 1, none⟩ (.slice (some ⟨wr.heap.size, 0, none⟩) 0 0)).setCell ⟨w.heap.size + 1, 2, none⟩ (.slice i2 d.ns k2)).alloc (.cells #[] 68)) (w.heap.size + 1) 27 (.slice i0 d.nb k0) (.slice (some ⟨wr.heap.size, 0, none⟩) 0 0) (.slice i2 d.ns k2)) := ((((hX.ofBlock (OZ.block _ hX.lt hzs)).set0 _).set1 _).set2 _).alloc _
      have t1' : PnR (((((wr.setCell ⟨z, 1, none⟩ (.slice (some ⟨wr.heap.size, 0, none⟩) 0 0)).setCell ⟨w.heap.size + 1, 0, none⟩ (.slice i0 d.nb k0)).setCell ⟨w.heap.size + 1, 1, none⟩ (.slice (some ⟨wr.heap.size, 0, none⟩) 0 0)).setCell ⟨w.heap.size + 1, 2, none⟩ (.slice i2 d.ns k2)).alloc (.cells #[] 68)) w.heap.size (.slice (some ⟨wr.heap.size, 0, none⟩) 0 0) 0 d.A d.D := by
        have := PnR.lit ((((wr.setCell ⟨z, 1, none⟩ (.slice (some ⟨wr.heap.size, 0, none⟩) 0 0)).setCell ⟨w.heap.size + 1, 0, none⟩ (.slice i0 d.nb k0)).setCell ⟨w.heap.size + 1, 1, none⟩ (.slice (some ⟨wr.heap.size, 0, none⟩) 0 0)).setCell ⟨w.heap.size + 1, 2, none⟩ (.slice i2 d.ns k2)) w.heap.size (by rw [hsz]; exact hb.size) d.A d.D
        rw [hsz] at this
        exact this
      have T0 : TxR (((((wr.setCell ⟨z, 1, none⟩ (.slice (some ⟨wr.heap.size, 0, none⟩) 0 0)).setCell ⟨w.heap.size + 1, 0, none⟩ (.slice i0 d.nb k0)).setCell ⟨w.heap.size + 1, 1, none⟩ (.slice (some ⟨wr.heap.size, 0, none⟩) 0 0)).setCell ⟨w.heap.size + 1, 2, none⟩ (.slice i2 d.ns k2)).alloc (.cells #[] 68)) w.heap.size (.slice i0 d.nb k0) d.nb d.rd := own_mono (((hR.t0.onlyB OZ (fun e => Nat.lt_irrefl _ (LT.out.1 _ e))).onlyB OX (fun e => by have := (World.ownsRow.lt hR.t0 _ e).1; omega)).below bA) (Nat.le_add_right _ _)
      have T2 : TxR (((((wr.setCell ⟨z, 1, none⟩ (.slice (some ⟨wr.heap.size, 0, none⟩) 0 0)).setCell ⟨w.heap.size + 1, 0, none⟩ (.slice i0 d.nb k0)).setCell ⟨w.heap.size + 1, 1, none⟩ (.slice (some ⟨wr.heap.size, 0, none⟩) 0 0)).setCell ⟨w.heap.size + 1, 2, none⟩ (.slice i2 d.ns k2)).alloc (.cells #[] 68)) w.heap.size (.slice i2 d.ns k2) d.ns d.S := own_mono (((hR.t2.onlyB OZ (fun e => Nat.lt_irrefl _ (LT.out.2.2 _ e))).onlyB OX (fun e => by have := (World.ownsRow.lt hR.t2 _ e).1; omega)).below bA) (Nat.le_add_right _ _)
      have R5 : Hid (Rows3 (((((wr.setCell ⟨z, 1, none⟩ (.slice (some ⟨wr.heap.size, 0, none⟩) 0 0)).setCell ⟨w.heap.size + 1, 0, none⟩ (.slice i0 d.nb k0)).setCell ⟨w.heap.size + 1, 1, none⟩ (.slice (some ⟨wr.heap.size, 0, none⟩) 0 0)).setCell ⟨w.heap.size + 1, 2, none⟩ (.slice i2 d.ns k2)).alloc (.cells #[] 68)) w.heap.size d.synced (.slice i0 d.nb k0) (.slice (some ⟨wr.heap.size, 0, none⟩) 0 0) (.slice i2 d.ns k2)) := ⟨T0, t1', T2, fun g h1 h2 => by have := LT.out.1 g h1; have : wr.heap.size = g := Option.some.inj h2; omega, hR.n02, fun g h1 h2 => by have := LT.out.2.2 g h2; have : wr.heap.size = g := Option.some.inj h1; omega⟩
      have B5 : Hid (Below w.heap.size w (((((wr.setCell ⟨z, 1, none⟩ (.slice (some ⟨wr.heap.size, 0, none⟩) 0 0)).setCell ⟨w.heap.size + 1, 0, none⟩ (.slice i0 d.nb k0)).setCell ⟨w.heap.size + 1, 1, none⟩ (.slice (some ⟨wr.heap.size, 0, none⟩) 0 0)).setCell ⟨w.heap.size + 1, 2, none⟩ (.slice i2 d.ns k2)).alloc (.cells #[] 68))) := by
        have q1 := hb.trans (OZ.toBelow (B := w.heap.size) (by omega) hb.size)
        have q2 := q1.trans (OX.toBelow (B := w.heap.size) (by omega) q1.size)
        exact q2.trans (bA.mono q2.size)
      clear OZ OX bA t1' T0 T2 hsz hR hY hZ hX hb
      go_wp2
      generalize (((((wr.setCell ⟨z, 1, none⟩ (.slice (some ⟨wr.heap.size, 0, none⟩) 0 0)).setCell ⟨w.heap.size + 1, 0, none⟩ (.slice i0 d.nb k0)).setCell ⟨w.heap.size + 1, 1, none⟩ (.slice (some ⟨wr.heap.size, 0, none⟩) 0 0)).setCell ⟨w.heap.size + 1, 2, none⟩ (.slice i2 d.ns k2)).alloc (.cells #[] 68)) = u5 at *
      have y0 := X5.out.c0
      have y1' := X5.out.c1
      have y2 := X5.out.c2
      clear x0 x1 x2 e0 e1 e2 f1 g0 g1 g2 y1
      exact ret_cell (b := w.heap.size + 1) (v := .agg #[.slice i0 d.nb k0, (.slice (some ⟨wr.heap.size, 0, none⟩) 0 0), .slice i2 d.ns k2]) Tryd.results36 rfl (by go_simp) ⟨⟨_, _, _, rfl, R5.out⟩, B5.out⟩
end Go.Proofs.YtgdfhgepbamhmaaDoor
