/-
  A disk copied; a step of the program.
-/
import Derived.Test.YtkhglllicblbbaaDoorDriveDo
import Derived.Test.YtkhglllicblbbaaDoorDiskTo
import Derived.Test.YtkhglllicblbbaaDoorDiskOkI
namespace Go.Proofs.YtkhglllicblbbaaDoor
open Go.ChangeShapes Go.WideShapes Go.ChangeAt Go.RowKit
/-- Three rows of a disk of the call's own, each at its own place. -/
structure Rows3 (w : World) (B : Nat) (d : Dk) (v0 v1 v2 : Value) : Prop where
  t0 : TxR w B v0 d.nb d.B
  t1 : PnR w B v1 d.nc d.A d.D
  t2 : TxR w B v2 d.ns d.S
  n01 : ∀ g, v0.ownBlock = some g → v1.ownBlock ≠ some g
  n02 : ∀ g, v0.ownBlock = some g → v2.ownBlock ≠ some g
  n12 : ∀ g, v1.ownBlock = some g → v2.ownBlock ≠ some g
theorem Rows3.below {w w' : World} {B : Nat} {d : Dk} {v0 v1 v2 : Value} (h : Rows3 w B d v0 v1 v2) (hb : Below w.heap.size w w') : Rows3 w' B d v0 v1 v2 := ⟨h.t0.below hb, h.t1.below hb, h.t2.below hb, h.n01, h.n02, h.n12⟩
set_option maxRecDepth 100000 in
set_option maxHeartbeats 4000000 in
theorem copiedDisk_any (d : Dk) (a0 a1 a2 : Option Addr) (c0 c1 c2 : Nat) (h0 : d.nb ≤ 64) (h1 : d.nc ≤ 4096) (h2 : d.ns ≤ 64) (z0 : a0 = none → c0 = 0) (z1 : a1 = none → c1 = 0) (z2 : a2 = none → c2 = 0) (w : World) (h : DiskV w d a0 a1 a2) :
    Calls Tryd.prog 54 #[.agg #[.slice a0 d.nb c0, .slice a1 d.nc c1, .slice a2 d.ns c2]] w fun e w' => (∃ v0 v1 v2, e = .returned (.agg #[v0, v1, v2]) ∧ Rows3 w' w.heap.size d v0 v1 v2) ∧ Below w.heap.size w w' := by
  have CB : Hid (∀ (w : World), Strs w a0 d.nb d.B → Calls Tryd.prog 93 #[.slice a0 d.nb c0] w fun e w' => (∃ v, e = .returned v ∧ TxR w' w.heap.size v d.nb d.B) ∧ Below w.heap.size w w') := fun w h => copiedBlocks_any _ _ _ _ (by omega) z0 w h
  have CS : Hid (∀ (w : World), Strs w a2 d.ns d.S → Calls Tryd.prog 93 #[.slice a2 d.ns c2] w fun e w' => (∃ v, e = .returned v ∧ TxR w' w.heap.size v d.ns d.S) ∧ Below w.heap.size w w') := fun w h => copiedBlocks_any _ _ _ _ (by omega) z2 w h
  have DV : Hid (DiskV w d a0 a1 a2) := h
  clear h
  go_enter Tryd.func54, Tryd.ntmps54
  go_wp2_with fail
  have A0 : Below w.heap.size w ((w.alloc (.cells #[.slice a0 d.nb c0, .slice a1 d.nc c1, .slice a2 d.ns c2] 28)).alloc (.cells #[.slice none 0 0, .slice none 0 0, .slice none 0 0] 28)) := ((Below.refl _ _).alloc (Nat.le_refl _) _).alloc (by simp) _
  have D0 : Hid (DiskV ((w.alloc (.cells #[.slice a0 d.nb c0, .slice a1 d.nc c1, .slice a2 d.ns c2] 28)).alloc (.cells #[.slice none 0 0, .slice none 0 0, .slice none 0 0] 28)).drew d a0 a1 a2) := DV.out.below A0.drew
  have B0 : Hid (Below w.heap.size w ((w.alloc (.cells #[.slice a0 d.nb c0, .slice a1 d.nc c1, .slice a2 d.ns c2] 28)).alloc (.cells #[.slice none 0 0, .slice none 0 0, .slice none 0 0] 28)).drew) := A0.drew
  have X0 : Hid (Box3 ((w.alloc (.cells #[.slice a0 d.nb c0, .slice a1 d.nc c1, .slice a2 d.ns c2] 28)).alloc (.cells #[.slice none 0 0, .slice none 0 0, .slice none 0 0] 28)).drew (w.heap.size + 1) 28 (.slice none 0 0) (.slice none 0 0) (.slice none 0 0)) := (Box3.madeAt (w := w.alloc (.cells #[.slice a0 d.nb c0, .slice a1 d.nc c1, .slice a2 d.ns c2] 28)) (by simp) _ _ _ _).below (Below.refl _ _).drew
  have H : ((w.alloc (.cells #[.slice a0 d.nb c0, .slice a1 d.nc c1, .slice a2 d.ns c2] 28)).alloc (.cells #[.slice none 0 0, .slice none 0 0, .slice none 0 0] 28)).drew.cell? ⟨w.heap.size, 0, none⟩ = some (.slice a0 d.nb c0) ∧ ((w.alloc (.cells #[.slice a0 d.nb c0, .slice a1 d.nc c1, .slice a2 d.ns c2] 28)).alloc (.cells #[.slice none 0 0, .slice none 0 0, .slice none 0 0] 28)).drew.cell? ⟨w.heap.size, 1, none⟩ = some (.slice a1 d.nc c1) ∧ ((w.alloc (.cells #[.slice a0 d.nb c0, .slice a1 d.nc c1, .slice a2 d.ns c2] 28)).alloc (.cells #[.slice none 0 0, .slice none 0 0, .slice none 0 0] 28)).drew.cell? ⟨w.heap.size, 2, none⟩ = some (.slice a2 d.ns c2) := by refine ⟨?_, ?_, ?_⟩ <;> simp
  have G0 : w.heap.size + 2 ≤ ((w.alloc (.cells #[.slice a0 d.nb c0, .slice a1 d.nc c1, .slice a2 d.ns c2] 28)).alloc (.cells #[.slice none 0 0, .slice none 0 0, .slice none 0 0] 28)).drew.heap.size := by simp
  clear A0 DV
  refine wp_region_noPanic ?_
  refine wp_region_held_drew (S := fun w' => w'.cell? ⟨w.heap.size, 0, none⟩ = some (.slice a0 d.nb c0) ∧ w'.cell? ⟨w.heap.size, 1, none⟩ = some (.slice a1 d.nc c1) ∧ w'.cell? ⟨w.heap.size, 2, none⟩ = some (.slice a2 d.ns c2)) (by kernel_rfl) H (fun _ => ?_)
  generalize ((w.alloc (.cells #[.slice a0 d.nb c0, .slice a1 d.nc c1, .slice a2 d.ns c2] 28)).alloc (.cells #[.slice none 0 0, .slice none 0 0, .slice none 0 0] 28)).drew = u1 at *
  refine wpAnyH_take (i := 0) (v := .pointer (some ⟨w.heap.size, 0, none⟩)) rfl (by kernel_rfl) (by kernel_rfl) (by kernel_rfl) (fun _ _ _ h => h) (Or.inl ⟨by rfl, ?_⟩) H ?_
  · intro w' hSw; go_simp
  change wpAnyH _ _ _ _ _ _ _ { tmps := #[_, _, _, _, _, _, _, _, _, _, _, _, _], defers := _ } _
  refine wpAnyH_take (i := 1) (v := .slice a0 d.nb c0) rfl (by kernel_rfl) (by kernel_rfl) (by kernel_rfl) (fun _ _ _ h => h) (Or.inl ⟨by rfl, ?_⟩) H ?_
  · intro w' hSw; have t0 := hSw.1; have t1 := hSw.2.1; have t2 := hSw.2.2; clear hSw; go_simp
  change wpAnyH _ _ _ _ _ _ _ { tmps := #[_, _, _, _, _, _, _, _, _, _, _, _, _], defers := _ } _
  refine wpAnyH_take (i := 3) (v := .pointer (some ⟨w.heap.size, 1, none⟩)) rfl (by kernel_rfl) (by kernel_rfl) (by kernel_rfl) (fun _ _ _ h => h) (Or.inl ⟨by rfl, ?_⟩) H ?_
  · intro w' hSw; go_simp
  change wpAnyH _ _ _ _ _ _ _ { tmps := #[_, _, _, _, _, _, _, _, _, _, _, _, _], defers := _ } _
  refine wpAnyH_take (i := 4) (v := .slice a1 d.nc c1) rfl (by kernel_rfl) (by kernel_rfl) (by kernel_rfl) (fun _ _ _ h => h) (Or.inl ⟨by rfl, ?_⟩) H ?_
  · intro w' hSw; have t0 := hSw.1; have t1 := hSw.2.1; have t2 := hSw.2.2; clear hSw; go_simp
  change wpAnyH _ _ _ _ _ _ _ { tmps := #[_, _, _, _, _, _, _, _, _, _, _, _, _], defers := _ } _
  refine wpAnyH_take (i := 6) (v := .pointer (some ⟨w.heap.size, 2, none⟩)) rfl (by kernel_rfl) (by kernel_rfl) (by kernel_rfl) (fun _ _ _ h => h) (Or.inl ⟨by rfl, ?_⟩) H ?_
  · intro w' hSw; go_simp
  change wpAnyH _ _ _ _ _ _ _ { tmps := #[_, _, _, _, _, _, _, _, _, _, _, _, _], defers := _ } _
  refine wpAnyH_take (i := 7) (v := .slice a2 d.ns c2) rfl (by kernel_rfl) (by kernel_rfl) (by kernel_rfl) (fun _ _ _ h => h) (Or.inl ⟨by rfl, ?_⟩) H ?_
  · intro w' hSw; have t0 := hSw.1; have t1 := hSw.2.1; have t2 := hSw.2.2; clear hSw; go_simp
  change wpAnyH _ _ _ _ _ _ _ { tmps := #[_, _, _, _, _, _, _, _, _, _, _, _, _], defers := _ } _
  refine wpAnyH_ready (rs := [2]) (by kernel_rfl) (by simp) ?_
  refine AllReadyH.cons rfl (fun KK hK => ?_) AllReadyH.nil
  go_simp
  refine (CB.out _ D0.out.1).mono ?_
  rintro e u2 ⟨⟨v0, rfl, hv0⟩, hb⟩
  obtain ⟨i0, k0, rfl, -⟩ := hv0.form
  have H' : u2.cell? ⟨w.heap.size, 0, none⟩ = some (.slice a0 d.nb c0) ∧ u2.cell? ⟨w.heap.size, 1, none⟩ = some (.slice a1 d.nc c1) ∧ u2.cell? ⟨w.heap.size, 2, none⟩ = some (.slice a2 d.ns c2) := ⟨(hb.cell (strBlock H.1)).trans H.1, (hb.cell (strBlock H.2.1)).trans H.2.1, (hb.cell (strBlock H.2.2)).trans H.2.2⟩
  replace H := H'; clear H'
  have D1 : Hid (DiskV u2 d a0 a1 a2) := D0.out.below hb
  have B1 : Hid (Below w.heap.size w u2) := B0.out.trans (hb.mono B0.out.size)
  have X1 : Hid (Box3 u2 (w.heap.size + 1) 28 (.slice none 0 0) (.slice none 0 0) (.slice none 0 0)) := X0.out.below hb
  have V0 : Hid (TxR u2 (w.heap.size + 2) (.slice i0 d.nb k0) d.nb d.B) := own_mono hv0 G0
  have G1 : w.heap.size + 2 ≤ u2.heap.size := Nat.le_trans G0 hb.size
  have L0 : Hid (∀ g, (Value.slice i0 d.nb k0).ownBlock = some g → g < u2.heap.size) := fun g e => (World.ownsRow.lt hv0 g e).2
  refine hK.out _ _ H (fun _ => ?_)
  clear hK KK hb hv0 D0 B0 X0 CB
  change wpAnyH _ _ _ _ _ _ _ { tmps := #[_, _, _, _, _, _, _, _, _, _, _, _, _], defers := _ } _
  obtain ⟨v1, u3, hr, ho, hg, -⟩ := appPn u2 u2.heap.size (.slice none 0 0) 0 d.A d.D a1 d.nc c1 d.A d.D 26 (Nat.le_refl _) (by omega) (PnR.nil _ _ _ _) D1.out.2.1 z1
  replace ho : PnR u3 u2.heap.size v1 d.nc d.A d.D := by
    rw [Nat.zero_add] at ho
    exact ho.congr (fun i _ => ⟨by unfold catI; rw [if_neg (by omega)]; rfl, by unfold catT; rw [if_neg (by omega)]; rfl⟩)
  have hb : Below u2.heap.size u2 u3 := grown_belowD hg
  refine wpAnyH_ready (rs := [5]) (by kernel_rfl) (by simp) ?_
  refine AllReadyH.cons rfl (fun KK hK => ?_) AllReadyH.nil
  rw [if_pos (by rfl)]
  refine Lib.wp_append_run _ (.const (.slice none 0 0)) (.tmp 7) 26 26 rfl (.slice none 0 0) (.slice a1 d.nc c1) rfl rfl v1 u3 hr ?_
  obtain ⟨i1, k1, rfl, -⟩ := ho.form
  have H' : u3.cell? ⟨w.heap.size, 0, none⟩ = some (.slice a0 d.nb c0) ∧ u3.cell? ⟨w.heap.size, 1, none⟩ = some (.slice a1 d.nc c1) ∧ u3.cell? ⟨w.heap.size, 2, none⟩ = some (.slice a2 d.ns c2) := ⟨(hb.cell (strBlock H.1)).trans H.1, (hb.cell (strBlock H.2.1)).trans H.2.1, (hb.cell (strBlock H.2.2)).trans H.2.2⟩
  replace H := H'; clear H'
  have D2 : Hid (DiskV u3 d a0 a1 a2) := D1.out.below hb
  have B2 : Hid (Below w.heap.size w u3) := B1.out.trans (hb.mono B1.out.size)
  have X2 : Hid (Box3 u3 (w.heap.size + 1) 28 (.slice none 0 0) (.slice none 0 0) (.slice none 0 0)) := X1.out.below hb
  have V0' : Hid (TxR u3 (w.heap.size + 2) (.slice i0 d.nb k0) d.nb d.B) := V0.out.below hb
  have V1 : Hid (PnR u3 (w.heap.size + 2) (.slice i1 d.nc k1) d.nc d.A d.D) := own_mono ho G1
  have G2 : w.heap.size + 2 ≤ u3.heap.size := Nat.le_trans G1 hb.size
  have N01 : Hid (∀ g, (Value.slice i0 d.nb k0).ownBlock = some g → (Value.slice i1 d.nc k1).ownBlock ≠ some g) := fun g e1 e2 => by have := L0.out g e1; have := (World.ownsRow.lt ho g e2).1; omega
  have L0' : Hid (∀ g, (Value.slice i0 d.nb k0).ownBlock = some g → g < u3.heap.size) := fun g e => (World.ownsRow.lt V0'.out g e).2
  have L1 : Hid (∀ g, (Value.slice i1 d.nc k1).ownBlock = some g → g < u3.heap.size) := fun g e => (World.ownsRow.lt ho g e).2
  refine hK.out _ _ H (fun _ => ?_)
  clear hK KK hb ho hg hr D1 B1 X1 L0 V0
  change wpAnyH _ _ _ _ _ _ _ { tmps := #[_, _, _, _, _, _, _, _, _, _, _, _, _], defers := _ } _
  refine wpAnyH_ready (rs := [8]) (by kernel_rfl) (by simp) ?_
  refine AllReadyH.cons rfl (fun KK hK => ?_) AllReadyH.nil
  go_simp
  refine (CS.out _ D2.out.2.2).mono ?_
  rintro e u4 ⟨⟨v2, rfl, hv2⟩, hb⟩
  obtain ⟨i2, k2, rfl, -⟩ := hv2.form
  have H' : u4.cell? ⟨w.heap.size, 0, none⟩ = some (.slice a0 d.nb c0) ∧ u4.cell? ⟨w.heap.size, 1, none⟩ = some (.slice a1 d.nc c1) ∧ u4.cell? ⟨w.heap.size, 2, none⟩ = some (.slice a2 d.ns c2) := ⟨(hb.cell (strBlock H.1)).trans H.1, (hb.cell (strBlock H.2.1)).trans H.2.1, (hb.cell (strBlock H.2.2)).trans H.2.2⟩
  replace H := H'; clear H'
  have D3 : Hid (DiskV u4 d a0 a1 a2) := D2.out.below hb
  have B3 : Hid (Below w.heap.size w u4) := B2.out.trans (hb.mono B2.out.size)
  have X3 : Hid (Box3 u4 (w.heap.size + 1) 28 (.slice none 0 0) (.slice none 0 0) (.slice none 0 0)) := X2.out.below hb
  have R3 : Hid (Rows3 u4 (w.heap.size + 2) d (.slice i0 d.nb k0) (.slice i1 d.nc k1) (.slice i2 d.ns k2)) := ⟨V0'.out.below hb, V1.out.below hb, own_mono hv2 G2, N01.out, fun g e1 e2 => by have := L0'.out g e1; have := (World.ownsRow.lt hv2 g e2).1; omega, fun g e1 e2 => by have := L1.out g e1; have := (World.ownsRow.lt hv2 g e2).1; omega⟩
  refine hK.out _ _ H (fun _ => ?_)
  clear hK KK hb hv2 D2 B2 X2 V0' V1 N01 L0' L1 D3
  change wpAnyH _ _ _ _ _ _ _ { tmps := #[_, _, _, _, _, _, _, _, _, _, _, _, _], defers := _ } _
  refine wpAnyH_take (i := 9) (v := .agg #[.slice i0 d.nb k0, .slice i1 d.nc k1, .slice i2 d.ns k2]) rfl (by kernel_rfl) (by kernel_rfl) (by kernel_rfl) (fun _ _ _ h => h) (Or.inl ⟨by rfl, ?_⟩) H ?_
  · intro w' hSw; go_simp
  change wpAnyH _ _ _ _ _ _ _ { tmps := #[_, _, _, _, _, _, _, _, _, _, _, _, _], defers := _ } _
  refine wpAnyH_ready (rs := [10]) (by kernel_rfl) (by simp) ?_
  refine AllReadyH.cons rfl (fun KK hK => ?_) AllReadyH.nil
  have x0 := X3.out.c0
  have x1 := X3.out.c1
  have x2 := X3.out.c2
  have f0 := X3.out.fr 0
  have f1 := X3.out.fr 1
  have f2 := X3.out.fr 2
  have O5 : OnlyB (w.heap.size + 1) u4 (((u4.setCell ⟨w.heap.size + 1, 0, none⟩ (.slice i0 d.nb k0)).setCell ⟨w.heap.size + 1, 1, none⟩ (.slice i1 d.nc k1)).setCell ⟨w.heap.size + 1, 2, none⟩ (.slice i2 d.ns k2)) := (((OnlyB.refl _ u4).setCell 0 _).setCell 1 _).setCell 2 _
  have X5 : Box3 (((u4.setCell ⟨w.heap.size + 1, 0, none⟩ (.slice i0 d.nb k0)).setCell ⟨w.heap.size + 1, 1, none⟩ (.slice i1 d.nc k1)).setCell ⟨w.heap.size + 1, 2, none⟩ (.slice i2 d.ns k2)) (w.heap.size + 1) 28 (.slice i0 d.nb k0) (.slice i1 d.nc k1) (.slice i2 d.ns k2) := ((X3.out.set0 _).set1 _).set2 _
  have R5 : Hid (Rows3 (((u4.setCell ⟨w.heap.size + 1, 0, none⟩ (.slice i0 d.nb k0)).setCell ⟨w.heap.size + 1, 1, none⟩ (.slice i1 d.nc k1)).setCell ⟨w.heap.size + 1, 2, none⟩ (.slice i2 d.ns k2)) w.heap.size d (.slice i0 d.nb k0) (.slice i1 d.nc k1) (.slice i2 d.ns k2)) := ⟨own_mono (R3.out.t0.onlyB O5 (fun e => by have := (World.ownsRow.lt R3.out.t0 _ e).1; omega)) (by omega), own_mono (R3.out.t1.onlyB O5 (fun e => by have := (World.ownsRow.lt R3.out.t1 _ e).1; omega)) (by omega), own_mono (R3.out.t2.onlyB O5 (fun e => by have := (World.ownsRow.lt R3.out.t2 _ e).1; omega)) (by omega), R3.out.n01, R3.out.n02, R3.out.n12⟩
  have B5 : Hid (Below w.heap.size w (((u4.setCell ⟨w.heap.size + 1, 0, none⟩ (.slice i0 d.nb k0)).setCell ⟨w.heap.size + 1, 1, none⟩ (.slice i1 d.nc k1)).setCell ⟨w.heap.size + 1, 2, none⟩ (.slice i2 d.ns k2))) := B3.out.trans (O5.toBelow (by omega) B3.out.size)
  have H' : (((u4.setCell ⟨w.heap.size + 1, 0, none⟩ (.slice i0 d.nb k0)).setCell ⟨w.heap.size + 1, 1, none⟩ (.slice i1 d.nc k1)).setCell ⟨w.heap.size + 1, 2, none⟩ (.slice i2 d.ns k2)).cell? ⟨w.heap.size, 0, none⟩ = some (.slice a0 d.nb c0) ∧ (((u4.setCell ⟨w.heap.size + 1, 0, none⟩ (.slice i0 d.nb k0)).setCell ⟨w.heap.size + 1, 1, none⟩ (.slice i1 d.nc k1)).setCell ⟨w.heap.size + 1, 2, none⟩ (.slice i2 d.ns k2)).cell? ⟨w.heap.size, 1, none⟩ = some (.slice a1 d.nc c1) ∧ (((u4.setCell ⟨w.heap.size + 1, 0, none⟩ (.slice i0 d.nb k0)).setCell ⟨w.heap.size + 1, 1, none⟩ (.slice i1 d.nc k1)).setCell ⟨w.heap.size + 1, 2, none⟩ (.slice i2 d.ns k2)).cell? ⟨w.heap.size, 2, none⟩ = some (.slice a2 d.ns c2) := ⟨(cellOf (O5.block w.heap.size (strBlock H.1) (by omega))).trans H.1, (cellOf (O5.block w.heap.size (strBlock H.2.1) (by omega))).trans H.2.1, (cellOf (O5.block w.heap.size (strBlock H.2.2) (by omega))).trans H.2.2⟩
  replace H := H'
  clear H' O5 R3 B3
  go_simp
  refine hK.out _ _ H (fun _ => ?_)
  clear hK KK x0 x1 x2 f0 f1 f2 X3 H
  generalize (((u4.setCell ⟨w.heap.size + 1, 0, none⟩ (.slice i0 d.nb k0)).setCell ⟨w.heap.size + 1, 1, none⟩ (.slice i1 d.nc k1)).setCell ⟨w.heap.size + 1, 2, none⟩ (.slice i2 d.ns k2)) = u5 at *
  refine wpAnyH_done (by kernel_rfl) ?_ _
  refine NoPanic.normal ?_
  have y0 := X5.c0
  have y1 := X5.c1
  have y2 := X5.c2
  clear X5
  go_wp2
  exact ret_cell (b := w.heap.size + 1) (v := .agg #[.slice i0 d.nb k0, .slice i1 d.nc k1, .slice i2 d.ns k2]) Tryd.results54 rfl (by go_simp) ⟨⟨_, _, _, rfl, R5.out⟩, B5.out⟩
end Go.Proofs.YtkhglllicblbbaaDoor
