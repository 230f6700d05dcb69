/-
  Texts of the proof, joined: SavS.
-/
import Derived.Test.YtboekhegbachpaaGreatDoorS48
import Derived.Test.YtboekhegbachpaaGreatDoorS50
import Derived.Test.YtboekhegbachpaaGreatDoorS02
import Derived.Test.YtboekhegbachpaaGreatDoorS52
import Derived.Test.YtboekhegbachpaaGreatDoorS51
import Derived.Test.YtboekhegbachpaaGreatDoorS18
import Derived.Test.YtboekhegbachpaaGreatDoorTkH
namespace Go.Proofs.YtboekhegbachpaaGreatDoor
open Go.ChangeShapes Go.WideShapes Go.ChangeAt Go.RowKit
set_option linter.unusedVariables false
theorem svK_small {d : Dk} (h : d.Ok) (x : Int) (t : ByteArray) (k : Nat) : (svK d x t k).nb ≤ 1048576 ∧ (svK d x t k).nc ≤ 1048576 ∧ (svK d x t k).ns ≤ 1048576 := by
 have o := svK_ok h x t k
 have h1 := o.nb2
 have h2 := o.nc
 have h3 := o.ns
 omega
theorem svK_one (d : Dk) (x : Int) (t : ByteArray) : (svK d x t 1).nb = d.nb ∧ (svK d x t 1).nc = 0 := by
 have f : d.fault aS = 0 := by unfold Dk.fault; simp [aS]
 have g : d.done aS = d.synced := by unfold Dk.done; rw [f]; unfold Dk.acted; simp [aS]
 have e : svK d x t 1 = d.done aS := rfl
 rw [e, g]
 exact ⟨rfl, rfl⟩
theorem step_plan (d : Dk) (x : Int) (t : ByteArray) (q : Nat) (ok : d.Ok) (nb2 : 2 ≤ d.nb) (hx : 0 ≤ x ∧ x < 2) (ht : t.size ≤ 200) (a0 a1 a2 : Option Addr) (c0 c1 c2 : Nat) (z : (a0 = none → c0 = 0) ∧ (a1 = none → c1 = 0) ∧ (a2 = none → c2 = 0)) (w : World) (h : DiskV w (svK d x t q) a0 a1 a2) :
  Calls Tryz.prog 32 #[.agg #[.slice a0 (svK d x t q).nb c0, .slice a1 (svK d x t q).nc c1, .slice a2 (svK d x t q).ns c2], .agg #[.int .i64 (acK x t q).kd, .int .i64 (acK x t q).x, .string (acK x t q).s, .slice none 0 0, .int .i64 (acK x t q).t]] w fun e w' => (∃ code, RetT w.heap.size a0 a1 a2 w' e (svK d x t (q + 1)) code) ∧ Below w.heap.size w w' := by
 have okq := svK_ok ok x t q
 by_cases h1 : q = 1
 ·subst h1
  have e : acK x t 1 = aW x t := if_pos rfl
  obtain ⟨e1, e2⟩ := svK_one d x t
  rw [show svK d x t (1 + 1) = (svK d x t 1).done (aW x t) from rfl, e]
  exact (step_write (svK d x t 1) (aW x t) a0 a1 a2 none c0 c1 c2 0 okq z.1 z.2.1 z.2.2 w h rfl ⟨hx.1, by rw [e1]; show x < _; omega⟩ (by show ¬ 200 < t.size; omega) (by rw [e2]; omega)).mono fun e w' h => ⟨⟨_, h.1⟩, h.2⟩
 ·have e : acK x t q = aS := if_neg h1
  rw [show svK d x t (q + 1) = (svK d x t q).done (acK x t q) from rfl, e]
  exact (step_sync (svK d x t q) aS a0 a1 a2 none c0 c1 c2 0 okq z.1 z.2.1 z.2.2 w h rfl).mono fun e w' h => ⟨⟨_, h.1⟩, h.2⟩
def RetV (w' : World) (e : Ending) (d : Dk) : Prop := ∃ (a0 a1 a2 : Option Addr) (c0 c1 c2 : Nat), e = .returned (.agg #[.slice a0 d.nb c0, .slice a1 d.nc c1, .slice a2 d.ns c2]) ∧ DiskV w' d a0 a1 a2 ∧ (a0 = none → c0 = 0) ∧ (a1 = none → c1 = 0) ∧ (a2 = none → c2 = 0)
set_option maxRecDepth 100000 in
set_option maxHeartbeats 8000000 in
theorem l06Do_any (d : Dk) (x : Int) (t : ByteArray) (ok : d.Ok) (nb2 : 2 ≤ d.nb) (hx : 0 ≤ x ∧ x < 2) (ht : t.size ≤ 200) (a0 a1 a2 : Option Addr) (c0 c1 c2 b : Nat) (z0 : a0 = none → c0 = 0) (z1 : a1 = none → c1 = 0) (z2 : a2 = none → c2 = 0) (w : World) (h : DiskV w d a0 a1 a2) (hp : PlanR w b x t) :
  Calls Tryz.prog 15 #[.agg #[.slice a0 d.nb c0, .slice a1 d.nc c1, .slice a2 d.ns c2], .slice (some ⟨b, 0, none⟩) 3 3] w fun e w' => RetV w' e (svK d x t 3) ∧ Below w.heap.size w w' := by
 have A1 : Hid (Below w.heap.size w ((w.alloc (.cells #[.slice a0 d.nb c0, .slice a1 d.nc c1, .slice a2 d.ns c2] 29)).alloc (.cells #[.slice none 0 0, .slice none 0 0, .slice none 0 0] 29))) := ((Below.refl w.heap.size w).alloc (Nat.le_refl _) _).alloc (by simp) _
 have X0 : Hid (Box3 ((w.alloc (.cells #[.slice a0 d.nb c0, .slice a1 d.nc c1, .slice a2 d.ns c2] 29)).alloc (.cells #[.slice none 0 0, .slice none 0 0, .slice none 0 0] 29)) (w.heap.size + 1) 29 (.slice none 0 0) (.slice none 0 0) (.slice none 0 0)) := Box3.madeAt (by simp) _ _ _ _
 have Y0 : Hid (Box3 ((w.alloc (.cells #[.slice a0 d.nb c0, .slice a1 d.nc c1, .slice a2 d.ns c2] 29)).alloc (.cells #[.slice none 0 0, .slice none 0 0, .slice none 0 0] 29)) w.heap.size 29 (.slice a0 d.nb c0) (.slice a1 d.nc c1) (.slice a2 d.ns c2)) := (Box3.made w _ _ _ _).alloc _
 have DV : Hid (DiskV ((w.alloc (.cells #[.slice a0 d.nb c0, .slice a1 d.nc c1, .slice a2 d.ns c2] 29)).alloc (.cells #[.slice none 0 0, .slice none 0 0, .slice none 0 0] 29)) d a0 a1 a2) := h.below A1.out
 have PR : Hid (PlanR ((w.alloc (.cells #[.slice a0 d.nb c0, .slice a1 d.nc c1, .slice a2 d.ns c2] 29)).alloc (.cells #[.slice none 0 0, .slice none 0 0, .slice none 0 0] 29)) b x t) := hp.below A1.out
 have HB : Hid (b < w.heap.size) := hp.lt
 have SP : Hid (∀ (q : Nat) (a0 a1 a2 : Option Addr) (c0 c1 c2 : Nat) (w : World), (a0 = none → c0 = 0) ∧ (a1 = none → c1 = 0) ∧ (a2 = none → c2 = 0) → DiskV w (svK d x t q) a0 a1 a2 → Calls Tryz.prog 32 #[.agg #[.slice a0 (svK d x t q).nb c0, .slice a1 (svK d x t q).nc c1, .slice a2 (svK d x t q).ns c2], .agg #[.int .i64 (acK x t q).kd, .int .i64 (acK x t q).x, .string (acK x t q).s, .slice none 0 0, .int .i64 (acK x t q).t]] w fun e w' => (∃ code, RetT w.heap.size a0 a1 a2 w' e (svK d x t (q + 1)) code) ∧ Below w.heap.size w w') := fun q a0 a1 a2 c0 c1 c2 w z h => step_plan d x t q ok nb2 hx ht a0 a1 a2 c0 c1 c2 z w h
 have ZC0 : Hid ((a0 = none → c0 = 0) ∧ (a1 = none → c1 = 0) ∧ (a2 = none → c2 = 0)) := ⟨z0, z1, z2⟩
 clear h hp ok nb2 hx ht z0 z1 z2
 go_enter Tryz.func15, Tryz.ntmps15
 go_wp2
 generalize ((w.alloc (.cells #[.slice a0 d.nb c0, .slice a1 d.nc c1, .slice a2 d.ns c2] 29)).alloc (.cells #[.slice none 0 0, .slice none 0 0, .slice none 0 0] 29)) = u at *
 go_loopw [5] (fun i wr => ∃ (q : Nat) (a0 a1 a2 : Option Addr) (c0 c1 c2 : Nat), q ≤ 3 ∧ i = .int .i64 (q : Int) ∧ Box3 wr w.heap.size 29 (.slice a0 (svK d x t q).nb c0) (.slice a1 (svK d x t q).nc c1) (.slice a2 (svK d x t q).ns c2) ∧ DiskV wr (svK d x t q) a0 a1 a2 ∧ ((a0 = none → c0 = 0) ∧ (a1 = none → c1 = 0) ∧ (a2 = none → c2 = 0)) ∧ PlanR wr b x t ∧ Box3 wr (w.heap.size + 1) 29 (.slice none 0 0) (.slice none 0 0) (.slice none 0 0) ∧ Below w.heap.size w wr) (fun i _ => 3 - (intOf i).toNat)
 case atStart => exact ⟨0, a0, a1, a2, c0, c1, c2, by omega, rfl, Y0.out, DV.out, ZC0.out, PR.out, X0.out, A1.out⟩
 case round =>
  clear A1 X0 Y0 DV PR ZC0
  obtain ⟨q, a0, a1, a2, c0, c1, c2, hq, rfl, bx, dv, zc, pr, xz, hb⟩ := hrel
  have BX : Hid (Box3 wr w.heap.size 29 (.slice a0 (svK d x t q).nb c0) (.slice a1 (svK d x t q).nc c1) (.slice a2 (svK d x t q).ns c2)) := bx
  have DV : Hid (DiskV wr (svK d x t q) a0 a1 a2) := dv
  have ZC : Hid ((a0 = none → c0 = 0) ∧ (a1 = none → c1 = 0) ∧ (a2 = none → c2 = 0)) := zc
  have PR : Hid (PlanR wr b x t) := pr
  have XZ : Hid (Box3 wr (w.heap.size + 1) 29 (.slice none 0 0) (.slice none 0 0) (.slice none 0 0)) := xz
  have A1 : Hid (Below w.heap.size w wr) := hb
  clear bx dv zc pr xz hb
  by_cases hlt : q < 3
  ·have hlt' : (q : Int) < 3 := by omega
   have hq0 : (0 : Int) ≤ (q : Int) := by omega
   go_wp2_with fail
   have hb : Below wr.heap.size wr wr.drew := (Below.refl _ _).drew
   have H : PlanR wr.drew b x t := PR.out.below hb
   replace A1 := hid (A1.out.trans (hb.mono A1.out.size))
   replace BX := hid (BX.out.below hb)
   replace DV := hid (DV.out.below hb)
   replace XZ := hid (XZ.out.below hb)
   clear hb PR
   refine wp_region_noPanic ?_
   refine wp_region_held_drew (S := fun w' => PlanR w' b x t) (by kernel_rfl) H (fun _ => ?_)
   generalize wr.drew = y0 at *
   refine tkH (i := 1) (v := .slice (some ⟨b, 0, none⟩) 3 3) rfl (by kernel_rfl) (by rfl) ?_ H ?_
   ·intro w' hSw; go_simp
   change wpAnyH _ _ _ _ _ _ _ { tmps := #[_,_,_,_,_,_,_,_,_,_,_,_,_,_,_,_,_,_,_,_,_,_], defers := _ } _
   refine tkH (i := 2) (v := .int .i64 (q : Int)) rfl (by kernel_rfl) (by rfl) ?_ H ?_
   ·intro w' hSw; go_simp
   change wpAnyH _ _ _ _ _ _ _ { tmps := #[_,_,_,_,_,_,_,_,_,_,_,_,_,_,_,_,_,_,_,_,_,_], defers := _ } _
   refine tkH (i := 3) (v := .pointer (some ⟨b, q * 5, none⟩)) rfl (by kernel_rfl) (by rfl) ?_ H ?_
   ·intro w' hSw; go_simp
   change wpAnyH _ _ _ _ _ _ _ { tmps := #[_,_,_,_,_,_,_,_,_,_,_,_,_,_,_,_,_,_,_,_,_,_], defers := _ } _
   refine tkH (i := 4) (v := .agg #[.int .i64 (acK x t q).kd, .int .i64 (acK x t q).x, .string (acK x t q).s, .slice none 0 0, .int .i64 (acK x t q).t]) rfl (by kernel_rfl) (by rfl) ?_ H ?_
   ·intro w' hSw; obtain ⟨q0, q1, q2, q3, q4⟩ := hSw.act q hlt; clear hSw; go_simp
   change wpAnyH _ _ _ _ _ _ _ { tmps := #[_,_,_,_,_,_,_,_,_,_,_,_,_,_,_,_,_,_,_,_,_,_], defers := _ } _
   refine rdH (i := 0) (by kernel_rfl) rfl (fun KK hK => ?_)
   have t0 := BX.out.c0
   have t1 := BX.out.c1
   have t2 := BX.out.c2
   go_simp
   clear t0 t1 t2
   refine hK.out _ _ H (fun _ => ?_)
   clear hK KK
   change wpAnyH _ _ _ _ _ _ _ { tmps := #[_,_,_,_,_,_,_,_,_,_,_,_,_,_,_,_,_,_,_,_,_,_], defers := _ } _
   apply tg0
   rotate_left
   exact trivial
   case' q0 =>
    refine rdH (i := 5) (by kernel_rfl) rfl (fun KK hK => ?_)
    go_simp
    refine (SP.out q _ _ _ _ _ _ _ ZC.out DV.out).mono ?_
    rintro e y1 ⟨⟨code, ra0, ra1, ra2, rc0, rc1, rc2, rfl, rd, n0, n1, n2, -⟩, hb⟩
    replace A1 := hid (A1.out.trans (hb.mono A1.out.size))
    replace BX := hid (BX.out.below hb)
    replace DV := hid (DV.out.below hb)
    replace XZ := hid (XZ.out.below hb)
    replace H := H.below hb
    have RV : Hid (DiskV y1 (svK d x t (q + 1)) ra0 ra1 ra2) := rd
    have RZ : Hid ((ra0 = none → rc0 = 0) ∧ (ra1 = none → rc1 = 0) ∧ (ra2 = none → rc2 = 0)) := ⟨n0, n1, n2⟩
    clear hb rd n0 n1 n2 DV ZC SP
    obtain ⟨dn, hdn⟩ : ∃ dn, dn = svK d x t (q + 1) := ⟨_, rfl⟩
    rw [← hdn] at RV ⊢
    have HDN : Hid (dn = svK d x t (q + 1)) := hdn
    clear hdn
    refine hK.out _ _ H (fun _ => ?_)
    clear hK KK
    change wpAnyH _ _ _ _ _ _ _ { tmps := #[_,_,_,_,_,_,_,_,_,_,_,_,_,_,_,_,_,_,_,_,_,_], defers := _ } _
    refine tkH (i := 6) (v := .tuple #[.agg #[.slice ra0 (dn).nb rc0, .slice ra1 (dn).nc rc1, .slice ra2 (dn).ns rc2], .int .i64 code]) rfl (by kernel_rfl) (by rfl) ?_ H ?_
    ·intro w' hSw; go_simp
    change wpAnyH _ _ _ _ _ _ _ { tmps := #[_,_,_,_,_,_,_,_,_,_,_,_,_,_,_,_,_,_,_,_,_,_], defers := _ } _
    refine tkH (i := 7) (v := .agg #[.slice ra0 (dn).nb rc0, .slice ra1 (dn).nc rc1, .slice ra2 (dn).ns rc2]) rfl (by kernel_rfl) (by rfl) ?_ H ?_
    ·intro w' hSw; go_simp
    change wpAnyH _ _ _ _ _ _ _ { tmps := #[_,_,_,_,_,_,_,_,_,_,_,_,_,_,_,_,_,_,_,_,_,_], defers := _ } _
    refine tkH (i := 8) (v := .int .i64 code) rfl (by kernel_rfl) (by rfl) ?_ H ?_
    ·intro w' hSw; go_simp
    change wpAnyH _ _ _ _ _ _ _ { tmps := #[_,_,_,_,_,_,_,_,_,_,_,_,_,_,_,_,_,_,_,_,_,_], defers := _ } _
   case' q0 =>
    refine rdH (i := 9) (by kernel_rfl) rfl (fun KK hK => ?_)
    have ho : OnlyB w.heap.size y1 (((y1.setCell ⟨w.heap.size, 0, none⟩ (.slice ra0 (dn).nb rc0)).setCell ⟨w.heap.size, 1, none⟩ (.slice ra1 (dn).nc rc1)).setCell ⟨w.heap.size, 2, none⟩ (.slice ra2 (dn).ns rc2)) := (((OnlyB.refl _ y1).setCell 0 _).setCell 1 _).setCell 2 _
    have BX5 : Hid (Box3 (((y1.setCell ⟨w.heap.size, 0, none⟩ (.slice ra0 (dn).nb rc0)).setCell ⟨w.heap.size, 1, none⟩ (.slice ra1 (dn).nc rc1)).setCell ⟨w.heap.size, 2, none⟩ (.slice ra2 (dn).ns rc2)) w.heap.size 29 (.slice ra0 (dn).nb rc0) (.slice ra1 (dn).nc rc1) (.slice ra2 (dn).ns rc2)) := ((BX.out.set0 _).set1 _).set2 _
    have RV5 : Hid (DiskV (((y1.setCell ⟨w.heap.size, 0, none⟩ (.slice ra0 (dn).nb rc0)).setCell ⟨w.heap.size, 1, none⟩ (.slice ra1 (dn).nc rc1)).setCell ⟨w.heap.size, 2, none⟩ (.slice ra2 (dn).ns rc2)) dn ra0 ra1 ra2) := RV.out.stored BX.out _ _ _
    have XZ5 : Hid (Box3 (((y1.setCell ⟨w.heap.size, 0, none⟩ (.slice ra0 (dn).nb rc0)).setCell ⟨w.heap.size, 1, none⟩ (.slice ra1 (dn).nc rc1)).setCell ⟨w.heap.size, 2, none⟩ (.slice ra2 (dn).ns rc2)) (w.heap.size + 1) 29 (.slice none 0 0) (.slice none 0 0) (.slice none 0 0)) := XZ.out.ofBlock (ho.block _ XZ.out.lt (by omega))
    have A5 : Hid (Below w.heap.size w (((y1.setCell ⟨w.heap.size, 0, none⟩ (.slice ra0 (dn).nb rc0)).setCell ⟨w.heap.size, 1, none⟩ (.slice ra1 (dn).nc rc1)).setCell ⟨w.heap.size, 2, none⟩ (.slice ra2 (dn).ns rc2))) := A1.out.trans (ho.toBelow (Nat.le_refl _) A1.out.size)
    replace H : PlanR (((y1.setCell ⟨w.heap.size, 0, none⟩ (.slice ra0 (dn).nb rc0)).setCell ⟨w.heap.size, 1, none⟩ (.slice ra1 (dn).nc rc1)).setCell ⟨w.heap.size, 2, none⟩ (.slice ra2 (dn).ns rc2)) b x t := World.rowIs.of_block H (ho.block _ H.lt (by have := HB.out; omega))
    have x0 := BX.out.c0
    have x1 := BX.out.c1
    have x2 := BX.out.c2
    have f0 := BX.out.fr 0
    have f1 := BX.out.fr 1
    have f2 := BX.out.fr 2
    clear ho BX RV XZ A1
    go_simp
    clear x0 x1 x2 f0 f1 f2
    refine hK.out _ _ H (fun _ => ?_)
    clear hK KK
    change wpAnyH _ _ _ _ _ _ _ { tmps := #[_,_,_,_,_,_,_,_,_,_,_,_,_,_,_,_,_,_,_,_,_,_], defers := _ } _
   case' q0 =>
    refine wpAnyH_done (by kernel_rfl) ?_ _
    refine NoPanic.normal ?_
    have PR : Hid (PlanR _ b x t) := H
    clear H
    go_wp2
    have hdn : dn = svK d x t (q + 1) := HDN.out
    clear HDN
    subst hdn
    go_roundw
    case rel => exact ⟨q + 1, ra0, ra1, ra2, rc0, rc1, rc2, by omega, by go_num, BX5.out, RV5.out, RZ.out, PR.out, XZ5.out, A5.out⟩
    case measure => simp [intOf]; omega
  ·have hlt' : ¬ (q : Int) < 3 := by omega
   obtain rfl : q = 3 := by omega
   have O5 : OnlyB (w.heap.size + 1) wr (((wr.setCell ⟨w.heap.size + 1, 0, none⟩ (.slice a0 (svK d x t 3).nb c0)).setCell ⟨w.heap.size + 1, 1, none⟩ (.slice a1 (svK d x t 3).nc c1)).setCell ⟨w.heap.size + 1, 2, none⟩ (.slice a2 (svK d x t 3).ns c2)) := (((OnlyB.refl _ wr).setCell 0 _).setCell 1 _).setCell 2 _
   have X5 : Hid (Box3 (((wr.setCell ⟨w.heap.size + 1, 0, none⟩ (.slice a0 (svK d x t 3).nb c0)).setCell ⟨w.heap.size + 1, 1, none⟩ (.slice a1 (svK d x t 3).nc c1)).setCell ⟨w.heap.size + 1, 2, none⟩ (.slice a2 (svK d x t 3).ns c2)) (w.heap.size + 1) 29 (.slice a0 (svK d x t 3).nb c0) (.slice a1 (svK d x t 3).nc c1) (.slice a2 (svK d x t 3).ns c2)) := ((XZ.out.set0 _).set1 _).set2 _
   have V5 : Hid (DiskV (((wr.setCell ⟨w.heap.size + 1, 0, none⟩ (.slice a0 (svK d x t 3).nb c0)).setCell ⟨w.heap.size + 1, 1, none⟩ (.slice a1 (svK d x t 3).nc c1)).setCell ⟨w.heap.size + 1, 2, none⟩ (.slice a2 (svK d x t 3).ns c2)) (svK d x t 3) a0 a1 a2) := DV.out.stored XZ.out _ _ _
   have B5 : Hid (Below w.heap.size w (((wr.setCell ⟨w.heap.size + 1, 0, none⟩ (.slice a0 (svK d x t 3).nb c0)).setCell ⟨w.heap.size + 1, 1, none⟩ (.slice a1 (svK d x t 3).nc c1)).setCell ⟨w.heap.size + 1, 2, none⟩ (.slice a2 (svK d x t 3).ns c2))) := A1.out.trans (O5.toBelow (by omega) A1.out.size)
   have d0 := BX.out.c0
   have d1 := BX.out.c1
   have d2 := BX.out.c2
   have x0 := XZ.out.c0
   have x1 := XZ.out.c1
   have x2 := XZ.out.c2
   have f0 := XZ.out.fr 0
   have f1 := XZ.out.fr 1
   have f2 := XZ.out.fr 2
   clear O5 XZ A1 BX DV PR
   go_wp2
   generalize (((wr.setCell ⟨w.heap.size + 1, 0, none⟩ (.slice a0 (svK d x t 3).nb c0)).setCell ⟨w.heap.size + 1, 1, none⟩ (.slice a1 (svK d x t 3).nc c1)).setCell ⟨w.heap.size + 1, 2, none⟩ (.slice a2 (svK d x t 3).ns c2)) = u5 at *
   clear d0 d1 d2 x0 x1 x2 f0 f1 f2
   have y0 := X5.out.c0
   have y1 := X5.out.c1
   have y2 := X5.out.c2
   exact ret_cell (b := w.heap.size + 1) (v := .agg #[.slice a0 (svK d x t 3).nb c0, .slice a1 (svK d x t 3).nc c1, .slice a2 (svK d x t 3).ns c2]) Tryz.results15 rfl (by go_simp) ⟨⟨a0, a1, a2, c0, c1, c2, rfl, V5.out, ZC.out.1, ZC.out.2.1, ZC.out.2.2⟩, B5.out⟩
theorem spAns_long {k s : ByteArray} {d : Dk} {n : Nat} {x : Int} {t : ByteArray} {code : Int} (h : SpAns k s d n x t code) (hl : ¬ (k.size ≤ 65536 ∧ s.size ≤ 65536)) : code = 2 := by
 obtain ⟨cf, hf, h⟩ := h
 have hc : cf = 2 := by
  rcases hf with ⟨_, c⟩ | ⟨c1, c2, _⟩ | ⟨c1, c2, _⟩ | ⟨c1, c2, _⟩
  ·exact c
  ·exact absurd ⟨c1, c2⟩ hl
  ·exact absurd ⟨by omega, c2⟩ hl
  ·exact absurd ⟨by omega, c2⟩ hl
 rcases h with ⟨h1, h2, h3⟩ | ⟨h1, h2, h3, h4⟩ | ⟨h1, h2, h3, h4, e, h5, h6, h7⟩ <;> omega
set_option maxRecDepth 100000 in
set_option maxHeartbeats 8000000 in
theorem specSave_any (K s : ByteArray) (d : Dk) (a0 a1 a2 : Option Addr) (c0 c1 c2 : Nat) (D : Dk) (code : Int) (hr : SvAns K s d D code) (hs : d.nb ≤ 1048576 ∧ d.nc ≤ 1048576 ∧ d.ns ≤ 1048576) (z0 : a0 = none → c0 = 0) (z1 : a1 = none → c1 = 0) (z2 : a2 = none → c2 = 0) (w : World) (h : DiskV w d a0 a1 a2) :
  Calls Tryz.prog 5 #[.string K, .agg #[.slice a0 d.nb c0, .slice a1 d.nc c1, .slice a2 d.ns c2], .string s] w fun e w' => RetD w.heap.size w' e D code ∧ Below w.heap.size w w' := by
 obtain ⟨n, x, t, hp, hD⟩ := hr
 have A1 : Hid (Below w.heap.size w ((w.alloc (.cells #[.slice a0 d.nb c0, .slice a1 d.nc c1, .slice a2 d.ns c2] 29)).alloc (.cells #[.slice none 0 0, .slice none 0 0, .slice none 0 0] 29))) := ((Below.refl w.heap.size w).alloc (Nat.le_refl _) _).alloc (by simp) _
 have X0 : Hid (Box3 ((w.alloc (.cells #[.slice a0 d.nb c0, .slice a1 d.nc c1, .slice a2 d.ns c2] 29)).alloc (.cells #[.slice none 0 0, .slice none 0 0, .slice none 0 0] 29)) (w.heap.size + 1) 29 (.slice none 0 0) (.slice none 0 0) (.slice none 0 0)) := Box3.madeAt (by simp) _ _ _ _
 have Y0 : Hid (Box3 ((w.alloc (.cells #[.slice a0 d.nb c0, .slice a1 d.nc c1, .slice a2 d.ns c2] 29)).alloc (.cells #[.slice none 0 0, .slice none 0 0, .slice none 0 0] 29)) w.heap.size 29 (.slice a0 d.nb c0) (.slice a1 d.nc c1) (.slice a2 d.ns c2)) := (Box3.made w _ _ _ _).alloc _
 have G0 : w.heap.size + 2 ≤ ((w.alloc (.cells #[.slice a0 d.nb c0, .slice a1 d.nc c1, .slice a2 d.ns c2] 29)).alloc (.cells #[.slice none 0 0, .slice none 0 0, .slice none 0 0] 29)).heap.size := by simp
 have PL : Hid (∀ u : World, DiskV u d a0 a1 a2 → Calls Tryz.prog 13 #[.string K, .agg #[.slice a0 d.nb c0, .slice a1 d.nc c1, .slice a2 d.ns c2], .string s] u fun e w' => RetP u.heap.size w' e n x t code ∧ Below u.heap.size u w') := fun u h => specPlan_any K s d a0 a1 a2 c0 c1 c2 n x t code hp hs u h
 have HD : Hid (DiskV w d a0 a1 a2) := h
 clear h hs
 by_cases hl : K.size ≤ 65536 ∧ s.size ≤ 65536
 ·have hl1 : ¬ (65536 : Int) < (K.size : Int) := by omega
  have hl2 : ¬ (65536 : Int) < (s.size : Int) := by omega
  clear hl
  rcases hD with ⟨hc, rfl⟩ | ⟨hc, rfl⟩
  ·have e1 : (code != 0) = true := by rw [bne_iff_ne]; exact hc
   clear hp hc z0 z1 z2
   go_enter Tryz.func5, Tryz.ntmps5
   go_wp2_with fail
   generalize ((w.alloc (.cells #[.slice a0 d.nb c0, .slice a1 d.nc c1, .slice a2 d.ns c2] 29)).alloc (.cells #[.slice none 0 0, .slice none 0 0, .slice none 0 0] 29)) = u at *
   refine (PL.out u (HD.out.below A1.out)).mono ?_
   rintro e w1 ⟨⟨a, c, b, rfl, -⟩, hb⟩
   have B1 := A1.out.trans (hb.mono A1.out.size)
   have X1 := X0.out.below hb
   have O2 : OnlyB (w.heap.size + 1) w1 (((w1.setCell ⟨w.heap.size + 1, 0, none⟩ (.slice none 0 0)).setCell ⟨w.heap.size + 1, 1, none⟩ (.slice none 0 0)).setCell ⟨w.heap.size + 1, 2, none⟩ (.slice none 0 0)) := (((OnlyB.refl _ w1).setCell 0 _).setCell 1 _).setCell 2 _
   have X2 : Hid (Box3 (((w1.setCell ⟨w.heap.size + 1, 0, none⟩ (.slice none 0 0)).setCell ⟨w.heap.size + 1, 1, none⟩ (.slice none 0 0)).setCell ⟨w.heap.size + 1, 2, none⟩ (.slice none 0 0)) (w.heap.size + 1) 29 (.slice none 0 0) (.slice none 0 0) (.slice none 0 0)) := ((X1.set0 _).set1 _).set2 _
   have B2 : Hid (Below w.heap.size w (((w1.setCell ⟨w.heap.size + 1, 0, none⟩ (.slice none 0 0)).setCell ⟨w.heap.size + 1, 1, none⟩ (.slice none 0 0)).setCell ⟨w.heap.size + 1, 2, none⟩ (.slice none 0 0))) := B1.trans (O2.toBelow (by omega) B1.size)
   have x0 := X1.c0
   have x1 := X1.c1
   have x2 := X1.c2
   have f0 := X1.fr 0
   have f1 := X1.fr 1
   have f2 := X1.fr 2
   clear hb PL A1 X0 Y0 X1 O2 B1 HD
   go_wp2
   generalize (((w1.setCell ⟨w.heap.size + 1, 0, none⟩ (.slice none 0 0)).setCell ⟨w.heap.size + 1, 1, none⟩ (.slice none 0 0)).setCell ⟨w.heap.size + 1, 2, none⟩ (.slice none 0 0)) = u5 at *
   have y0 := X2.out.c0
   have y1 := X2.out.c1
   have y2 := X2.out.c2
   exact ret_cell2 (b := w.heap.size + 1) (v := .agg #[.slice none 0 0, .slice none 0 0, .slice none 0 0]) Tryz.results5 rfl rfl (by go_simp) ⟨⟨_, _, _, _, _, _, _, _, _, rfl, RowD.empty _ _ _ _, fun h => absurd h (by decide), fun h => absurd h (by decide), fun h => absurd h (by decide)⟩, B2.out⟩
  ·subst hc
   obtain ⟨rfl, ok, nb2, hx0, hx1, ht, -, -⟩ := spAns_zero hp
   have DO : Hid (∀ (b : Nat) (w : World), DiskV w d a0 a1 a2 → PlanR w b x t → Calls Tryz.prog 15 #[.agg #[.slice a0 d.nb c0, .slice a1 d.nc c1, .slice a2 d.ns c2], .slice (some ⟨b, 0, none⟩) 3 3] w fun e w' => RetV w' e (svK d x t 3) ∧ Below w.heap.size w w') := fun b w h hp => l06Do_any d x t ok nb2 ⟨hx0, hx1⟩ ht a0 a1 a2 c0 c1 c2 b z0 z1 z2 w h hp
   have sm := svK_small ok x t 3
   have OW : Hid (∀ (a0 a1 a2 : Option Addr) (c0 c1 c2 : Nat) (w : World), (a0 = none → c0 = 0) → (a1 = none → c1 = 0) → (a2 = none → c2 = 0) → DiskV w (svK d x t 3) a0 a1 a2 → Calls Tryz.prog 14 #[.agg #[.slice a0 (svK d x t 3).nb c0, .slice a1 (svK d x t 3).nc c1, .slice a2 (svK d x t 3).ns c2]] w fun e w' => (∃ v0 v1 v2, e = .returned (.agg #[v0, v1, v2]) ∧ Rows3 w' w.heap.size (svK d x t 3) v0 v1 v2) ∧ Below w.heap.size w w') := fun a0 a1 a2 c0 c1 c2 w h1 h2 h3 h4 => l05Own_any (svK d x t 3) a0 a1 a2 c0 c1 c2 (by omega) (by omega) (by omega) h1 h2 h3 w h4
   clear hp ok nb2 hx0 hx1 ht z0 z1 z2 sm
   generalize svK d x t 3 = dn at *
   go_enter Tryz.func5, Tryz.ntmps5
   go_wp2_with fail
   generalize ((w.alloc (.cells #[.slice a0 d.nb c0, .slice a1 d.nc c1, .slice a2 d.ns c2] 29)).alloc (.cells #[.slice none 0 0, .slice none 0 0, .slice none 0 0] 29)) = u at *
   refine (PL.out u (HD.out.below A1.out)).mono ?_
   rintro e w1 ⟨⟨a, c, b, rfl, hq⟩, hb⟩
   obtain ⟨-, rfl, rfl, hbu, hpr⟩ : 3 = 3 ∧ c = 3 ∧ a = some ⟨b, 0, none⟩ ∧ u.heap.size ≤ b ∧ PlanR w1 b x t := by
    rcases hq with z | z
    ·cases z
    ·exact z
   have PR : Hid (PlanR w1 b x t) := hpr
   have B1 : Hid (Below w.heap.size w w1) := A1.out.trans (hb.mono A1.out.size)
   have X1 : Hid (Box3 w1 (w.heap.size + 1) 29 (.slice none 0 0) (.slice none 0 0) (.slice none 0 0)) := X0.out.below hb
   have Y1 := Y0.out.below hb
   have y0 := Y1.c0
   have y1 := Y1.c1
   have y2 := Y1.c2
   have G1 : w.heap.size + 2 ≤ w1.heap.size := by have := hb.size; omega
   clear hb hq hpr hbu PL A1 X0 Y0 G0 Y1
   go_wp2_with fail
   refine (DO.out b _ (HD.out.below B1.out) PR.out).mono ?_
   rintro e w2 ⟨⟨r0, r1, r2, s0, s1, s2, rfl, hv, n0, n1, n2⟩, hb⟩
   have B2 : Hid (Below w.heap.size w w2) := B1.out.trans (hb.mono B1.out.size)
   have X2 : Hid (Box3 w2 (w.heap.size + 1) 29 (.slice none 0 0) (.slice none 0 0) (.slice none 0 0)) := X1.out.below hb
   have V2 : Hid (DiskV w2 dn r0 r1 r2) := hv
   have ZN : Hid ((r0 = none → s0 = 0) ∧ (r1 = none → s1 = 0) ∧ (r2 = none → s2 = 0)) := ⟨n0, n1, n2⟩
   have G2 : w.heap.size + 2 ≤ w2.heap.size := by have := hb.size; omega
   clear hb hv n0 n1 n2 DO B1 X1 y0 y1 y2 PR HD G1
   go_wp2_with fail
   refine (OW.out _ _ _ _ _ _ _ ZN.out.1 ZN.out.2.1 ZN.out.2.2 V2.out).mono ?_
   rintro e w3 ⟨⟨v0, v1, v2, rfl, hR⟩, hb⟩
   have B3 : Hid (Below w.heap.size w w3) := B2.out.trans (hb.mono B2.out.size)
   have X3 : Box3 w3 (w.heap.size + 1) 29 (.slice none 0 0) (.slice none 0 0) (.slice none 0 0) := X2.out.below hb
   obtain ⟨i0, i1, i2, k0, k1, k2, g0, g1, g2, rfl, rfl, rfl, -⟩ := hR.rowD
   have x0 := X3.c0
   have x1 := X3.c1
   have x2 := X3.c2
   have f0 := X3.fr 0
   have f1 := X3.fr 1
   have f2 := X3.fr 2
   have O5 : OnlyB (w.heap.size + 1) w3 (((w3.setCell ⟨w.heap.size + 1, 0, none⟩ (.slice i0 dn.nb k0)).setCell ⟨w.heap.size + 1, 1, none⟩ (.slice i1 dn.nc k1)).setCell ⟨w.heap.size + 1, 2, none⟩ (.slice i2 dn.ns k2)) := (((OnlyB.refl _ w3).setCell 0 _).setCell 1 _).setCell 2 _
   have X5 : Hid (Box3 (((w3.setCell ⟨w.heap.size + 1, 0, none⟩ (.slice i0 dn.nb k0)).setCell ⟨w.heap.size + 1, 1, none⟩ (.slice i1 dn.nc k1)).setCell ⟨w.heap.size + 1, 2, none⟩ (.slice i2 dn.ns k2)) (w.heap.size + 1) 29 (.slice i0 dn.nb k0) (.slice i1 dn.nc k1) (.slice i2 dn.ns k2)) := ((X3.set0 _).set1 _).set2 _
   have R5 : Hid (Rows3 (((w3.setCell ⟨w.heap.size + 1, 0, none⟩ (.slice i0 dn.nb k0)).setCell ⟨w.heap.size + 1, 1, none⟩ (.slice i1 dn.nc k1)).setCell ⟨w.heap.size + 1, 2, none⟩ (.slice i2 dn.ns k2)) w2.heap.size dn (.slice i0 dn.nb k0) (.slice i1 dn.nc k1) (.slice i2 dn.ns k2)) := ⟨hR.t0.onlyB O5 (fun e => by have := (World.ownsRow.lt hR.t0 _ e).1; omega), hR.t1.onlyB O5 (fun e => by have := (World.ownsRow.lt hR.t1 _ e).1; omega), hR.t2.onlyB O5 (fun e => by have := (World.ownsRow.lt hR.t2 _ e).1; omega), hR.n01, hR.n02, hR.n12⟩
   have B5 : Hid (Below w.heap.size w (((w3.setCell ⟨w.heap.size + 1, 0, none⟩ (.slice i0 dn.nb k0)).setCell ⟨w.heap.size + 1, 1, none⟩ (.slice i1 dn.nc k1)).setCell ⟨w.heap.size + 1, 2, none⟩ (.slice i2 dn.ns k2))) := B3.out.trans (O5.toBelow (by omega) B3.out.size)
   clear hb hR O5 X3 B3 B2 X2 V2 ZN OW
   go_wp2
   generalize (((w3.setCell ⟨w.heap.size + 1, 0, none⟩ (.slice i0 dn.nb k0)).setCell ⟨w.heap.size + 1, 1, none⟩ (.slice i1 dn.nc k1)).setCell ⟨w.heap.size + 1, 2, none⟩ (.slice i2 dn.ns k2)) = u5 at *
   clear x0 x1 x2 f0 f1 f2
   have y0 := X5.out.c0
   have y1 := X5.out.c1
   have y2 := X5.out.c2
   obtain ⟨j0, j1, j2, l0, l1, l2, g0, g1, g2, h0, h1, h2, hr, hg0, hg1, hg2⟩ := R5.out.rowD
   cases h0
   cases h1
   cases h2
   exact ret_cell2 (b := w.heap.size + 1) (v := .agg #[.slice i0 dn.nb k0, .slice i1 dn.nc k1, .slice i2 dn.ns k2]) Tryz.results5 rfl rfl (by go_simp) ⟨⟨_, _, _, _, _, _, _, _, _, rfl, hr, fun h => by have := hg0 h; omega, fun h => by have := hg1 h; omega, fun h => by have := hg2 h; omega⟩, B5.out⟩
 ·have hcd := spAns_long hp hl
  rcases hD with ⟨hc, rfl⟩ | ⟨hc, rfl⟩
  ·subst hcd
   have XE : Hid (Box3 ((w.alloc (.cells #[.slice a0 d.nb c0, .slice a1 d.nc c1, .slice a2 d.ns c2] 29)).alloc (.cells #[.slice none 0 0, .slice none 0 0, .slice none 0 0] 29)) (w.heap.size + 1) 29 (.slice none 0 0) (.slice none 0 0) (.slice none 0 0)) := X0.out
   clear hp hc z0 z1 z2 PL Y0 G0 HD
   go_enter Tryz.func5, Tryz.ntmps5
   by_cases hk : K.size ≤ 65536
   ·have hl1 : ¬ (65536 : Int) < (K.size : Int) := by omega
    have hl2 : (65536 : Int) < (s.size : Int) := by omega
    clear hl hk
    go_wp2
    exact ret_cell2 (b := w.heap.size + 1) (v := .agg #[.slice none 0 0, .slice none 0 0, .slice none 0 0]) Tryz.results5 rfl rfl (by have y0 := XE.out.c0; have y1 := XE.out.c1; have y2 := XE.out.c2; go_simp) ⟨⟨_, _, _, _, _, _, _, _, _, rfl, RowD.empty _ _ _ _, fun h => absurd h (by decide), fun h => absurd h (by decide), fun h => absurd h (by decide)⟩, A1.out⟩
   ·have hl1 : (65536 : Int) < (K.size : Int) := by omega
    clear hl hk
    go_wp2
    exact ret_cell2 (b := w.heap.size + 1) (v := .agg #[.slice none 0 0, .slice none 0 0, .slice none 0 0]) Tryz.results5 rfl rfl (by have y0 := XE.out.c0; have y1 := XE.out.c1; have y2 := XE.out.c2; go_simp) ⟨⟨_, _, _, _, _, _, _, _, _, rfl, RowD.empty _ _ _ _, fun h => absurd h (by decide), fun h => absurd h (by decide), fun h => absurd h (by decide)⟩, A1.out⟩
  ·omega
end Go.Proofs.YtboekhegbachpaaGreatDoor
