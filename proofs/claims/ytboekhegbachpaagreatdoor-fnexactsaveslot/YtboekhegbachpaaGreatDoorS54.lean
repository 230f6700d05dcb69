/-
  Texts of the proof, joined: LawSave.
-/
import Derived.Test.YtboekhegbachpaaGreatDoorS48
import Derived.Test.YtboekhegbachpaaGreatDoorS53
import Derived.Test.YtboekhegbachpaaGreatDoorS39
import Derived.Test.YtboekhegbachpaaGreatDoorTkH
namespace Go.Proofs.YtboekhegbachpaaGreatDoor
open Go.ChangeShapes Go.WideShapes Go.ChangeAt Go.RowKit
set_option linter.unusedVariables false
theorem svAns_small {K s : ByteArray} {d D : Dk} {code : Int} (h : SvAns K s d D code) : D.nb ≤ 1048576 ∧ D.nc ≤ 1048576 ∧ D.ns ≤ 1048576 := by
 obtain ⟨n, x, t, hp, ⟨hc, rfl⟩ | ⟨hc, rfl⟩⟩ := h
 ·exact ⟨by show 0 ≤ 1048576; omega, by show 0 ≤ 1048576; omega, by show 0 ≤ 1048576; omega⟩
 ·subst hc
  exact svK_small (spAns_zero hp).2.1 x t 3
set_option maxRecDepth 100000 in
set_option maxHeartbeats 8000000 in
theorem law_saveSlot (K s : ByteArray) (d : Dk) (a0 a1 a2 : Option Addr) (c0 c1 c2 : Nat) (l0 : d.nb ≤ maxLen) (l1 : d.nc ≤ maxLen) (l2 : d.ns ≤ maxLen) (m0 : ∀ i, i < d.nb → (d.B i).size ≤ maxLen) (m1 : ∀ i, i < d.nc → (d.D i).size ≤ maxLen) (m2 : ∀ i, i < d.ns → (d.S i).size ≤ maxLen) (p0 p1 p2 p3 p4 : Addr) (w : World) (h : DiskV w d a0 a1 a2) (hE : Errs w p0 p1 p2 p3 p4) (ht : Tabs w) :
  Calls Tryz.prog 3 #[.string K, .agg #[.slice a0 d.nb c0, .slice a1 d.nc c1, .slice a2 d.ns c2], .string s] w fun e w' => e = .returned (.bool true) ∧ Below w.heap.size w w' := by
 have SZ1 : Hid (∀ (x : Int) (w : World), 0 ≤ x → x ≤ 1048576 → DiskV w d a0 a1 a2 → Calls Tryz.prog 4 #[.agg #[.slice a0 d.nb c0, .slice a1 d.nc c1, .slice a2 d.ns c2], .int .i64 x] w fun e w' => (∃ y : Int, e = .returned (.int .i64 y) ∧ y ≤ 1048576 ∧ (0 ≤ y → d.nb ≤ 1048576 ∧ d.nc ≤ 1048576 ∧ d.ns ≤ 1048576)) ∧ Below w.heap.size w w') := fun x w hx hx' h => szDisk_x d a0 a1 a2 c0 c1 c2 x hx hx' w h l0 l1 l2 m0 m1 m2
 have HX : Hid (DiskV w d a0 a1 a2) := h
 have HE : Hid (Errs w p0 p1 p2 p3 p4) := hE
 have HT : Hid (Tabs w) := ht
 clear h hE ht l0 l1 l2 m0 m1 m2
 have A1 : Hid (Below w.heap.size w (w.alloc (.cells #[.slice a0 d.nb c0, .slice a1 d.nc c1, .slice a2 d.ns c2] 25))) := (Below.refl w.heap.size w).alloc (Nat.le_refl _) _
 have RA : Hid (Box3 (w.alloc (.cells #[.slice a0 d.nb c0, .slice a1 d.nc c1, .slice a2 d.ns c2] 25)) w.heap.size 25 (.slice a0 d.nb c0) (.slice a1 d.nc c1) (.slice a2 d.ns c2)) := Box3.made w _ _ _ _
 go_enter Tryz.func3, Tryz.ntmps3
 by_cases hkb : 1048576 < K.size
 ·have x1 : (1048576 : Int) < (K.size : Int) := by omega
  go_wp2
  go_ret
  exact ⟨rfl, A1.out⟩
 have x1 : ¬ (1048576 : Int) < (K.size : Int) := by omega
 by_cases hsb : 1048576 < s.size
 ·have x2 : (1048576 : Int) < (s.size : Int) := by omega
  go_wp2
  go_ret
  exact ⟨rfl, A1.out⟩
 have x2 : ¬ (1048576 : Int) < (s.size : Int) := by omega
 clear hkb hsb
 go_wp2_with fail
 generalize (w.alloc (.cells #[.slice a0 d.nb c0, .slice a1 d.nc c1, .slice a2 d.ns c2] 25)) = v0 at *
 refine (SZ1.out _ _ (by omega) (by omega) (HX.out.below A1.out)).mono ?_
 rintro e v1 ⟨⟨y, rfl, hy, hy2⟩, hb⟩
 replace A1 := hid (A1.out.trans (hb.mono A1.out.size))
 replace RA := hid (RA.out.below hb)
 clear hb
 clear SZ1
 by_cases hy0 : y < 0
 ·clear hy2
  go_wp2
  go_ret
  exact ⟨rfl, A1.out⟩
 obtain ⟨h0, h1, h2⟩ := hy2 (by omega)
 clear hy2
 have TD : Hid (∀ w : World, DiskV w d a0 a1 a2 → Calls Tryz.prog 6 #[.agg #[.slice a0 d.nb c0, .slice a1 d.nc c1, .slice a2 d.ns c2]] w fun e w' => (∃ g0 g1 g2, e = .returned (.agg #[.slice (some ⟨g0, 0, none⟩) d.nb d.nb, .slice (some ⟨g1, 0, none⟩) d.nc d.nc, .slice (some ⟨g2, 0, none⟩) d.ns d.ns]) ∧ RowD w' d (some ⟨g0, 0, none⟩) (some ⟨g1, 0, none⟩) (some ⟨g2, 0, none⟩) g0 g1 g2 ∧ GeD d g0 g1 g2 w.heap.size) ∧ Below w.heap.size w w') := fun w h => toDisk_row d a0 a1 a2 c0 c1 c2 w h h0 h1 h2
 obtain ⟨k, code, hr⟩ := svAns_ex K s d
 obtain ⟨k0, k1, k2⟩ := svAns_small hr
 have SO : Hid (∀ (w : World) (x0 x1 x2 : Addr), DiskV w d (some x0) (some x1) (some x2) → Calls Tryz.prog 5 #[.string K, .agg #[.slice (some x0) d.nb d.nb, .slice (some x1) d.nc d.nc, .slice (some x2) d.ns d.ns], .string s] w fun e w' => RetD w.heap.size w' e k code ∧ Below w.heap.size w w') := fun w x0 x1 x2 h => specSave_any K s d _ _ _ _ _ _ k code hr ⟨h0, h1, h2⟩ (fun h => by cases h) (fun h => by cases h) (fun h => by cases h) w h
 have IY : Hid (∀ (w : World) (x0 x1 x2 : Addr), DiskV w d (some x0) (some x1) (some x2) → Errs w p0 p1 p2 p3 p4 → Tabs w → Calls Tryz.prog 7 #[.string K, .agg #[.slice (some x0) d.nb d.nb, .slice (some x1) d.nc d.nc, .slice (some x2) d.ns d.ns], .string s] w fun e w' => RetD w.heap.size w' e k code ∧ Below w.heap.size w w') := fun w x0 x1 x2 h he ht => implSave_any K s d _ _ _ _ _ _ k code hr ⟨h0, h1, h2⟩ (fun h => by cases h) (fun h => by cases h) (fun h => by cases h) p0 p1 p2 p3 p4 w h he ht
 have EQ : Hid (∀ (w : World) (x0 x1 x2 y0 y1 y2 : Option Addr) (r0 r1 r2 s0 s1 s2 : Nat), DiskV w k x0 x1 x2 → DiskV w k y0 y1 y2 → Calls Tryz.prog 8 #[.agg #[.slice x0 k.nb r0, .slice x1 k.nc r1, .slice x2 k.ns r2], .agg #[.slice y0 k.nb s0, .slice y1 k.nc s1, .slice y2 k.ns s2]] w fun e w' => e = .returned (.bool true) ∧ Below w.heap.size w w') := fun w x0 x1 x2 y0 y1 y2 r0 r1 r2 s0 s1 s2 h h' => eqDisk_yes k k x0 x1 x2 y0 y1 y2 _ _ _ _ _ _ w h h' rfl rfl rfl (fun _ _ => rfl) (fun _ _ => ⟨rfl, rfl⟩) (fun _ _ => rfl) k0 k1 k2
 have ED : Hid (∀ (w : World) (x0 x1 x2 y0 y1 y2 : Option Addr) (r0 r1 r2 s0 s1 s2 : Nat), DiskV w d x0 x1 x2 → DiskV w d y0 y1 y2 → Calls Tryz.prog 8 #[.agg #[.slice x0 d.nb r0, .slice x1 d.nc r1, .slice x2 d.ns r2], .agg #[.slice y0 d.nb s0, .slice y1 d.nc s1, .slice y2 d.ns s2]] w fun e w' => e = .returned (.bool true) ∧ Below w.heap.size w w') := fun w x0 x1 x2 y0 y1 y2 r0 r1 r2 s0 s1 s2 h h' => eqDisk_yes d d x0 x1 x2 y0 y1 y2 _ _ _ _ _ _ w h h' rfl rfl rfl (fun _ _ => rfl) (fun _ _ => ⟨rfl, rfl⟩) (fun _ _ => rfl) h0 h1 h2
 obtain ⟨M, hM⟩ : ∃ M, M = 1 + k.nb + 2 * k.nc + k.ns := ⟨_, rfl⟩
 obtain ⟨N, hN⟩ : ∃ M, M = 1 + d.nb + 2 * d.nc + d.ns := ⟨_, rfl⟩
 have MK : Hid (∀ (B : Nat) (w : World) (x0 x1 x2 : Option Addr) (r0 r1 r2 g0 g1 g2 : Nat), GeD k g0 g1 g2 B → B ≤ w.heap.size → RowD w k x0 x1 x2 g0 g1 g2 → Calls Tryz.prog 9 #[.agg #[.slice x0 k.nb r0, .slice x1 k.nc r1, .slice x2 k.ns r2], .int .i64 1] w fun e w' => e = .returned (.int .i64 (M : Int)) ∧ RowD w' (markK k 1) x0 x1 x2 g0 g1 g2 ∧ KeepG w w' k g0 g1 g2 ∧ Below B w w') := fun B w x0 x1 x2 r0 r1 r2 g0 g1 g2 hB hw h => by rw [hM]; exact markDisk_any B k x0 x1 x2 r0 r1 r2 g0 g1 g2 1 (by omega) (by omega) hB w hw h
 have MD : Hid (∀ (B : Nat) (w : World) (x0 x1 x2 : Option Addr) (r0 r1 r2 g0 g1 g2 : Nat), GeD d g0 g1 g2 B → B ≤ w.heap.size → RowD w d x0 x1 x2 g0 g1 g2 → Calls Tryz.prog 9 #[.agg #[.slice x0 d.nb r0, .slice x1 d.nc r1, .slice x2 d.ns r2], .int .i64 1] w fun e w' => e = .returned (.int .i64 (N : Int)) ∧ RowD w' (markK d 1) x0 x1 x2 g0 g1 g2 ∧ KeepG w w' d g0 g1 g2 ∧ Below B w w') := fun B w x0 x1 x2 r0 r1 r2 g0 g1 g2 hB hw h => by rw [hN]; exact markDisk_any B d x0 x1 x2 r0 r1 r2 g0 g1 g2 1 (by omega) (by omega) hB w hw h
 have HK : Hid (∀ (w : World) (x0 x1 x2 : Option Addr) (r0 r1 r2 : Nat), DiskV w (markK k 1) x0 x1 x2 → Calls Tryz.prog 10 #[.agg #[.slice x0 k.nb r0, .slice x1 k.nc r1, .slice x2 k.ns r2], .int .i64 1] w fun e w' => e = .returned (.int .i64 (M : Int)) ∧ Below w.heap.size w w') := fun w x0 x1 x2 r0 r1 r2 h => by rw [hM]; exact heldDisk_yes k x0 x1 x2 r0 r1 r2 1 (by omega) (by omega) w h
 have mm0 : ¬ (M : Int) < 0 := by omega
 have mm1 : ¬ (N : Int) < 0 := by omega
 have er : (code != code) = false := by simp
 have er2 : ((M : Int) != (M : Int)) = false := by simp
 clear hr h0 h1 h2 k0 k1 k2 hM hN hy
 have q0 := RA.out.c0
 have q1 := RA.out.c1
 have q2 := RA.out.c2
 go_wp2_with fail
 clear q0 q1 q2
 clear hy0
 refine (TD.out _ (HX.out.below A1.out)).mono ?_
 rintro e v2 ⟨⟨f0, f1, f2, rfl, rd, -⟩, hb⟩
 have V1 : Hid (RowD v2 d (some ⟨f0, 0, none⟩) (some ⟨f1, 0, none⟩) (some ⟨f2, 0, none⟩) f0 f1 f2) := rd
 clear rd
 replace A1 := hid (A1.out.trans (hb.mono A1.out.size))
 replace RA := hid (RA.out.below hb)
 clear hb
 go_wp2_with fail
 refine (SO.out _ _ _ _ V1.out.diskV).mono ?_
 rintro e v3 ⟨⟨sa0, sa1, sa2, sc0, sc1, sc2, sg0, sg1, sg2, rfl, rd, hi0, hi1, hi2⟩, hb⟩
 have VS : Hid (RowD v3 k sa0 sa1 sa2 sg0 sg1 sg2) := rd
 clear rd hi0 hi1 hi2 V1
 replace A1 := hid (A1.out.trans (hb.mono A1.out.size))
 replace RA := hid (RA.out.below hb)
 clear hb
 have hb : Below v3.heap.size v3 (v3.alloc (.cells #[.slice sa0 k.nb sc0, .slice sa1 k.nc sc1, .slice sa2 k.ns sc2] 29)) := (Below.refl _ _).alloc (Nat.le_refl _) _
 have XS : Hid (Box3 (v3.alloc (.cells #[.slice sa0 k.nb sc0, .slice sa1 k.nc sc1, .slice sa2 k.ns sc2] 29)) v3.heap.size 29 (.slice sa0 k.nb sc0) (.slice sa1 k.nc sc1) (.slice sa2 k.ns sc2)) := Box3.made _ _ _ _ _
 have zRA0 := (RA.out.below hb).c0
 have zRA1 := (RA.out.below hb).c1
 have zRA2 := (RA.out.below hb).c2
 go_wp2_with fail
 clear zRA0 zRA1 zRA2
 generalize (v3.alloc (.cells #[.slice sa0 k.nb sc0, .slice sa1 k.nc sc1, .slice sa2 k.ns sc2] 29)) = v4 at *
 replace A1 := hid (A1.out.trans (hb.mono A1.out.size))
 replace RA := hid (RA.out.below hb)
 replace VS := hid (VS.out.below hb)
 clear hb
 obtain ⟨bs, hbx⟩ : ∃ b, b = v3.heap.size := ⟨_, rfl⟩
 rw [← hbx] at XS ⊢
 clear hbx
 clear SO
 obtain ⟨B1, hB1⟩ : ∃ B, B = v4.heap.size := ⟨_, rfl⟩
 have P1 : Hid (LtD k sg0 sg1 sg2 B1 ∧ bs < B1 ∧ w.heap.size < B1) := by rw [hB1]; exact ⟨VS.out.ltD, XS.out.lt, RA.out.lt⟩
 refine (TD.out _ (HX.out.below A1.out)).mono ?_
 rintro e v5 ⟨⟨x0, x1, x2, rfl, rd, gd⟩, hb⟩
 obtain ⟨B2, hB2⟩ : ∃ B, B = v5.heap.size := ⟨_, rfl⟩
 have P2 : Hid (GeD d x0 x1 x2 B1 ∧ LtD d x0 x1 x2 B2 ∧ B1 ≤ B2) := by rw [hB1, hB2]; exact ⟨gd, rd.ltD, hb.size⟩
 have VX : Hid (RowD v5 d (some ⟨x0, 0, none⟩) (some ⟨x1, 0, none⟩) (some ⟨x2, 0, none⟩) x0 x1 x2) := rd
 have S2 : Hid (B2 ≤ v5.heap.size) := Nat.le_of_eq hB2
 clear rd gd hB1 hB2
 replace A1 := hid (A1.out.trans (hb.mono A1.out.size))
 replace RA := hid (RA.out.below hb)
 replace VS := hid (VS.out.below hb)
 replace XS := hid (XS.out.below hb)
 clear hb
 have hb : Below v5.heap.size v5 (v5.alloc (.cells #[.slice (some ⟨x0, 0, none⟩) d.nb d.nb, .slice (some ⟨x1, 0, none⟩) d.nc d.nc, .slice (some ⟨x2, 0, none⟩) d.ns d.ns] 29)) := (Below.refl _ _).alloc (Nat.le_refl _) _
 have X0 : Hid (Box3 (v5.alloc (.cells #[.slice (some ⟨x0, 0, none⟩) d.nb d.nb, .slice (some ⟨x1, 0, none⟩) d.nc d.nc, .slice (some ⟨x2, 0, none⟩) d.ns d.ns] 29)) v5.heap.size 29 (.slice (some ⟨x0, 0, none⟩) d.nb d.nb) (.slice (some ⟨x1, 0, none⟩) d.nc d.nc) (.slice (some ⟨x2, 0, none⟩) d.ns d.ns)) := Box3.made _ _ _ _ _
 replace S2 : Hid (B2 ≤ v5.heap.size) := S2.out
 have zX00 := X0.out.c0
 have zX01 := X0.out.c1
 have zX02 := X0.out.c2
 go_wp2_with fail
 clear zX00 zX01 zX02
 generalize (v5.alloc (.cells #[.slice (some ⟨x0, 0, none⟩) d.nb d.nb, .slice (some ⟨x1, 0, none⟩) d.nc d.nc, .slice (some ⟨x2, 0, none⟩) d.ns d.ns] 29)) = v6 at *
 replace A1 := hid (A1.out.trans (hb.mono A1.out.size))
 replace RA := hid (RA.out.below hb)
 replace VS := hid (VS.out.below hb)
 replace XS := hid (XS.out.below hb)
 replace VX := hid (VX.out.below hb)
 clear hb
 obtain ⟨bx, hbx⟩ : ∃ b, b = v5.heap.size := ⟨_, rfl⟩
 rw [← hbx] at X0 S2 ⊢
 clear hbx
 obtain ⟨Bi, hBi⟩ : ∃ B, B = v6.heap.size := ⟨_, rfl⟩
 have P5 : Hid (bx < Bi ∧ B2 ≤ bx) := by rw [hBi]; exact ⟨X0.out.lt, S2.out⟩
 refine (IY.out _ _ _ _ VX.out.diskV (HE.out.below A1.out) (HT.out.below A1.out)).mono ?_
 rintro e v7 ⟨⟨ia0, ia1, ia2, ic0, ic1, ic2, ig0, ig1, ig2, rfl, rd, hi0, hi1, hi2⟩, hb⟩
 have P6 : Hid (GeD k ig0 ig1 ig2 Bi) := by rw [hBi]; exact ⟨hi0, hi1, hi2⟩
 have P9 : Hid (Bi ≤ v7.heap.size) := by rw [hBi]; exact hb.size
 have VI : Hid (RowD v7 k ia0 ia1 ia2 ig0 ig1 ig2) := rd
 clear rd hi0 hi1 hi2 hBi
 replace A1 := hid (A1.out.trans (hb.mono A1.out.size))
 replace RA := hid (RA.out.below hb)
 replace VS := hid (VS.out.below hb)
 replace XS := hid (XS.out.below hb)
 replace VX := hid (VX.out.below hb)
 replace X0 := hid (X0.out.below hb)
 clear hb
 have P7 : Hid (LtD k ig0 ig1 ig2 v7.heap.size) := VI.out.ltD
 have P8 : Hid (Bi ≤ v7.heap.size) := P9.out
 have hb : Below v7.heap.size v7 (v7.alloc (.cells #[.slice ia0 k.nb ic0, .slice ia1 k.nc ic1, .slice ia2 k.ns ic2] 29)) := (Below.refl _ _).alloc (Nat.le_refl _) _
 have XI : Hid (Box3 (v7.alloc (.cells #[.slice ia0 k.nb ic0, .slice ia1 k.nc ic1, .slice ia2 k.ns ic2] 29)) v7.heap.size 29 (.slice ia0 k.nb ic0) (.slice ia1 k.nc ic1) (.slice ia2 k.ns ic2)) := Box3.made _ _ _ _ _
 have zXI0 := XI.out.c0
 have zXI1 := XI.out.c1
 have zXI2 := XI.out.c2
 have zXS0 := (XS.out.below hb).c0
 have zXS1 := (XS.out.below hb).c1
 have zXS2 := (XS.out.below hb).c2
 go_wp2_with fail
 clear zXI0 zXI1 zXI2 zXS0 zXS1 zXS2
 generalize (v7.alloc (.cells #[.slice ia0 k.nb ic0, .slice ia1 k.nc ic1, .slice ia2 k.ns ic2] 29)) = v8 at *
 replace A1 := hid (A1.out.trans (hb.mono A1.out.size))
 replace RA := hid (RA.out.below hb)
 replace VS := hid (VS.out.below hb)
 replace XS := hid (XS.out.below hb)
 replace VX := hid (VX.out.below hb)
 replace X0 := hid (X0.out.below hb)
 replace VI := hid (VI.out.below hb)
 clear hb
 obtain ⟨bi, hbx⟩ : ∃ b, b = v7.heap.size := ⟨_, rfl⟩
 rw [← hbx] at XI P7 P8 ⊢
 clear hbx
 refine (EQ.out _ _ _ _ _ _ _ _ _ _ _ _ _ VI.out.diskV VS.out.diskV).mono ?_
 rintro e v9 ⟨rfl, hb⟩
 replace A1 := hid (A1.out.trans (hb.mono A1.out.size))
 replace RA := hid (RA.out.below hb)
 replace VS := hid (VS.out.below hb)
 replace XS := hid (XS.out.below hb)
 replace VX := hid (VX.out.below hb)
 replace X0 := hid (X0.out.below hb)
 replace VI := hid (VI.out.below hb)
 replace XI := hid (XI.out.below hb)
 clear hb
 have s0 := X0.out.c0
 have s1 := X0.out.c1
 have s2 := X0.out.c2
 have j0 := RA.out.c0
 have j1 := RA.out.c1
 have j2 := RA.out.c2
 go_wp2_with fail
 clear s0 s1 s2
 clear j0 j1 j2
 have hb : Below v9.heap.size v9 v9.drew := (Below.refl _ _).drew
 have H : (Box3 v9.drew bx 29 (.slice (some ⟨x0, 0, none⟩) d.nb d.nb) (.slice (some ⟨x1, 0, none⟩) d.nc d.nc) (.slice (some ⟨x2, 0, none⟩) d.ns d.ns)) ∧ (Box3 v9.drew w.heap.size 25 (.slice a0 d.nb c0) (.slice a1 d.nc c1) (.slice a2 d.ns c2)) := ⟨X0.out.below hb, RA.out.below hb⟩
 replace A1 := hid (A1.out.trans (hb.mono A1.out.size))
 replace VS := hid (VS.out.below hb)
 replace XS := hid (XS.out.below hb)
 replace VX := hid (VX.out.below hb)
 replace VI := hid (VI.out.below hb)
 replace XI := hid (XI.out.below hb)
 clear hb X0 RA
 refine wp_region_noPanic ?_
 refine wp_region_held_drew (S := fun w' => (Box3 w' bx 29 (.slice (some ⟨x0, 0, none⟩) d.nb d.nb) (.slice (some ⟨x1, 0, none⟩) d.nc d.nc) (.slice (some ⟨x2, 0, none⟩) d.ns d.ns)) ∧ (Box3 w' w.heap.size 25 (.slice a0 d.nb c0) (.slice a1 d.nc c1) (.slice a2 d.ns c2))) (by kernel_rfl) H (fun _ => ?_)
 generalize v9.drew = y0 at *
 refine tkH (i := 0) (v := .agg #[.slice (some ⟨x0, 0, none⟩) d.nb d.nb, .slice (some ⟨x1, 0, none⟩) d.nc d.nc, .slice (some ⟨x2, 0, none⟩) d.ns d.ns]) rfl (by kernel_rfl) (by rfl) ?_ H ?_
 ·intro w' hSw; have t0 := hSw.1.c0; have t1 := hSw.1.c1; have t2 := hSw.1.c2; clear hSw; go_simp
 change wpAnyH _ _ _ _ _ _ _ { tmps := #[_,_,_,_,_,_,_,_,_,_,_,_,_,_,_,_,_,_,_,_,_,_,_,_,_,_,_,_,_,_,_,_,_,_,_,_,_,_,_,_,_,_,_,_,_,_,_,_,_,_,_,_,_,_,_,_,_,_,_,_,_,_,_,_,_,_,_,_,_,_,_,_,_,_,_,_,_,_,_,_,_,_,_,_,_,_,_,_,_,_,_,_,_,_,_,_,_,_,_,_,_,_,_,_,_,_,_,_,_,_,_,_], defers := _ } _
 refine tkH (i := 1) (v := .agg #[.slice a0 d.nb c0, .slice a1 d.nc c1, .slice a2 d.ns c2]) rfl (by kernel_rfl) (by rfl) ?_ H ?_
 ·intro w' hSw; have t0 := hSw.2.c0; have t1 := hSw.2.c1; have t2 := hSw.2.c2; clear hSw; go_simp
 change wpAnyH _ _ _ _ _ _ _ { tmps := #[_,_,_,_,_,_,_,_,_,_,_,_,_,_,_,_,_,_,_,_,_,_,_,_,_,_,_,_,_,_,_,_,_,_,_,_,_,_,_,_,_,_,_,_,_,_,_,_,_,_,_,_,_,_,_,_,_,_,_,_,_,_,_,_,_,_,_,_,_,_,_,_,_,_,_,_,_,_,_,_,_,_,_,_,_,_,_,_,_,_,_,_,_,_,_,_,_,_,_,_,_,_,_,_,_,_,_,_,_,_,_,_], defers := _ } _
 refine rdH (i := 2) (by kernel_rfl) rfl (fun KK hK => ?_)
 go_simp
 refine (TD.out _ (HX.out.below A1.out)).mono ?_
 rintro e y1 ⟨⟨m0, m1, m2, rfl, rd, -⟩, hb⟩
 replace A1 := hid (A1.out.trans (hb.mono A1.out.size))
 replace VS := hid (VS.out.below hb)
 replace XS := hid (XS.out.below hb)
 replace VX := hid (VX.out.below hb)
 replace VI := hid (VI.out.below hb)
 replace XI := hid (XI.out.below hb)
 replace H := And.intro (H.1.below hb) (H.2.below hb)
 have V3 : Hid (RowD y1 d (some ⟨m0, 0, none⟩) (some ⟨m1, 0, none⟩) (some ⟨m2, 0, none⟩) m0 m1 m2) := rd
 clear hb rd
 refine hK.out _ _ H (fun _ => ?_)
 clear hK KK
 change wpAnyH _ _ _ _ _ _ _ { tmps := #[_,_,_,_,_,_,_,_,_,_,_,_,_,_,_,_,_,_,_,_,_,_,_,_,_,_,_,_,_,_,_,_,_,_,_,_,_,_,_,_,_,_,_,_,_,_,_,_,_,_,_,_,_,_,_,_,_,_,_,_,_,_,_,_,_,_,_,_,_,_,_,_,_,_,_,_,_,_,_,_,_,_,_,_,_,_,_,_,_,_,_,_,_,_,_,_,_,_,_,_,_,_,_,_,_,_,_,_,_,_,_,_], defers := _ } _
 apply tg40
 rotate_left
 exact trivial
 case' q40 =>
  refine rdH (i := 3) (by kernel_rfl) rfl (fun KK hK => ?_)
  go_simp
  refine (ED.out _ _ _ _ _ _ _ _ _ _ _ _ _ VX.out.diskV V3.out.diskV).mono ?_
  rintro e y2 ⟨rfl, hb⟩
  replace A1 := hid (A1.out.trans (hb.mono A1.out.size))
  replace VS := hid (VS.out.below hb)
  replace XS := hid (XS.out.below hb)
  replace VX := hid (VX.out.below hb)
  replace VI := hid (VI.out.below hb)
  replace XI := hid (XI.out.below hb)
  replace H := And.intro (H.1.below hb) (H.2.below hb)
  clear hb V3
  refine hK.out _ _ H (fun _ => ?_)
  clear hK KK
  change wpAnyH _ _ _ _ _ _ _ { tmps := #[_,_,_,_,_,_,_,_,_,_,_,_,_,_,_,_,_,_,_,_,_,_,_,_,_,_,_,_,_,_,_,_,_,_,_,_,_,_,_,_,_,_,_,_,_,_,_,_,_,_,_,_,_,_,_,_,_,_,_,_,_,_,_,_,_,_,_,_,_,_,_,_,_,_,_,_,_,_,_,_,_,_,_,_,_,_,_,_,_,_,_,_,_,_,_,_,_,_,_,_,_,_,_,_,_,_,_,_,_,_,_,_], defers := _ } _
  refine tkH (i := 4) (v := .bool false) rfl (by kernel_rfl) (by rfl) ?_ H ?_
  ·intro w' hSw; go_simp
  change wpAnyH _ _ _ _ _ _ _ { tmps := #[_,_,_,_,_,_,_,_,_,_,_,_,_,_,_,_,_,_,_,_,_,_,_,_,_,_,_,_,_,_,_,_,_,_,_,_,_,_,_,_,_,_,_,_,_,_,_,_,_,_,_,_,_,_,_,_,_,_,_,_,_,_,_,_,_,_,_,_,_,_,_,_,_,_,_,_,_,_,_,_,_,_,_,_,_,_,_,_,_,_,_,_,_,_,_,_,_,_,_,_,_,_,_,_,_,_,_,_,_,_,_,_], defers := _ } _
 case' q40 =>
  refine wpAnyH_done (by kernel_rfl) ?_ _
  refine NoPanic.normal ?_
  have X0 : Hid (Box3 y2 bx 29 (.slice (some ⟨x0, 0, none⟩) d.nb d.nb) (.slice (some ⟨x1, 0, none⟩) d.nc d.nc) (.slice (some ⟨x2, 0, none⟩) d.ns d.ns)) := H.1
  have RA : Hid (Box3 y2 w.heap.size 25 (.slice a0 d.nb c0) (.slice a1 d.nc c1) (.slice a2 d.ns c2)) := H.2
  clear H
  change Exit.then _ _ Exit.normal { tmps := #[_, _, _, _, _, _, _, _, _, _, _, _, _, _, _, _, _, _, _, _, _, _, _, _, _, _, _, _, _, _, _, _, _, _, _, _, _, _, _, _, _, _, _, _, _, _, _, _, _, _, _, _, _, _, _, _, _, _, _, _, _, _, _, _, _, _, _, _, _, _, _, _, _, _, _, _, _, _, _, _, _, _, _, _, _, _, _, _, _, _, _, _, _, _, _, _, _, _, _, _, _, _, _, _, _, _, _, _, _, _, _, _], defers := _ } _
  have PP : Hid (bs < B1 ∧ w.heap.size < B1 ∧ B1 ≤ B2 ∧ B2 ≤ bx ∧ bx < Bi ∧ Bi ≤ bi) := ⟨P1.out.2.1, P1.out.2.2, P2.out.2.2, P5.out.2, P5.out.1, P8.out⟩
  have S3 : Hid (B1 ≤ y2.heap.size) := by show B1 ≤ _; have := VX.out.ltD; have := X0.out.lt; have pp := PP.out; omega
  have s0 := X0.out.c0
  have s1 := X0.out.c1
  have s2 := X0.out.c2
  go_wp2_with fail
  clear s0 s1 s2
  refine (MD.out B1 _ _ _ _ _ _ _ _ _ _ P2.out.1 S3.out VX.out).mono ?_
  rintro e v61 ⟨rfl, -, hk0, hb⟩
  have hk : KeepR B1 B2 y2 v61 := hk0.keepR P2.out.1 P2.out.2.1
  replace A1 := hid (A1.out.trans (hb.mono (by have pp := PP.out; omega)))
  replace VS := hid (VS.out.keepR hk (.inl P1.out.1))
  replace XS := hid (XS.out.keepR hk (.inl (by have pp := PP.out; omega)))
  replace RA := hid (RA.out.keepR hk (.inl (by have pp := PP.out; omega)))
  replace VI := hid (VI.out.keepR hk (.inr (P6.out.mono (by have pp := PP.out; omega))))
  replace XI := hid (XI.out.keepR hk (.inr (by have pp := PP.out; omega)))
  clear hk hk0 hb VX X0 S2 S3 MD P2 P5 P9
  have j0 := XI.out.c0
  have j1 := XI.out.c1
  have j2 := XI.out.c2
  have s0 := XS.out.c0
  have s1 := XS.out.c1
  have s2 := XS.out.c2
  go_wp2_with fail
  clear j0 j1 j2
  clear s0 s1 s2
  refine (EQ.out _ _ _ _ _ _ _ _ _ _ _ _ _ VI.out.diskV VS.out.diskV).mono ?_
  rintro e v62 ⟨rfl, hb⟩
  replace A1 := hid (A1.out.trans (hb.mono A1.out.size))
  replace RA := hid (RA.out.below hb)
  replace VS := hid (VS.out.below hb)
  replace XS := hid (XS.out.below hb)
  replace VI := hid (VI.out.below hb)
  replace XI := hid (XI.out.below hb)
  clear hb
  have j0 := XI.out.c0
  have j1 := XI.out.c1
  have j2 := XI.out.c2
  go_wp2_with fail
  clear j0 j1 j2
  refine (MK.out w.heap.size _ _ _ _ _ _ _ _ _ _ (P6.out.mono (by have pp := PP.out; omega)) A1.out.size VI.out).mono ?_
  rintro e v63 ⟨rfl, rd, hk0, hb⟩
  have hk : KeepR Bi bi v62 v63 := hk0.keepR P6.out P7.out
  replace A1 := hid (A1.out.trans hb)
  replace VS := hid (VS.out.keepR hk (.inl (P1.out.1.mono (by have pp := PP.out; omega))))
  replace XS := hid (XS.out.keepR hk (.inl (by have pp := PP.out; omega)))
  replace RA := hid (RA.out.keepR hk (.inl (by have pp := PP.out; omega)))
  replace XI := hid (XI.out.keepR hk (.inr (Nat.le_refl _)))
  replace VI := hid rd
  clear hk hk0 hb rd MK P1 PP P6 P7 P8
  have j0 := XI.out.c0
  have j1 := XI.out.c1
  have j2 := XI.out.c2
  go_wp2_with fail
  clear j0 j1 j2
  refine (HK.out _ _ _ _ _ _ _ VI.out.diskV).mono ?_
  rintro e v64 ⟨rfl, hb⟩
  replace A1 := hid (A1.out.trans (hb.mono A1.out.size))
  replace RA := hid (RA.out.below hb)
  replace VS := hid (VS.out.below hb)
  replace XS := hid (XS.out.below hb)
  replace VI := hid (VI.out.below hb)
  replace XI := hid (XI.out.below hb)
  clear hb
  have q0 := RA.out.c0
  have q1 := RA.out.c1
  have q2 := RA.out.c2
  go_wp2_with fail
  clear q0 q1 q2
  refine (TD.out _ (HX.out.below A1.out)).mono ?_
  rintro e v65 ⟨⟨f0, f1, f2, rfl, rd, -⟩, hb⟩
  have V1 : Hid (RowD v65 d (some ⟨f0, 0, none⟩) (some ⟨f1, 0, none⟩) (some ⟨f2, 0, none⟩) f0 f1 f2) := rd
  clear rd
  replace A1 := hid (A1.out.trans (hb.mono A1.out.size))
  replace RA := hid (RA.out.below hb)
  replace VS := hid (VS.out.below hb)
  replace XS := hid (XS.out.below hb)
  replace VI := hid (VI.out.below hb)
  replace XI := hid (XI.out.below hb)
  clear hb
  go_wp2_with fail
  refine (IY.out _ _ _ _ V1.out.diskV (HE.out.below A1.out) (HT.out.below A1.out)).mono ?_
  rintro e v66 ⟨⟨ha0, ha1, ha2, hc0, hc1, hc2, hg0, hg1, hg2, rfl, rd, hi0, hi1, hi2⟩, hb⟩
  have VH : Hid (RowD v66 k ha0 ha1 ha2 hg0 hg1 hg2) := rd
  clear rd hi0 hi1 hi2 V1
  replace A1 := hid (A1.out.trans (hb.mono A1.out.size))
  replace RA := hid (RA.out.below hb)
  replace VS := hid (VS.out.below hb)
  replace XS := hid (XS.out.below hb)
  replace VI := hid (VI.out.below hb)
  replace XI := hid (XI.out.below hb)
  clear hb
  clear IY TD HX HE HT RA
  have hb : Below v66.heap.size v66 (v66.alloc (.cells #[.slice ha0 k.nb hc0, .slice ha1 k.nc hc1, .slice ha2 k.ns hc2] 29)) := (Below.refl _ _).alloc (Nat.le_refl _) _
  have XH : Hid (Box3 (v66.alloc (.cells #[.slice ha0 k.nb hc0, .slice ha1 k.nc hc1, .slice ha2 k.ns hc2] 29)) v66.heap.size 29 (.slice ha0 k.nb hc0) (.slice ha1 k.nc hc1) (.slice ha2 k.ns hc2)) := Box3.made _ _ _ _ _
  have zXH0 := XH.out.c0
  have zXH1 := XH.out.c1
  have zXH2 := XH.out.c2
  have zXS0 := (XS.out.below hb).c0
  have zXS1 := (XS.out.below hb).c1
  have zXS2 := (XS.out.below hb).c2
  go_wp2_with fail
  clear zXH0 zXH1 zXH2 zXS0 zXS1 zXS2
  generalize (v66.alloc (.cells #[.slice ha0 k.nb hc0, .slice ha1 k.nc hc1, .slice ha2 k.ns hc2] 29)) = v67 at *
  replace A1 := hid (A1.out.trans (hb.mono A1.out.size))
  replace VS := hid (VS.out.below hb)
  replace XS := hid (XS.out.below hb)
  replace VI := hid (VI.out.below hb)
  replace XI := hid (XI.out.below hb)
  replace VH := hid (VH.out.below hb)
  clear hb
  obtain ⟨bh, hbx⟩ : ∃ b, b = v66.heap.size := ⟨_, rfl⟩
  rw [← hbx] at XH ⊢
  clear hbx
  refine (EQ.out _ _ _ _ _ _ _ _ _ _ _ _ _ VH.out.diskV VS.out.diskV).mono ?_
  rintro e v68 ⟨rfl, hb⟩
  replace A1 := hid (A1.out.trans (hb.mono A1.out.size))
  replace VS := hid (VS.out.below hb)
  replace XS := hid (XS.out.below hb)
  replace VI := hid (VI.out.below hb)
  replace XI := hid (XI.out.below hb)
  replace VH := hid (VH.out.below hb)
  replace XH := hid (XH.out.below hb)
  clear hb
  have j0 := XI.out.c0
  have j1 := XI.out.c1
  have j2 := XI.out.c2
  go_wp2_with fail
  clear j0 j1 j2
  refine (HK.out _ _ _ _ _ _ _ VI.out.diskV).mono ?_
  rintro e v69 ⟨rfl, hb⟩
  replace A1 := hid (A1.out.trans (hb.mono A1.out.size))
  replace VS := hid (VS.out.below hb)
  replace XS := hid (XS.out.below hb)
  replace VI := hid (VI.out.below hb)
  replace XI := hid (XI.out.below hb)
  replace VH := hid (VH.out.below hb)
  replace XH := hid (XH.out.below hb)
  clear hb
  clear HK EQ ED
  go_wp2
  go_ret
  exact ⟨rfl, A1.out⟩
end Go.Proofs.YtboekhegbachpaaGreatDoor
