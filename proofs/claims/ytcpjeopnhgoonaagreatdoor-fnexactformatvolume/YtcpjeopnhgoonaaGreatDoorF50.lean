/-
  Texts of the proof, joined.
-/
import Derived.Test.YtcpjeopnhgoonaaGreatDoorF48
import Derived.Test.YtcpjeopnhgoonaaGreatDoorF49
namespace Go.Proofs.YtcpjeopnhgoonaaGreatDoor
open Go.ChangeShapes Go.WideShapes Go.ChangeAt Go.RowKit
set_option linter.unusedVariables false
set_option maxRecDepth 100000 in
set_option maxHeartbeats 8000000 in
theorem law_formatVolume (k:ByteArray) (x:Int) (p0 p1 p2 p3 p4:Addr) (w:World) (hE:Errs w p0 p1 p2 p3 p4) (hT:Tabs w) :
  Calls Tryz.prog 3 #[.string k,.int .i64 x] w fun e w' => e = .returned (.bool true)∧Below w.heap.size w w':=by
 obtain ⟨d,code,hd⟩:=fvA_ex k x
 obtain ⟨hnb,hnc,hns⟩:=hd.small
 have SO:Hid (∀ w:World,Calls Tryz.prog 4 #[.string k,.int .i64 x] w fun e w' => RetD w.heap.size w' e d code∧Below w.heap.size w w'):=fun w => specFv_any k x d code hd w
 have IY:Hid (∀ v:World,Below w.heap.size w v→Calls Tryz.prog 5 #[.string k,.int .i64 x] v fun e w' => RetD v.heap.size w' e d code∧Below v.heap.size v w'):=fun v hb => implFv_any k x d code hd p0 p1 p2 p3 p4 v (hE.below hb) (hT.below hb)
 have EQ:Hid (∀ (w:World) (x0 x1 x2 y0 y1 y2:Option Addr) (r0 r1 r2 s0 s1 s2:Nat),DiskV w d x0 x1 x2→DiskV w d y0 y1 y2→Calls Tryz.prog 6 #[.agg #[.slice x0 d.nb r0,.slice x1 d.nc r1,.slice x2 d.ns r2],.agg #[.slice y0 d.nb s0,.slice y1 d.nc s1,.slice y2 d.ns s2]] w fun e w' => e = .returned (.bool true)∧Below w.heap.size w w'):=fun w x0 x1 x2 y0 y1 y2 r0 r1 r2 s0 s1 s2 h h' => eqDisk_yes d d x0 x1 x2 y0 y1 y2 _ _ _ _ _ _ w h h' rfl rfl rfl (fun _ _ => rfl) (fun _ _ => ⟨rfl,rfl⟩) (fun _ _ => rfl) (by omega) (by omega) (by omega)
 obtain ⟨M,hM⟩:∃ M,M = 1 + d.nb + 2 * d.nc + d.ns:=⟨_,rfl⟩
 have MK:Hid (∀ (B:Nat) (w:World) (x0 x1 x2:Option Addr) (r0 r1 r2 g0 g1 g2:Nat),(0 < d.nb→B≤g0)∧(0 < d.nc→B≤g1)∧(0 < d.ns→B≤g2)→B≤w.heap.size→RowD w d x0 x1 x2 g0 g1 g2→Calls Tryz.prog 7 #[.agg #[.slice x0 d.nb r0,.slice x1 d.nc r1,.slice x2 d.ns r2],.int .i64 1] w fun e w' => e = .returned (.int .i64 (M:Int))∧RowD w' (markK d 1) x0 x1 x2 g0 g1 g2∧KeepG w w' d g0 g1 g2∧Below B w w'):=fun B w x0 x1 x2 r0 r1 r2 g0 g1 g2 hB hw h => by rw [hM]; exact markDisk_any B d x0 x1 x2 r0 r1 r2 g0 g1 g2 1 (by omega) (by omega) hB w hw h
 have HK:Hid (∀ (w:World) (x0 x1 x2:Option Addr) (r0 r1 r2:Nat),DiskV w (markK d 1) x0 x1 x2→Calls Tryz.prog 8 #[.agg #[.slice x0 d.nb r0,.slice x1 d.nc r1,.slice x2 d.ns r2],.int .i64 1] w fun e w' => e = .returned (.int .i64 (M:Int))∧Below w.heap.size w w'):=fun w x0 x1 x2 r0 r1 r2 h => by rw [hM]; exact heldDisk_yes d x0 x1 x2 r0 r1 r2 1 (by omega) (by omega) w h
 have m0:¬ (M:Int) < 0:=by omega
 have er:(code != code) = false:=by simp
 have er2:((M:Int) != (M:Int)) = false:=by simp
 clear hd hnb hnc hns hM hE hT
 have A1:Hid (Below w.heap.size w w):=Below.refl _ _
 by_cases hk:1048576 < k.size
 ·have k0:(1048576:Int) < (k.size:Int):=by omega
  go_enter Tryz.func3,Tryz.ntmps3
  go_wp2
  go_ret
  exact ⟨rfl,A1.out⟩
 have k0:¬ (1048576:Int) < (k.size:Int):=by omega
 clear hk
 go_enter Tryz.func3,Tryz.ntmps3
 go_wp2_with fail
 refine (SO.out _).mono ?_
 rintro e v1 ⟨⟨sa0,sa1,sa2,sc0,sc1,sc2,sg0,sg1,sg2,rfl,rd,-,-,-⟩,hb⟩
 replace A1:Hid (Below w.heap.size w v1):=A1.out.trans (hb.mono A1.out.size)
 have VS:Hid (RowD v1 d sa0 sa1 sa2 sg0 sg1 sg2):=rd
 clear hb rd SO
 have hb:Below v1.heap.size v1 (v1.alloc (.cells #[.slice sa0 d.nb sc0,.slice sa1 d.nc sc1,.slice sa2 d.ns sc2] 25)):=(Below.refl _ _).alloc (Nat.le_refl _) _
 have XS:Hid (Box3 (v1.alloc (.cells #[.slice sa0 d.nb sc0,.slice sa1 d.nc sc1,.slice sa2 d.ns sc2] 25)) v1.heap.size 25 (.slice sa0 d.nb sc0) (.slice sa1 d.nc sc1) (.slice sa2 d.ns sc2)):=Box3.made _ _ _ _ _
 go_wp2_with fail
 generalize (v1.alloc (.cells #[.slice sa0 d.nb sc0,.slice sa1 d.nc sc1,.slice sa2 d.ns sc2] 25)) = v2 at *
 replace A1:Hid (Below w.heap.size w v2):=A1.out.trans (hb.mono A1.out.size)
 replace VS:Hid (RowD v2 d sa0 sa1 sa2 sg0 sg1 sg2):=VS.out.below hb
 clear hb 
 obtain ⟨bs,hbs⟩:∃ bx,bx = v1.heap.size:=⟨_,rfl⟩
 rw [← hbs] at XS ⊢
 clear hbs
 have hBw:=A1.out.size
 have LS:LtD d sg0 sg1 sg2 v2.heap.size:=VS.out.ltD
 have lbs:bs < v2.heap.size:=XS.out.lt
 refine (IY.out _ A1.out).mono ?_
 rintro e v3 ⟨⟨ia0,ia1,ia2,ic0,ic1,ic2,ig0,ig1,ig2,rfl,rd,hi0,hi1,hi2⟩,hb⟩
 replace A1:Hid (Below w.heap.size w v3):=A1.out.trans (hb.mono A1.out.size)
 replace VS:Hid (RowD v3 d sa0 sa1 sa2 sg0 sg1 sg2):=VS.out.below hb
 replace XS:Hid (Box3 v3 bs 25 (.slice sa0 d.nb sc0) (.slice sa1 d.nc sc1) (.slice sa2 d.ns sc2)):=XS.out.below hb
 have VI:Hid (RowD v3 d ia0 ia1 ia2 ig0 ig1 ig2):=rd
 clear hb rd
 have GI:GeD d ig0 ig1 ig2 v2.heap.size:=⟨hi0,hi1,hi2⟩
 clear hi0 hi1 hi2
 obtain ⟨B,hB⟩:∃ B,B = v2.heap.size:=⟨_,rfl⟩
 rw [← hB] at GI LS lbs hBw
 clear hB
 have LI:LtD d ig0 ig1 ig2 v3.heap.size:=VI.out.ltD
 have PK:Hid (LtD d sg0 sg1 sg2 B∧GeD d ig0 ig1 ig2 B∧bs < B∧w.heap.size≤B):=⟨LS,GI,lbs,hBw⟩
 clear LS GI lbs hBw
 have hb:Below v3.heap.size v3 (v3.alloc (.cells #[.slice ia0 d.nb ic0,.slice ia1 d.nc ic1,.slice ia2 d.ns ic2] 25)):=(Below.refl _ _).alloc (Nat.le_refl _) _
 have XI:Hid (Box3 (v3.alloc (.cells #[.slice ia0 d.nb ic0,.slice ia1 d.nc ic1,.slice ia2 d.ns ic2] 25)) v3.heap.size 25 (.slice ia0 d.nb ic0) (.slice ia1 d.nc ic1) (.slice ia2 d.ns ic2)):=Box3.made _ _ _ _ _
 have vis00:=(XS.out.below hb).c0
 have vis01:=(XS.out.below hb).c1
 have vis02:=(XS.out.below hb).c2
 go_wp2_with fail
 generalize (v3.alloc (.cells #[.slice ia0 d.nb ic0,.slice ia1 d.nc ic1,.slice ia2 d.ns ic2] 25)) = v4 at *
 replace A1:Hid (Below w.heap.size w v4):=A1.out.trans (hb.mono A1.out.size)
 replace VS:Hid (RowD v4 d sa0 sa1 sa2 sg0 sg1 sg2):=VS.out.below hb
 replace XS:Hid (Box3 v4 bs 25 (.slice sa0 d.nb sc0) (.slice sa1 d.nc sc1) (.slice sa2 d.ns sc2)):=XS.out.below hb
 replace VI:Hid (RowD v4 d ia0 ia1 ia2 ig0 ig1 ig2):=VI.out.below hb
 clear hb vis00 vis01 vis02
 obtain ⟨bi,hbi⟩:∃ bx,bx = v3.heap.size:=⟨_,rfl⟩
 rw [← hbi] at XI LI ⊢
 clear hbi
 have LJ:Hid (LtD d ig0 ig1 ig2 bi):=LI
 clear LI
 refine (EQ.out _ _ _ _ _ _ _ _ _ _ _ _ _ VI.out.diskV VS.out.diskV).mono ?_
 rintro e v5 ⟨rfl,hb⟩
 replace A1:Hid (Below w.heap.size w v5):=A1.out.trans (hb.mono A1.out.size)
 replace VS:Hid (RowD v5 d sa0 sa1 sa2 sg0 sg1 sg2):=VS.out.below hb
 replace XS:Hid (Box3 v5 bs 25 (.slice sa0 d.nb sc0) (.slice sa1 d.nc sc1) (.slice sa2 d.ns sc2)):=XS.out.below hb
 replace VI:Hid (RowD v5 d ia0 ia1 ia2 ig0 ig1 ig2):=VI.out.below hb
 replace XI:Hid (Box3 v5 bi 25 (.slice ia0 d.nb ic0) (.slice ia1 d.nc ic1) (.slice ia2 d.ns ic2)):=XI.out.below hb
 clear hb 
 have j0:=XI.out.c0
 have j1:=XI.out.c1
 have j2:=XI.out.c2
 go_wp2_with fail
 refine (MK.out w.heap.size _ _ _ _ _ _ _ _ _ _ ⟨fun q => Nat.le_trans PK.out.2.2.2 (PK.out.2.1.1 q),fun q => Nat.le_trans PK.out.2.2.2 (PK.out.2.1.2.1 q),fun q => Nat.le_trans PK.out.2.2.2 (PK.out.2.1.2.2 q)⟩ A1.out.size VI.out).mono ?_
 rintro e v6 ⟨rfl,rd,hk,hb⟩
 replace A1:Hid (Below w.heap.size w v6):=A1.out.trans hb
 replace VS:Hid (RowD v6 d sa0 sa1 sa2 sg0 sg1 sg2):=VS.out.keepG hk PK.out.1 PK.out.2.1
 replace XS:Hid (Box3 v6 bs 25 (.slice sa0 d.nb sc0) (.slice sa1 d.nc sc1) (.slice sa2 d.ns sc2)):=XS.out.keepLow hk PK.out.2.2.1 PK.out.2.1
 replace XI:Hid (Box3 v6 bi 25 (.slice ia0 d.nb ic0) (.slice ia1 d.nc ic1) (.slice ia2 d.ns ic2)):=XI.out.keepHigh hk LJ.out
 replace VI:Hid (RowD v6 (markK d 1) ia0 ia1 ia2 ig0 ig1 ig2):=rd
 clear rd hk hb MK
 clear j0 j1 j2
 have j0:=XI.out.c0
 have j1:=XI.out.c1
 have j2:=XI.out.c2
 go_wp2_with fail
 refine (HK.out _ _ _ _ _ _ _ VI.out.diskV).mono ?_
 rintro e v7 ⟨rfl,hb⟩
 replace A1:Hid (Below w.heap.size w v7):=A1.out.trans (hb.mono A1.out.size)
 replace VS:Hid (RowD v7 d sa0 sa1 sa2 sg0 sg1 sg2):=VS.out.below hb
 replace XS:Hid (Box3 v7 bs 25 (.slice sa0 d.nb sc0) (.slice sa1 d.nc sc1) (.slice sa2 d.ns sc2)):=XS.out.below hb
 replace XI:Hid (Box3 v7 bi 25 (.slice ia0 d.nb ic0) (.slice ia1 d.nc ic1) (.slice ia2 d.ns ic2)):=XI.out.below hb
 replace VI:Hid (RowD v7 (markK d 1) ia0 ia1 ia2 ig0 ig1 ig2):=VI.out.below hb
 clear hb 
 clear j0 j1 j2
 go_wp2_with fail
 refine (IY.out _ A1.out).mono ?_
 rintro e v8 ⟨⟨ha0,ha1,ha2,hc0,hc1,hc2,hg0,hg1,hg2,rfl,rd,-,-,-⟩,hb⟩
 replace A1:Hid (Below w.heap.size w v8):=A1.out.trans (hb.mono A1.out.size)
 replace VS:Hid (RowD v8 d sa0 sa1 sa2 sg0 sg1 sg2):=VS.out.below hb
 replace XS:Hid (Box3 v8 bs 25 (.slice sa0 d.nb sc0) (.slice sa1 d.nc sc1) (.slice sa2 d.ns sc2)):=XS.out.below hb
 replace XI:Hid (Box3 v8 bi 25 (.slice ia0 d.nb ic0) (.slice ia1 d.nc ic1) (.slice ia2 d.ns ic2)):=XI.out.below hb
 replace VI:Hid (RowD v8 (markK d 1) ia0 ia1 ia2 ig0 ig1 ig2):=VI.out.below hb
 have VH:Hid (RowD v8 d ha0 ha1 ha2 hg0 hg1 hg2):=rd
 clear hb rd
 have hb:Below v8.heap.size v8 (v8.alloc (.cells #[.slice ha0 d.nb hc0,.slice ha1 d.nc hc1,.slice ha2 d.ns hc2] 25)):=(Below.refl _ _).alloc (Nat.le_refl _) _
 have XH:Hid (Box3 (v8.alloc (.cells #[.slice ha0 d.nb hc0,.slice ha1 d.nc hc1,.slice ha2 d.ns hc2] 25)) v8.heap.size 25 (.slice ha0 d.nb hc0) (.slice ha1 d.nc hc1) (.slice ha2 d.ns hc2)):=Box3.made _ _ _ _ _
 have vis00:=(XS.out.below hb).c0
 have vis01:=(XS.out.below hb).c1
 have vis02:=(XS.out.below hb).c2
 go_wp2_with fail
 generalize (v8.alloc (.cells #[.slice ha0 d.nb hc0,.slice ha1 d.nc hc1,.slice ha2 d.ns hc2] 25)) = v9 at *
 replace A1:Hid (Below w.heap.size w v9):=A1.out.trans (hb.mono A1.out.size)
 replace VS:Hid (RowD v9 d sa0 sa1 sa2 sg0 sg1 sg2):=VS.out.below hb
 replace XS:Hid (Box3 v9 bs 25 (.slice sa0 d.nb sc0) (.slice sa1 d.nc sc1) (.slice sa2 d.ns sc2)):=XS.out.below hb
 replace XI:Hid (Box3 v9 bi 25 (.slice ia0 d.nb ic0) (.slice ia1 d.nc ic1) (.slice ia2 d.ns ic2)):=XI.out.below hb
 replace VI:Hid (RowD v9 (markK d 1) ia0 ia1 ia2 ig0 ig1 ig2):=VI.out.below hb
 replace VH:Hid (RowD v9 d ha0 ha1 ha2 hg0 hg1 hg2):=VH.out.below hb
 clear hb vis00 vis01 vis02
 obtain ⟨bh,hbh⟩:∃ bx,bx = v8.heap.size:=⟨_,rfl⟩
 rw [← hbh] at XH ⊢
 clear hbh
 refine (EQ.out _ _ _ _ _ _ _ _ _ _ _ _ _ VH.out.diskV VS.out.diskV).mono ?_
 rintro e v10 ⟨rfl,hb⟩
 replace A1:Hid (Below w.heap.size w v10):=A1.out.trans (hb.mono A1.out.size)
 replace VS:Hid (RowD v10 d sa0 sa1 sa2 sg0 sg1 sg2):=VS.out.below hb
 replace XS:Hid (Box3 v10 bs 25 (.slice sa0 d.nb sc0) (.slice sa1 d.nc sc1) (.slice sa2 d.ns sc2)):=XS.out.below hb
 replace XI:Hid (Box3 v10 bi 25 (.slice ia0 d.nb ic0) (.slice ia1 d.nc ic1) (.slice ia2 d.ns ic2)):=XI.out.below hb
 replace VI:Hid (RowD v10 (markK d 1) ia0 ia1 ia2 ig0 ig1 ig2):=VI.out.below hb
 replace VH:Hid (RowD v10 d ha0 ha1 ha2 hg0 hg1 hg2):=VH.out.below hb
 replace XH:Hid (Box3 v10 bh 25 (.slice ha0 d.nb hc0) (.slice ha1 d.nc hc1) (.slice ha2 d.ns hc2)):=XH.out.below hb
 clear hb 
 have j0:=XI.out.c0
 have j1:=XI.out.c1
 have j2:=XI.out.c2
 go_wp2_with fail
 refine (HK.out _ _ _ _ _ _ _ VI.out.diskV).mono ?_
 rintro e v11 ⟨rfl,hb⟩
 replace A1:Hid (Below w.heap.size w v11):=A1.out.trans (hb.mono A1.out.size)
 replace VS:Hid (RowD v11 d sa0 sa1 sa2 sg0 sg1 sg2):=VS.out.below hb
 replace XS:Hid (Box3 v11 bs 25 (.slice sa0 d.nb sc0) (.slice sa1 d.nc sc1) (.slice sa2 d.ns sc2)):=XS.out.below hb
 replace XI:Hid (Box3 v11 bi 25 (.slice ia0 d.nb ic0) (.slice ia1 d.nc ic1) (.slice ia2 d.ns ic2)):=XI.out.below hb
 replace VI:Hid (RowD v11 (markK d 1) ia0 ia1 ia2 ig0 ig1 ig2):=VI.out.below hb
 replace VH:Hid (RowD v11 d ha0 ha1 ha2 hg0 hg1 hg2):=VH.out.below hb
 replace XH:Hid (Box3 v11 bh 25 (.slice ha0 d.nb hc0) (.slice ha1 d.nc hc1) (.slice ha2 d.ns hc2)):=XH.out.below hb
 clear hb 
 clear j0 j1 j2
 clear HK EQ IY
 go_wp2
 go_ret
 exact ⟨rfl,A1.out⟩
end Go.Proofs.YtcpjeopnhgoonaaGreatDoor
