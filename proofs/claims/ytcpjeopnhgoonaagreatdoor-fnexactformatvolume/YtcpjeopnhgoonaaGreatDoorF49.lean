/-
  Texts of the proof, joined.
-/
import Derived.Test.YtcpjeopnhgoonaaGreatDoorF47
namespace Go.Proofs.YtcpjeopnhgoonaaGreatDoor
open Go.ChangeShapes Go.WideShapes Go.ChangeAt Go.RowKit
set_option linter.unusedVariables false
set_option maxRecDepth 100000 in
set_option maxHeartbeats 8000000 in
theorem syncVol_new (k:ByteArray) (n:Nat) (hk:k.size = 32) (h4:4≤n) (hn:n≤64) (g:Nat) (p0 p1 p2 p3 p4:Addr) (w:World) (h:DiskV w (newD n) (some ⟨g,0,none⟩) none none) (hE:Errs w p0 p1 p2 p3 p4) (ht:Tabs w) :
  Calls Tryz.prog 13 #[.string k,.agg #[.slice (some ⟨g,0,none⟩) n n,.slice none 0 0,.slice none 0 0],.slice none 0 0] w fun e w' => RetD w.heap.size w' e (erD k n 4) 0∧Below w.heap.size w w':=by
 have A0:Hid (Below w.heap.size w ((w.alloc (.cells #[.slice (some ⟨g,0,none⟩) n n,.slice none 0 0,.slice none 0 0] 25)).alloc (.cells #[.slice none 0 0,.slice none 0 0,.slice none 0 0] 25))):=((Below.refl w.heap.size w).alloc (Nat.le_refl _) _).alloc (by simp) _
 have X0:Hid (Box3 ((w.alloc (.cells #[.slice (some ⟨g,0,none⟩) n n,.slice none 0 0,.slice none 0 0] 25)).alloc (.cells #[.slice none 0 0,.slice none 0 0,.slice none 0 0] 25)) (w.heap.size + 1) 25 (.slice none 0 0) (.slice none 0 0) (.slice none 0 0)):=Box3.madeAt (by simp) _ _ _ _
 have Y0:Hid (Box3 ((w.alloc (.cells #[.slice (some ⟨g,0,none⟩) n n,.slice none 0 0,.slice none 0 0] 25)).alloc (.cells #[.slice none 0 0,.slice none 0 0,.slice none 0 0] 25)) w.heap.size 25 (.slice (some ⟨g,0,none⟩) n n) (.slice none 0 0) (.slice none 0 0)):=(Box3.made w _ _ _ _).alloc _
 have HE:Hid (Errs w p0 p1 p2 p3 p4):=hE
 have HD:Hid (DiskV w (newD n) (some ⟨g,0,none⟩) none none):=h
 have SP:Hid (Calls Tryz.prog 24 #[.string k,.agg #[.slice (some ⟨g,0,none⟩) n n,.slice none 0 0,.slice none 0 0],.slice none 0 0] ((w.alloc (.cells #[.slice (some ⟨g,0,none⟩) n n,.slice none 0 0,.slice none 0 0] 25)).alloc (.cells #[.slice none 0 0,.slice none 0 0,.slice none 0 0] 25)) fun e w' => RetPl ((w.alloc (.cells #[.slice (some ⟨g,0,none⟩) n n,.slice none 0 0,.slice none 0 0] 25)).alloc (.cells #[.slice none 0 0,.slice none 0 0,.slice none 0 0] 25)).heap.size k e w'∧Below ((w.alloc (.cells #[.slice (some ⟨g,0,none⟩) n n,.slice none 0 0,.slice none 0 0] 25)).alloc (.cells #[.slice none 0 0,.slice none 0 0,.slice none 0 0] 25)).heap.size ((w.alloc (.cells #[.slice (some ⟨g,0,none⟩) n n,.slice none 0 0,.slice none 0 0] 25)).alloc (.cells #[.slice none 0 0,.slice none 0 0,.slice none 0 0] 25)) w'):=syncPlan_new k n hk h4 hn (some ⟨g,0,none⟩) none none n 0 0 p0 p1 _ (h.below A0.out) (hE.e0.below A0.out) (hE.e1.below A0.out) (ht.below A0.out)
 have CP:Hid (∀ w:World,DiskV w (newD n) (some ⟨g,0,none⟩) none none→Calls Tryz.prog 26 #[.agg #[.slice (some ⟨g,0,none⟩) n n,.slice none 0 0,.slice none 0 0]] w fun e w' => (∃ v0 v1 v2,e = .returned (.agg #[v0,v1,v2])∧Rows3 w' w.heap.size (newD n) v0 v1 v2)∧Below w.heap.size w w'):=fun w h => copiedDisk_any (newD n) (some ⟨g,0,none⟩) none none n 0 0 hn (by show (0:Nat)≤_; omega) (by show (0:Nat)≤_; omega) (fun e => by cases e) (fun _ => rfl) (fun _ => rfl) w h
 have OD:Hid (∀ (i0 i1 i2:Option Addr) (k0 k1 k2:Nat) (w:World),DiskV w (newD n) i0 i1 i2→Calls Tryz.prog 25 #[.string k,.agg #[.slice i0 (newD n).nb k0,.slice i1 (newD n).nc k1,.slice i2 (newD n).ns k2]] w fun e w' => (∃ q b,e = .returned (.agg #[.pointer (some ⟨q,0,none⟩),.string k])∧(w.heap.size≤q∧w.heap.size≤b∧q≠b)∧Box4 w' q 57 (.slice i0 (newD n).nb k0) (.slice i1 (newD n).nc k1) (.slice i2 (newD n).ns k2) (.map (some b))∧MapI w' b (lastM (newD n).A (newD n).D 0))∧Below w.heap.size w w'):=fun i0 i1 i2 k0 k1 k2 w h => onDisk_at k n i0 i1 i2 k0 k1 k2 w h
 have CT:Hid (∀ (B q b x c:Nat) (v0 v1 v2:Value) (u:World),w.heap.size≤B→Below w.heap.size w u→B≤u.heap.size→Drv u B q b (newD n) v0 v1 v2→ActR u x 4 (erAC k)→x < B→Calls Tryz.prog 27 #[.slice (some ⟨x,0,none⟩) 4 c,.func (.func 28) #[.agg #[.pointer (some ⟨q,0,none⟩),.string k]] #[]] u fun e w' => e = .returned (.bool false)∧(∃ u0 u1 u2,Drv w' B q b (erD k n 4) u0 u1 u2∧KpD q b v0 v1 v2 u0 u1 u2 u w')∧Below B u w'):=fun B q b x c v0 v1 v2 u h1 h2 h3 h5 h6 h7 => containsEr B q b x c k n h4 hn v0 v1 v2 p0 p1 p2 p3 p4 u w h1 h2 h3 hE h5 h6 h7
 clear h hE ht hk h4 hn
 generalize erD k n 4 = dn at *
 have y0:=Y0.out.c0
 have y1:=Y0.out.c1
 have y2:=Y0.out.c2
 go_enter Tryz.func13,Tryz.ntmps13
 go_wp2_with fail
 generalize ((w.alloc (.cells #[.slice (some ⟨g,0,none⟩) n n,.slice none 0 0,.slice none 0 0] 25)).alloc (.cells #[.slice none 0 0,.slice none 0 0,.slice none 0 0] 25)) = u at *
 refine SP.out.mono ?_
 rintro e w1 ⟨⟨x,c,rfl,-,ha⟩,hb⟩
 replace A0:=hid (A0.out.trans (hb.mono A0.out.size))
 replace X0:=hid (X0.out.below hb)
 replace Y0:=hid (Y0.out.below hb)
 have HA:Hid (ActR w1 x 4 (erAC k)):=ha
 clear y0 y1 y2 hb ha SP u
 have y0:=Y0.out.c0
 have y1:=Y0.out.c1
 have y2:=Y0.out.c2
 go_wp2_with fail
 refine (CP.out w1 (HD.out.below A0.out)).mono ?_
 rintro e w2 ⟨⟨v0,v1,v2,rfl,hR⟩,hb⟩
 obtain ⟨i0,i1,i2,k0,k1,k2,g0,g1,g2,rfl,rfl,rfl,hr,-⟩:=hR.rowD
 have XL1:Hid (w.heap.size + 1 < w1.heap.size):=X0.out.lt
 have XA1:Hid (x < w1.heap.size):=HA.out.lt
 replace A0:=hid (A0.out.trans (hb.mono A0.out.size))
 replace X0:=hid (X0.out.below hb)
 replace HA:=hid (HA.out.below hb)
 have R2:Hid (Rows3 w2 w1.heap.size (newD n) (.slice i0 (newD n).nb k0) (.slice i1 (newD n).nc k1) (.slice i2 (newD n).ns k2)):=hR
 have D2:Hid (DiskV w2 (newD n) i0 i1 i2):=hr.diskV
 have S2:Hid (w1.heap.size≤w2.heap.size):=hb.size
 clear y0 y1 y2 hb hR hr CP Y0 HD
 generalize w1.heap.size = B at *
 clear w1
 go_wp2_with fail
 refine (OD.out i0 i1 i2 k0 k1 k2 w2 D2.out).mono ?_
 rintro e w3 ⟨⟨q,b,rfl,hq,hx4,hm⟩,hb⟩
 have R3:=R2.out.below hb
 have V3:Hid (Drv w3 B q b (newD n) (.slice i0 (newD n).nb k0) (.slice i1 (newD n).nc k1) (.slice i2 (newD n).ns k2)):=by
  have s2:=S2.out
  exact ⟨hx4,R3.t0,R3.t1,R3.t2,hm,⟨fun e => by have:=(World.ownsRow.lt R2.out.t0 _ e).2; omega,fun e => by have:=(World.ownsRow.lt R2.out.t0 _ e).2; omega⟩,⟨fun e => by have:=(World.ownsRow.lt R2.out.t1 _ e).2; omega,fun e => by have:=(World.ownsRow.lt R2.out.t1 _ e).2; omega⟩,⟨fun e => by have:=(World.ownsRow.lt R2.out.t2 _ e).2; omega,fun e => by have:=(World.ownsRow.lt R2.out.t2 _ e).2; omega⟩,hq.2.2,R3.n01,R3.n02,R3.n12,by omega,by omega⟩
 replace A0:=hid (A0.out.trans (hb.mono A0.out.size))
 replace X0:=hid (X0.out.below hb)
 replace HA:=hid (HA.out.below hb)
 have S3:Hid (B≤w3.heap.size):=Nat.le_trans S2.out hb.size
 clear hb hq hx4 hm R3 R2 D2 S2 OD w2
 have hb:Below w3.heap.size w3 (w3.alloc (.cells #[.pointer (some ⟨q,0,none⟩),.string k] 48)):=(Below.refl _ _).alloc (Nat.le_refl _) _
 have V4:=hid (V3.out.below hb)
 have K4:Hid (Box2 (w3.alloc (.cells #[.pointer (some ⟨q,0,none⟩),.string k] 48)) w3.heap.size 48 (.pointer (some ⟨q,0,none⟩)) (.string k)):=Box2.made _ _ _ _
 have NK:Hid (NotD w3.heap.size q b (.slice i0 (newD n).nb k0) (.slice i1 (newD n).nc k1) (.slice i2 (newD n).ns k2)):=by
  refine ⟨fun e => ?_,fun e => ?_,fun e => ?_,fun e => ?_,fun e => ?_⟩
  ·have:=V3.out.box.lt; omega
  ·have:=V3.out.m.lt; omega
  ·have:=(World.ownsRow.lt V3.out.t0 _ e).2; omega
  ·have:=(World.ownsRow.lt V3.out.t1 _ e).2; omega
  ·have:=(World.ownsRow.lt V3.out.t2 _ e).2; omega
 replace A0:=hid (A0.out.trans (hb.mono A0.out.size))
 replace X0:=hid (X0.out.below hb)
 replace HA:=hid (HA.out.below hb)
 have S4:Hid (B≤(w3.alloc (.cells #[.pointer (some ⟨q,0,none⟩),.string k] 48)).heap.size):=Nat.le_trans S3.out hb.size
 have z0:=K4.out.c0
 have z1:=K4.out.c1
 clear hb V3 S3
 go_wp2_with fail
 generalize hw4:(w3.alloc (.cells #[.pointer (some ⟨q,0,none⟩),.string k] 48)) = w4 at *
 clear hw4
 generalize w3.heap.size = kb at *
 refine (CT.out B q b x c _ _ _ w4 (by have:=XL1.out; omega) A0.out S4.out V4.out HA.out XA1.out).mono ?_
 rintro e w5 ⟨rfl,⟨u0,u1,u2,hv,hkp⟩,hb⟩
 obtain ⟨i0,i1,i2,k0,k1,k2,g0,g1,g2,rfl,rfl,rfl,-⟩:=hv.rows.rowD
 have K5:Hid (Box2 w5 kb 48 (.pointer (some ⟨q,0,none⟩)) (.string k)):=World.rowIs.of_block K4.out (hkp kb K4.out.lt NK.out).1
 have X5:Hid (Box3 w5 (w.heap.size + 1) 25 (.slice none 0 0) (.slice none 0 0) (.slice none 0 0)):=X0.out.ofBlock (hb.block _ XL1.out)
 have A5:Hid (Below w.heap.size w w5):=A0.out.trans (hb.mono (by have:=XL1.out; omega))
 have V5:Hid (Drv w5 B q b dn (.slice i0 dn.nb k0) (.slice i1 dn.nc k1) (.slice i2 dn.ns k2)):=hv
 clear hv hkp hb K4 X0 A0 V4 NK CT HA S4 z0 z1 w4
 have d0:=V5.out.box.c0
 have d1:=V5.out.box.c1
 have d2:=V5.out.box.c2
 have z0:=K5.out.c0
 have x0:=X5.out.c0
 have x1:=X5.out.c1
 have x2:=X5.out.c2
 have f0:=X5.out.fr 0
 have f1:=X5.out.fr 1
 have f2:=X5.out.fr 2
 have O5:OnlyB (w.heap.size + 1) w5 (((w5.setCell ⟨w.heap.size + 1,0,none⟩ (.slice i0 dn.nb k0)).setCell ⟨w.heap.size + 1,1,none⟩ (.slice i1 dn.nc k1)).setCell ⟨w.heap.size + 1,2,none⟩ (.slice i2 dn.ns k2)):=(((OnlyB.refl _ w5).setCell 0 _).setCell 1 _).setCell 2 _
 have X6:Hid (Box3 (((w5.setCell ⟨w.heap.size + 1,0,none⟩ (.slice i0 dn.nb k0)).setCell ⟨w.heap.size + 1,1,none⟩ (.slice i1 dn.nc k1)).setCell ⟨w.heap.size + 1,2,none⟩ (.slice i2 dn.ns k2)) (w.heap.size + 1) 25 (.slice i0 dn.nb k0) (.slice i1 dn.nc k1) (.slice i2 dn.ns k2)):=((X5.out.set0 _).set1 _).set2 _
 have R5:Hid (Rows3 (((w5.setCell ⟨w.heap.size + 1,0,none⟩ (.slice i0 dn.nb k0)).setCell ⟨w.heap.size + 1,1,none⟩ (.slice i1 dn.nc k1)).setCell ⟨w.heap.size + 1,2,none⟩ (.slice i2 dn.ns k2)) B dn (.slice i0 dn.nb k0) (.slice i1 dn.nc k1) (.slice i2 dn.ns k2)):=⟨V5.out.t0.onlyB O5 (fun e => by have:=(World.ownsRow.lt V5.out.t0 _ e).1; have:=XL1.out; omega),V5.out.t1.onlyB O5 (fun e => by have:=(World.ownsRow.lt V5.out.t1 _ e).1; have:=XL1.out; omega),V5.out.t2.onlyB O5 (fun e => by have:=(World.ownsRow.lt V5.out.t2 _ e).1; have:=XL1.out; omega),V5.out.n01,V5.out.n02,V5.out.n12⟩
 have B5:Hid (Below w.heap.size w (((w5.setCell ⟨w.heap.size + 1,0,none⟩ (.slice i0 dn.nb k0)).setCell ⟨w.heap.size + 1,1,none⟩ (.slice i1 dn.nc k1)).setCell ⟨w.heap.size + 1,2,none⟩ (.slice i2 dn.ns k2))):=A5.out.trans (O5.toBelow (by omega) A5.out.size)
 clear O5 X5 A5 V5 K5
 go_wp2
 generalize (((w5.setCell ⟨w.heap.size + 1,0,none⟩ (.slice i0 dn.nb k0)).setCell ⟨w.heap.size + 1,1,none⟩ (.slice i1 dn.nc k1)).setCell ⟨w.heap.size + 1,2,none⟩ (.slice i2 dn.ns k2)) = u5 at *
 clear d0 d1 d2 z0 x0 x1 x2 f0 f1 f2
 have y0:=X6.out.c0
 have y1:=X6.out.c1
 have y2:=X6.out.c2
 obtain ⟨j0,j1,j2,l0,l1,l2,g0,g1,g2,h0,h1,h2,hr,hg0,hg1,hg2⟩:=R5.out.rowD
 cases h0
 cases h1
 cases h2
 exact ret_cell2 (b:=w.heap.size + 1) (v:=.agg #[.slice i0 dn.nb k0,.slice i1 dn.nc k1,.slice i2 dn.ns k2]) Tryz.results13 rfl rfl (by go_simp) ⟨⟨_,_,_,_,_,_,_,_,_,rfl,hr,fun h => by have:=hg0 h; have:=XL1.out; omega,fun h => by have:=hg1 h; have:=XL1.out; omega,fun h => by have:=hg2 h; have:=XL1.out; omega⟩,B5.out⟩
set_option maxRecDepth 100000 in
set_option maxHeartbeats 8000000 in
theorem implFv_yes (k:ByteArray) (n:Nat) (hk:k.size = 32) (h4:4≤n) (hn:n≤64) (p0 p1 p2 p3 p4:Addr) (w:World) (hE:Errs w p0 p1 p2 p3 p4) (ht:Tabs w) :
  Calls Tryz.prog 5 #[.string k,.int .i64 (n:Int)] w fun e w' => RetD w.heap.size w' e (erD k n 4) 0∧Below w.heap.size w w':=by
 have A0:Hid (Below w.heap.size w (w.alloc (.cells #[.slice none 0 0,.slice none 0 0,.slice none 0 0] 25))):=(Below.refl _ _).alloc (Nat.le_refl _) _
 have X0:Hid (Box3 (w.alloc (.cells #[.slice none 0 0,.slice none 0 0,.slice none 0 0] 25)) w.heap.size 25 (.slice none 0 0) (.slice none 0 0) (.slice none 0 0)):=Box3.made _ _ _ _ _
 have TF:Hid (∀ w:World,Calls Tryz.prog 12 #[.string k,.int .i64 (n:Int)] w fun e w' => (∃ g,e = .returned (.tuple #[.agg #[.slice (some ⟨g,0,none⟩) n n,.slice none 0 0,.slice none 0 0],.int .i64 0])∧DiskV w' (newD n) (some ⟨g,0,none⟩) none none)∧Below w.heap.size w w'):=fun w => toFormat_z k n hk h4 hn w
 have SV:Hid (∀ (g:Nat) (v:World),Below w.heap.size w v→DiskV v (newD n) (some ⟨g,0,none⟩) none none→Calls Tryz.prog 13 #[.string k,.agg #[.slice (some ⟨g,0,none⟩) n n,.slice none 0 0,.slice none 0 0],.slice none 0 0] v fun e w' => RetD v.heap.size w' e (erD k n 4) 0∧Below v.heap.size v w'):=fun g v hb h => syncVol_new k n hk h4 hn g p0 p1 p2 p3 p4 v h (hE.below hb) (ht.below hb)
 clear hE ht hk h4 hn
 generalize erD k n 4 = dn at *
 go_enter Tryz.func5,Tryz.ntmps5
 go_wp2_with fail
 refine (TF.out _).mono ?_
 generalize (w.alloc (.cells #[.slice none 0 0,.slice none 0 0,.slice none 0 0] 25)) = u at *
 rintro e v ⟨⟨g,rfl,hd⟩,hb⟩
 have hb2:Below v.heap.size v (v.alloc (.cells #[.slice (some ⟨g,0,none⟩) n n,.slice none 0 0,.slice none 0 0] 25)):=(Below.refl _ _).alloc (Nat.le_refl _) _
 replace X0:=hid ((X0.out.below hb).below hb2)
 replace A0:=hid (A0.out.trans ((hb.trans (hb2.mono hb.size)).mono A0.out.size))
 have D1:=hid (hd.below hb2)
 have X1:Hid (Box3 (v.alloc (.cells #[.slice (some ⟨g,0,none⟩) n n,.slice none 0 0,.slice none 0 0] 25)) v.heap.size 25 (.slice (some ⟨g,0,none⟩) n n) (.slice none 0 0) (.slice none 0 0)):=Box3.made _ _ _ _ _
 have y0:=X1.out.c0
 have y1:=X1.out.c1
 have y2:=X1.out.c2
 clear hd hb hb2 TF
 go_wp2_with fail
 clear y0 y1 y2 X1
 generalize (v.alloc (.cells #[.slice (some ⟨g,0,none⟩) n n,.slice none 0 0,.slice none 0 0] 25)) = v1 at *
 refine (SV.out g v1 A0.out D1.out).mono ?_
 rintro e w5 ⟨⟨i0,i1,i2,k0,k1,k2,g0,g1,g2,rfl,hr,hg0,hg1,hg2⟩,hb⟩
 have hlt:w.heap.size < v1.heap.size:=X0.out.lt
 replace X0:=hid (X0.out.below hb)
 replace A0:=hid (A0.out.trans (hb.mono A0.out.size))
 have O5:OnlyB (w.heap.size) w5 (((w5.setCell ⟨w.heap.size,0,none⟩ (.slice i0 dn.nb k0)).setCell ⟨w.heap.size,1,none⟩ (.slice i1 dn.nc k1)).setCell ⟨w.heap.size,2,none⟩ (.slice i2 dn.ns k2)):=(((OnlyB.refl _ w5).setCell 0 _).setCell 1 _).setCell 2 _
 have X6:Hid (Box3 (((w5.setCell ⟨w.heap.size,0,none⟩ (.slice i0 dn.nb k0)).setCell ⟨w.heap.size,1,none⟩ (.slice i1 dn.nc k1)).setCell ⟨w.heap.size,2,none⟩ (.slice i2 dn.ns k2)) (w.heap.size) 25 (.slice i0 dn.nb k0) (.slice i1 dn.nc k1) (.slice i2 dn.ns k2)):=((X0.out.set0 _).set1 _).set2 _
 have R5:Hid (RowD (((w5.setCell ⟨w.heap.size,0,none⟩ (.slice i0 dn.nb k0)).setCell ⟨w.heap.size,1,none⟩ (.slice i1 dn.nc k1)).setCell ⟨w.heap.size,2,none⟩ (.slice i2 dn.ns k2)) dn i0 i1 i2 g0 g1 g2):=⟨hr.s0.onlyB O5 (fun h => by have:=hg0 h; omega),hr.s1.onlyB O5 (fun h => by have:=hg1 h; omega),hr.s2.onlyB O5 (fun h => by have:=hg2 h; omega),hr.n01,hr.n02,hr.n12⟩
 have HQ:Hid ((0 < dn.nb→w.heap.size≤g0)∧(0 < dn.nc→w.heap.size≤g1)∧(0 < dn.ns→w.heap.size≤g2)):=⟨fun h => by have:=hg0 h; omega,fun h => by have:=hg1 h; omega,fun h => by have:=hg2 h; omega⟩
 have B5:Hid (Below w.heap.size w (((w5.setCell ⟨w.heap.size,0,none⟩ (.slice i0 dn.nb k0)).setCell ⟨w.heap.size,1,none⟩ (.slice i1 dn.nc k1)).setCell ⟨w.heap.size,2,none⟩ (.slice i2 dn.ns k2))):=A0.out.trans (O5.toBelow (Nat.le_refl _) A0.out.size)
 have x0:=X0.out.c0
 have x1:=X0.out.c1
 have x2:=X0.out.c2
 have f0:=X0.out.fr 0
 have f1:=X0.out.fr 1
 have f2:=X0.out.fr 2
 clear O5 X0 A0 D1 hr hg0 hg1 hg2 hb hlt SV v1
 go_wp2
 generalize (((w5.setCell ⟨w.heap.size,0,none⟩ (.slice i0 dn.nb k0)).setCell ⟨w.heap.size,1,none⟩ (.slice i1 dn.nc k1)).setCell ⟨w.heap.size,2,none⟩ (.slice i2 dn.ns k2)) = u5 at *
 clear x0 x1 x2 f0 f1 f2
 have y0:=X6.out.c0
 have y1:=X6.out.c1
 have y2:=X6.out.c2
 exact ret_cell2 (b:=w.heap.size) (v:=.agg #[.slice i0 dn.nb k0,.slice i1 dn.nc k1,.slice i2 dn.ns k2]) Tryz.results5 rfl rfl (by go_simp) ⟨⟨_,_,_,_,_,_,_,_,_,rfl,R5.out,HQ.out.1,HQ.out.2.1,HQ.out.2.2⟩,B5.out⟩
set_option maxRecDepth 100000 in
set_option maxHeartbeats 8000000 in
theorem implFv_no (k:ByteArray) (x:Int) (code:Int) (h:FmA k x (newD 0) code) (hc:code≠0) (w:World) :
  Calls Tryz.prog 5 #[.string k,.int .i64 x] w fun e w' => RetD w.heap.size w' e (newD 0) code∧Below w.heap.size w w':=by
 have A0:Hid (Below w.heap.size w (w.alloc (.cells #[.slice none 0 0,.slice none 0 0,.slice none 0 0] 25))):=(Below.refl _ _).alloc (Nat.le_refl _) _
 have X0:Hid (Box3 (w.alloc (.cells #[.slice none 0 0,.slice none 0 0,.slice none 0 0] 25)) w.heap.size 25 (.slice none 0 0) (.slice none 0 0) (.slice none 0 0)):=Box3.made _ _ _ _ _
 have TF:Hid (∀ w:World,Calls Tryz.prog 12 #[.string k,.int .i64 x] w fun e w' => RetD w.heap.size w' e (newD 0) code∧Below w.heap.size w w'):=fun w => toFormat_any k x (newD 0) code h w
 clear h
 go_enter Tryz.func5,Tryz.ntmps5
 go_wp2_with fail
 refine (TF.out _).mono ?_
 generalize (w.alloc (.cells #[.slice none 0 0,.slice none 0 0,.slice none 0 0] 25)) = u at *
 rintro e v ⟨⟨a0,a1,a2,c0,c1,c2,g0,g1,g2,rfl,-,-,-,-⟩,hb⟩
 have hb2:Below v.heap.size v (v.alloc (.cells #[.slice a0 (newD 0).nb c0,.slice a1 (newD 0).nc c1,.slice a2 (newD 0).ns c2] 25)):=(Below.refl _ _).alloc (Nat.le_refl _) _
 replace X0:=hid ((X0.out.below hb).below hb2)
 replace A0:=hid (A0.out.trans ((hb.trans (hb2.mono hb.size)).mono A0.out.size))
 have O5:OnlyB (w.heap.size) (v.alloc (.cells #[.slice a0 (newD 0).nb c0,.slice a1 (newD 0).nc c1,.slice a2 (newD 0).ns c2] 25)) ((((v.alloc (.cells #[.slice a0 (newD 0).nb c0,.slice a1 (newD 0).nc c1,.slice a2 (newD 0).ns c2] 25)).setCell ⟨w.heap.size,0,none⟩ (.slice none 0 0)).setCell ⟨w.heap.size,1,none⟩ (.slice none 0 0)).setCell ⟨w.heap.size,2,none⟩ (.slice none 0 0)):=(((OnlyB.refl _ _).setCell 0 _).setCell 1 _).setCell 2 _
 have X6:Hid (Box3 ((((v.alloc (.cells #[.slice a0 (newD 0).nb c0,.slice a1 (newD 0).nc c1,.slice a2 (newD 0).ns c2] 25)).setCell ⟨w.heap.size,0,none⟩ (.slice none 0 0)).setCell ⟨w.heap.size,1,none⟩ (.slice none 0 0)).setCell ⟨w.heap.size,2,none⟩ (.slice none 0 0)) (w.heap.size) 25 (.slice none 0 0) (.slice none 0 0) (.slice none 0 0)):=((X0.out.set0 _).set1 _).set2 _
 have B5:Hid (Below w.heap.size w ((((v.alloc (.cells #[.slice a0 (newD 0).nb c0,.slice a1 (newD 0).nc c1,.slice a2 (newD 0).ns c2] 25)).setCell ⟨w.heap.size,0,none⟩ (.slice none 0 0)).setCell ⟨w.heap.size,1,none⟩ (.slice none 0 0)).setCell ⟨w.heap.size,2,none⟩ (.slice none 0 0))):=A0.out.trans (O5.toBelow (Nat.le_refl _) A0.out.size)
 have x0:=X0.out.c0
 have x1:=X0.out.c1
 have x2:=X0.out.c2
 have f0:=X0.out.fr 0
 have f1:=X0.out.fr 1
 have f2:=X0.out.fr 2
 clear O5 X0 A0 hb hb2 TF
 go_wp2
 generalize ((((v.alloc (.cells #[.slice a0 (newD 0).nb c0,.slice a1 (newD 0).nc c1,.slice a2 (newD 0).ns c2] 25)).setCell ⟨w.heap.size,0,none⟩ (.slice none 0 0)).setCell ⟨w.heap.size,1,none⟩ (.slice none 0 0)).setCell ⟨w.heap.size,2,none⟩ (.slice none 0 0)) = u5 at *
 clear x0 x1 x2 f0 f1 f2
 have y0:=X6.out.c0
 have y1:=X6.out.c1
 have y2:=X6.out.c2
 exact ret_cell2 (b:=w.heap.size) (v:=.agg #[.slice none 0 0,.slice none 0 0,.slice none 0 0]) Tryz.results5 rfl rfl (by go_simp) ⟨retD_none _,B5.out⟩
theorem implFv_any (k:ByteArray) (x:Int) (D:Dk) (code:Int) (h:FvA k x D code) (p0 p1 p2 p3 p4:Addr) (w:World) (hE:Errs w p0 p1 p2 p3 p4) (ht:Tabs w) :
  Calls Tryz.prog 5 #[.string k,.int .i64 x] w fun e w' => RetD w.heap.size w' e D code∧Below w.heap.size w w':=by
 rcases h with ⟨h1,rfl,rfl⟩ | ⟨h1,h2,rfl,rfl⟩ | ⟨h1,h2,rfl,rfl⟩ | ⟨h1,h2,rfl,rfl⟩
 ·exact implFv_no k x 2 (.inl ⟨h1,rfl,rfl⟩) (by decide) w
 ·exact implFv_no k x 1 (.inr (.inl ⟨h1,h2,rfl,rfl⟩)) (by decide) w
 ·exact implFv_no k x 4 (.inr (.inr (.inl ⟨h1,h2,rfl,rfl⟩))) (by decide) w
 ·obtain ⟨n,rfl⟩:=Int.eq_ofNat_of_zero_le (a:=x) (by omega)
  rw [Int.toNat_natCast]
  exact implFv_yes k n h1 (by omega) (by omega) p0 p1 p2 p3 p4 w hE ht
end Go.Proofs.YtcpjeopnhgoonaaGreatDoor
