/-
  Texts of the proof, joined.
-/
import Derived.Test.YtcpjeopnhgoonaaGreatDoorF36
namespace Go.Proofs.YtcpjeopnhgoonaaGreatDoor
open Go.ChangeShapes Go.WideShapes Go.ChangeAt Go.RowKit
set_option linter.unusedVariables false
theorem actCells (w:World) (A C:Obj) (kd x:Int) (s:ByteArray) (k t:Value):(((w.alloc A).alloc (.cells #[.int .i64 kd,.int .i64 x,.string s,k,t] 53)).alloc C).cell? ⟨w.heap.size + 1,1,none⟩ = some (.int .i64 x)∧(((w.alloc A).alloc (.cells #[.int .i64 kd,.int .i64 x,.string s,k,t] 53)).alloc C).cell? ⟨w.heap.size + 1,2,none⟩ = some (.string s):=by
 have m:(w.alloc A).heap.size = w.heap.size + 1:=by simp
 have bl:Below ((w.alloc A).alloc (.cells #[.int .i64 kd,.int .i64 x,.string s,k,t] 53)).heap.size ((w.alloc A).alloc (.cells #[.int .i64 kd,.int .i64 x,.string s,k,t] 53)) (((w.alloc A).alloc (.cells #[.int .i64 kd,.int .i64 x,.string s,k,t] 53)).alloc C):=(Below.refl _ _).alloc (Nat.le_refl _) _
 have hl:w.heap.size + 1 < ((w.alloc A).alloc (.cells #[.int .i64 kd,.int .i64 x,.string s,k,t] 53)).heap.size:=by simp
 exact ⟨(bl.cell hl).trans (cell_alloc_at m _ _ 1),(bl.cell hl).trans (cell_alloc_at m _ _ 2)⟩
set_option maxRecDepth 100000 in
set_option maxHeartbeats 2000000 in
theorem step_write (d:Dk) (a:Ac) (a0 a1 a2 ak:Option Addr) (c0 c1 c2 ck:Nat) (hd:d.Ok) (z0:a0 = none→c0 = 0) (z1:a1 = none→c1 = 0) (z2:a2 = none→c2 = 0) (w:World) (h:DiskV w d a0 a1 a2) (hk:a.kd = 1) (hx:0≤a.x∧a.x < d.nb) (hl:¬ 200 < a.s.size) (hc:d.nc≠4096) :
  Calls Tryz.prog 40 #[.agg #[.slice a0 d.nb c0,.slice a1 d.nc c1,.slice a2 d.ns c2],.agg #[.int .i64 1,.int .i64 a.x,.string a.s,.slice ak a.nk ck,.int .i64 a.t]] w fun e w' => RetT w.heap.size a0 a1 a2 w' e (d.done a) (codeF (d.fault a))∧Below w.heap.size w w':=by
 have A1:Below w.heap.size w (((w.alloc (.cells #[.slice a0 d.nb c0,.slice a1 d.nc c1,.slice a2 d.ns c2] 25)).alloc (.cells #[.int .i64 1,.int .i64 a.x,.string a.s,.slice ak a.nk ck,.int .i64 a.t] 53)).alloc (.cells #[.slice none 0 0,.slice none 0 0,.slice none 0 0] 25)):=(((Below.refl w.heap.size w).alloc (Nat.le_refl _) _).alloc (by simp) _).alloc (by simp; omega) _
 have AA1:Hid (Below w.heap.size w (((w.alloc (.cells #[.slice a0 d.nb c0,.slice a1 d.nc c1,.slice a2 d.ns c2] 25)).alloc (.cells #[.int .i64 1,.int .i64 a.x,.string a.s,.slice ak a.nk ck,.int .i64 a.t] 53)).alloc (.cells #[.slice none 0 0,.slice none 0 0,.slice none 0 0] 25))):=A1
 have X0:Hid (Box3 (((w.alloc (.cells #[.slice a0 d.nb c0,.slice a1 d.nc c1,.slice a2 d.ns c2] 25)).alloc (.cells #[.int .i64 1,.int .i64 a.x,.string a.s,.slice ak a.nk ck,.int .i64 a.t] 53)).alloc (.cells #[.slice none 0 0,.slice none 0 0,.slice none 0 0] 25)) (w.heap.size + 2) 25 (.slice none 0 0) (.slice none 0 0) (.slice none 0 0)):=Box3.madeAt (by simp) _ _ _ _
 have Y0:Hid (Box3 (((w.alloc (.cells #[.slice a0 d.nb c0,.slice a1 d.nc c1,.slice a2 d.ns c2] 25)).alloc (.cells #[.int .i64 1,.int .i64 a.x,.string a.s,.slice ak a.nk ck,.int .i64 a.t] 53)).alloc (.cells #[.slice none 0 0,.slice none 0 0,.slice none 0 0] 25)) w.heap.size 25 (.slice a0 d.nb c0) (.slice a1 d.nc c1) (.slice a2 d.ns c2)):=((Box3.made w _ _ _ _).alloc _).alloc _
 have DV:Hid (DiskV w d a0 a1 a2):=h
 have hc':¬ 4096≤d.nc:=by have:=hd.nc; omega
 have f:d.fault a = 0:=by unfold Dk.fault; simp [hk,hx,hl,hc']
 have g:d.done a = d.written a.x a.s:=by unfold Dk.done; rw [f]; unfold Dk.acted; simp [hk]
 have hn1:=hd.nb1
 have hn2:=hd.nb2
 have hn3:=hd.nc
 have hn4:=hd.ns
 have IN:Hid (∀ w:World,Calls Tryz.prog 9 #[.int .i64 a.x,.int .i64 0,.int .i64 ((d.nb:Int) - 1)] w fun e w' => e = .returned (.bool true)∧w = w'):=fun w => in_any a.x 0 ((d.nb:Int) - 1) true (by symm; rw [decide_eq_true_iff]; omega) w
 have y9:¬ (200:Int) < (a.s.size:Int):=by omega
 have y8:((d.nc:Int) == 4096) = false:=by simp; omega
 have OW:Hid (∀ w:World,DiskV w d a0 a1 a2→Calls Tryz.prog 11 #[.agg #[.slice a0 d.nb c0,.slice a1 d.nc c1,.slice a2 d.ns c2]] w fun e w' => (∃ v0 v1 v2,e = .returned (.agg #[v0,v1,v2])∧Rows3 w' w.heap.size d v0 v1 v2)∧Below w.heap.size w w'):=fun w h => l05Own_any d a0 a1 a2 c0 c1 c2 (by have:=hd.nb2; omega) (by have:=hd.nc; omega) (by have:=hd.ns; have:=hd.nb2; omega) z0 z1 z2 w h
 have ZC:Hid ((a0 = none→c0 = 0)∧(a2 = none→c2 = 0)):=⟨z0,z2⟩
 have G0:w.heap.size + 3≤(((w.alloc (.cells #[.slice a0 d.nb c0,.slice a1 d.nc c1,.slice a2 d.ns c2] 25)).alloc (.cells #[.int .i64 1,.int .i64 a.x,.string a.s,.slice ak a.nk ck,.int .i64 a.t] 53)).alloc (.cells #[.slice none 0 0,.slice none 0 0,.slice none 0 0] 25)).heap.size:=by simp
 rw [f,g]
 clear h A1 z0 z1 z2 f g
 go_enter Tryz.func40,Tryz.ntmps40
 go_wp2_with fail
 refine (Calls.mono (IN.out _)) ?_
 rintro e w1 ⟨rfl,rfl⟩
 go_wp2_with fail
 have Z1:(((w.alloc (.cells #[.slice a0 d.nb c0,.slice a1 d.nc c1,.slice a2 d.ns c2] 25)).alloc (.cells #[.int .i64 1,.int .i64 a.x,.string a.s,.slice ak a.nk ck,.int .i64 a.t] 53)).alloc (.cells #[.slice none 0 0,.slice none 0 0,.slice none 0 0] 25)).cell? ⟨w.heap.size + 1,1,none⟩ = some (.int .i64 a.x)∧(((w.alloc (.cells #[.slice a0 d.nb c0,.slice a1 d.nc c1,.slice a2 d.ns c2] 25)).alloc (.cells #[.int .i64 1,.int .i64 a.x,.string a.s,.slice ak a.nk ck,.int .i64 a.t] 53)).alloc (.cells #[.slice none 0 0,.slice none 0 0,.slice none 0 0] 25)).cell? ⟨w.heap.size + 1,2,none⟩ = some (.string a.s):=actCells w _ _ _ _ _ _ _
 generalize (((w.alloc (.cells #[.slice a0 d.nb c0,.slice a1 d.nc c1,.slice a2 d.ns c2] 25)).alloc (.cells #[.int .i64 1,.int .i64 a.x,.string a.s,.slice ak a.nk ck,.int .i64 a.t] 53)).alloc (.cells #[.slice none 0 0,.slice none 0 0,.slice none 0 0] 25)) = u at *
 refine (OW.out _ (DV.out.below AA1.out)).mono ?_
 rintro e w1 ⟨⟨v0,v1,v2,rfl,hR⟩,hb⟩
 obtain ⟨i0,k0,rfl,-⟩:=hR.t0.form
 obtain ⟨i1,k1,rfl,-⟩:=hR.t1.form
 obtain ⟨i2,k2,rfl,-⟩:=hR.t2.form
 have B1:Below w.heap.size w w1:=AA1.out.trans (hb.mono AA1.out.size)
 have G1:=hb.size
 have L0:∀ g,(Value.slice i0 d.nb k0).ownBlock = some g→u.heap.size≤g∧g < w1.heap.size:=fun g e => World.ownsRow.lt hR.t0 g e
 have L1:∀ g,(Value.slice i1 d.nc k1).ownBlock = some g→u.heap.size≤g∧g < w1.heap.size:=fun g e => World.ownsRow.lt hR.t1 g e
 have L2:∀ g,(Value.slice i2 d.ns k2).ownBlock = some g→u.heap.size≤g∧g < w1.heap.size:=fun g e => World.ownsRow.lt hR.t2 g e
 have bZ:Below w1.heap.size w1 (w1.alloc (.cells #[.slice i0 d.nb k0,.slice i1 d.nc k1,.slice i2 d.ns k2] 25)):=(Below.refl _ _).alloc (Nat.le_refl _) _
 have bY:Below (w1.alloc (.cells #[.slice i0 d.nb k0,.slice i1 d.nc k1,.slice i2 d.ns k2] 25)).heap.size (w1.alloc (.cells #[.slice i0 d.nb k0,.slice i1 d.nc k1,.slice i2 d.ns k2] 25)) ((w1.alloc (.cells #[.slice i0 d.nb k0,.slice i1 d.nc k1,.slice i2 d.ns k2] 25)).alloc (.cells #[.int .i64 a.x,.string a.s] 60)):=(Below.refl _ _).alloc (Nat.le_refl _) _
 have s1:(w1.alloc (.cells #[.slice i0 d.nb k0,.slice i1 d.nc k1,.slice i2 d.ns k2] 25)).heap.size = w1.heap.size + 1:=by simp
 have s2:((w1.alloc (.cells #[.slice i0 d.nb k0,.slice i1 d.nc k1,.slice i2 d.ns k2] 25)).alloc (.cells #[.int .i64 a.x,.string a.s] 60)).heap.size = w1.heap.size + 2:=by simp
 have ZB:Box3 ((w1.alloc (.cells #[.slice i0 d.nb k0,.slice i1 d.nc k1,.slice i2 d.ns k2] 25)).alloc (.cells #[.int .i64 a.x,.string a.s] 60)) w1.heap.size 25 (.slice i0 d.nb k0) (.slice i1 d.nc k1) (.slice i2 d.ns k2):=(Box3.made w1 _ _ _ _).below bY
 have X2:=((X0.out.below hb).below bZ).below bY
 have Y2:=((Y0.out.below hb).below bZ).below bY
 have R2:=(hR.below bZ).below bY
 have B2:Below w.heap.size w ((w1.alloc (.cells #[.slice i0 d.nb k0,.slice i1 d.nc k1,.slice i2 d.ns k2] 25)).alloc (.cells #[.int .i64 a.x,.string a.s] 60)):=(B1.trans (bZ.mono B1.size)).trans (bY.mono (by omega))
 have PS:Pens ((w1.alloc (.cells #[.slice i0 d.nb k0,.slice i1 d.nc k1,.slice i2 d.ns k2] 25)).alloc (.cells #[.int .i64 a.x,.string a.s] 60)) (some ⟨w1.heap.size + 1,0,none⟩) 1 (fun _ => a.x) (fun _ => a.s):=fun i hi => ⟨w1.heap.size + 1,0,rfl,by (obtain rfl:i = 0:=by omega); exact cell_alloc_at s1 _ _ 0,by (obtain rfl:i = 0:=by omega); exact cell_alloc_at s1 _ _ 1⟩
 obtain ⟨v3,u3,hr,ho,hg,hloc⟩:=appPn ((w1.alloc (.cells #[.slice i0 d.nb k0,.slice i1 d.nc k1,.slice i2 d.ns k2] 25)).alloc (.cells #[.int .i64 a.x,.string a.s] 60)) u.heap.size (.slice i1 d.nc k1) d.nc d.A d.D (some ⟨w1.heap.size + 1,0,none⟩) 1 1 (fun _ => a.x) (fun _ => a.s) 23 (by omega) (by omega) R2.t1 PS (fun e => by cases e)
 obtain ⟨i3,k3,rfl,-⟩:=ho.form
 have hv3:∀ g,(Value.slice i3 (d.nc + 1) k3).ownBlock = some g→(Value.slice i1 d.nc k1).ownBlock = some g∨g = w1.heap.size + 2:=fun g e => hloc.elim (fun q => .inl (q.symm.trans e)) (fun q => .inr (by have:=Option.some.inj (e.symm.trans q); omega))
 have xl:w.heap.size + 2 < w1.heap.size:=by omega
 have keep:∀ g,g < ((w1.alloc (.cells #[.slice i0 d.nb k0,.slice i1 d.nc k1,.slice i2 d.ns k2] 25)).alloc (.cells #[.int .i64 a.x,.string a.s] 60)).heap.size→(Value.slice i1 d.nc k1).ownBlock≠some g→u3.heap[g]? = ((w1.alloc (.cells #[.slice i0 d.nb k0,.slice i1 d.nc k1,.slice i2 d.ns k2] 25)).alloc (.cells #[.int .i64 a.x,.string a.s] 60)).heap[g]?:=fun g h1 h2 => hg.block g h1 (fun e => h2 e.symm)
 have ZB3:=ZB.ofBlock (keep w1.heap.size (by omega) (fun e => by have:=L1 _ e; omega))
 have X3:=X2.ofBlock (keep (w.heap.size + 2) (by omega) (fun e => by have:=L1 _ e; omega))
 have B3:Below w.heap.size w u3:=B2.trans ⟨hg.os,hg.tape,hg.output,hg.size,fun k hk => keep k (by omega) ((fun k hk e => by have:=L1 _ e; omega) k hk)⟩
 have OZ:OnlyB w1.heap.size u3 (u3.setCell ⟨w1.heap.size,1,none⟩ (.slice i3 (d.nc + 1) k3)):=(OnlyB.refl _ u3).setCell 1 _
 have OX:OnlyB (w.heap.size + 2) (u3.setCell ⟨w1.heap.size,1,none⟩ (.slice i3 (d.nc + 1) k3)) ((((u3.setCell ⟨w1.heap.size,1,none⟩ (.slice i3 (d.nc + 1) k3)).setCell ⟨w.heap.size + 2,0,none⟩ (.slice i0 d.nb k0)).setCell ⟨w.heap.size + 2,1,none⟩ (.slice i3 (d.nc + 1) k3)).setCell ⟨w.heap.size + 2,2,none⟩ (.slice i2 d.ns k2)):=(((OnlyB.refl _ _).setCell 0 _).setCell 1 _).setCell 2 _
 have X5:Hid (Box3 ((((u3.setCell ⟨w1.heap.size,1,none⟩ (.slice i3 (d.nc + 1) k3)).setCell ⟨w.heap.size + 2,0,none⟩ (.slice i0 d.nb k0)).setCell ⟨w.heap.size + 2,1,none⟩ (.slice i3 (d.nc + 1) k3)).setCell ⟨w.heap.size + 2,2,none⟩ (.slice i2 d.ns k2)) (w.heap.size + 2) 25 (.slice i0 d.nb k0) (.slice i3 (d.nc + 1) k3) (.slice i2 d.ns k2)):=(((X3.ofBlock (OZ.block _ X3.lt (by omega))).set0 _).set1 _).set2 _
 have R5:Hid (Rows3 ((((u3.setCell ⟨w1.heap.size,1,none⟩ (.slice i3 (d.nc + 1) k3)).setCell ⟨w.heap.size + 2,0,none⟩ (.slice i0 d.nb k0)).setCell ⟨w.heap.size + 2,1,none⟩ (.slice i3 (d.nc + 1) k3)).setCell ⟨w.heap.size + 2,2,none⟩ (.slice i2 d.ns k2)) u.heap.size (d.written a.x a.s) (.slice i0 d.nb k0) (.slice i3 (d.nc + 1) k3) (.slice i2 d.ns k2)):=⟨(ownsRow_block R2.t0 (fun g e => keep g (by have:=L0 g e; omega) (hR.n01 g e)) |> fun T => (TxR.onlyB (show TxR u3 u.heap.size _ d.nb d.B from T) OZ (fun e => by have:=L0 _ e; omega)).onlyB OX (fun e => by have:=L0 _ e; omega)),(ho.onlyB OZ (fun e => (hv3 _ e).elim (fun q => by have:=L1 _ q; omega) (by omega))).onlyB OX (fun e => (hv3 _ e).elim (fun q => by have:=L1 _ q; omega) (by omega)),(ownsRow_block R2.t2 (fun g e => keep g (by have:=L2 g e; omega) (fun q => hR.n12 g q e)) |> fun T => (TxR.onlyB (show TxR u3 u.heap.size _ d.ns d.S from T) OZ (fun e => by have:=L2 _ e; omega)).onlyB OX (fun e => by have:=L2 _ e; omega)),fun g e1 e2 => (hv3 g e2).elim (hR.n01 g e1) (fun q => by have:=L0 g e1; omega),hR.n02,fun g e1 e2 => (hv3 g e1).elim (fun q => hR.n12 g q e2) (fun q => by have:=L2 g e2; omega)⟩
 have B5:Hid (Below w.heap.size w ((((u3.setCell ⟨w1.heap.size,1,none⟩ (.slice i3 (d.nc + 1) k3)).setCell ⟨w.heap.size + 2,0,none⟩ (.slice i0 d.nb k0)).setCell ⟨w.heap.size + 2,1,none⟩ (.slice i3 (d.nc + 1) k3)).setCell ⟨w.heap.size + 2,2,none⟩ (.slice i2 d.ns k2))):=by
  have q1:=B3.trans (OZ.toBelow (B:=w.heap.size) (by omega) B3.size)
  exact q1.trans (OX.toBelow (B:=w.heap.size) (by omega) q1.size)
 have HRn:=hr
 have e0:=ZB3.c0
 have e1:=ZB3.c1
 have e2:=ZB3.c2
 have fz:=ZB3.fr 1
 have x0:=X3.c0
 have x1:=X3.c1
 have x2:=X3.c2
 have f0:=X3.fr 0
 have f1:=X3.fr 1
 have f2:=X3.fr 2
 have HA:Hid (_ = _):=hr
 have z9:=(hb.cell (strBlock Z1.1)).trans Z1.1
 have z10:=(hb.cell (strBlock Z1.2)).trans Z1.2
 have zl:w.heap.size + 1 < w1.heap.size:=by omega
 clear hr HRn OZ OX keep hg ho hloc R2 ZB3 X3 B3 ZB B2 L0 L1 L2 hR hb B1 bZ bY X2 Y2 X0 Y0 AA1 OW DV
 go_wp2_with (at_builtin; refine Lib.wpList_append_run _ rfl (.tmp 54) (.tmp 60) _ _ rfl _ _ rfl rfl _ _ HA.out ?_)
 generalize ((((u3.setCell ⟨w1.heap.size,1,none⟩ (.slice i3 (d.nc + 1) k3)).setCell ⟨w.heap.size + 2,0,none⟩ (.slice i0 d.nb k0)).setCell ⟨w.heap.size + 2,1,none⟩ (.slice i3 (d.nc + 1) k3)).setCell ⟨w.heap.size + 2,2,none⟩ (.slice i2 d.ns k2)) = u5 at *
 have y0:=X5.out.c0
 have y1:=X5.out.c1
 have y2:=X5.out.c2
 obtain ⟨j0,j1,j2,l0,l1,l2,e0',e1',e2',hv,q0,q1,q2⟩:=R5.out.diskV
 cases e0'
 cases e1'
 cases e2'
 clear e0 e1 e2 fz x0 x1 x2 f0 f1 f2
 exact ret_cell2 (b:=w.heap.size + 2) (v:=.agg #[.slice i0 d.nb k0,.slice i3 (d.nc + 1) k3,.slice i2 d.ns k2]) Tryz.results40 rfl rfl (by go_simp) ⟨⟨_,_,_,_,_,_,rfl,hv,q0,q1,q2,R5.out.fr0 (by omega),R5.out.fr1 (by omega),R5.out.fr2 (by omega)⟩,B5.out⟩
end Go.Proofs.YtcpjeopnhgoonaaGreatDoor
