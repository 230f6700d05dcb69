/-
  Texts of the proof, joined.
-/
import Derived.Test.YtcpjeopnhgoonaaGreatDoorF34
namespace Go.Proofs.YtcpjeopnhgoonaaGreatDoor
open Go.ChangeShapes Go.WideShapes Go.ChangeAt Go.RowKit
set_option linter.unusedVariables false
def tornN (data:ByteArray) (t:Int):Nat:=min t.toNat data.size
def tornB (old data:ByteArray) (t:Int):ByteArray:=data.extract 0 (tornN data t) ++ old.extract (min (tornN data t) old.size) old.size
theorem tornB_size (old data:ByteArray) (t:Int) (h1:old.size≤200) (h2:data.size≤200):(tornB old data t).size≤200:=by
 unfold tornB
 have:tornN data t≤data.size:=Nat.min_le_right _ _
 simp only [ByteArray.size_append,ByteArray.size_extract]
 omega
def crF (d:Dk) (nk:Nat) (K:Nat→Bool) (t:Int):Nat→(Nat→ByteArray) × Bool
 | 0 => (d.B,true)
 | k + 1 => if k < nk∧K k = true then (fun i => if i = (d.A k).toNat then d.D k else (crF d nk K t k).1 i,(crF d nk K t k).2)
  else if (crF d nk K t k).2 = true then (fun i => if i = (d.A k).toNat then tornB ((crF d nk K t k).1 (d.A k).toNat) (d.D k) t else (crF d nk K t k).1 i,false)
  else crF d nk K t k
theorem crF_size (d:Dk) (nk:Nat) (K:Nat→Bool) (t:Int) (hB:∀ i,i < d.nb→(d.B i).size≤200) (hD:∀ i,i < d.nc→(d.D i).size≤200) (hA:∀ i,i < d.nc→0≤d.A i∧d.A i < d.nb):∀ k,k≤d.nc→∀ i,i < d.nb→((crF d nk K t k).1 i).size≤200
 | 0,_,i,hi => hB i hi
 | k + 1,hk,i,hi => by
  have ih:=crF_size d nk K t hB hD hA k (by omega)
  have ha:=hA k (by omega)
  unfold crF
  split
  ·show (if i = (d.A k).toNat then d.D k else (crF d nk K t k).1 i).size≤200
   split
   ·exact hD k (by omega)
   ·exact ih i hi
  ·split
   ·show (if i = (d.A k).toNat then tornB ((crF d nk K t k).1 (d.A k).toNat) (d.D k) t else (crF d nk K t k).1 i).size≤200
    split
    ·exact tornB_size _ _ _ (ih _ (by omega)) (hD k (by omega))
    ·exact ih i hi
   ·exact ih i hi
def Dk.crashed (d:Dk) (nk:Nat) (K:Nat→Bool) (t:Int):Dk:=⟨d.nb,(crF d nk K t d.nc).1,0,d.A,d.D,d.ns,d.S⟩
theorem PnR.pos {w:World} {B:Nat} {v:Value} {n:Nat} {A:Nat→Int} {D:Nat→ByteArray} (h:PnR w B v n A D) (hn:0 < n):∃ g c,v = .slice (some ⟨g,0,none⟩) n c∧RowP w (some ⟨g,0,none⟩) g n A D∧B≤g∧n≤c∧g < w.heap.size:=by
 obtain ⟨a,c,rfl,r,hB,-,hc⟩:=h.form
 have e:=r.a hn
 have hlt:rowOf (.slice a n c) < w.heap.size:=strBlock (r.c 0 hn)
 cases a with
 | none => cases e
 | some ad =>
  have e2:ad = ⟨ad.block,0,none⟩:=by
   have h1:ad = ⟨rowOf (.slice (some ad) n c),0,none⟩:=Option.some.inj e
   exact h1
  obtain ⟨g,rfl⟩:∃ g,ad = ⟨g,0,none⟩:=⟨_,e2⟩
  exact ⟨g,c,rfl,r,hB hn,hc,hlt⟩
structure Ac where
 kd:Int
 x:Int
 s:ByteArray
 nk:Nat
 K:Nat→Bool
 t:Int
def Dk.saved (d:Dk):Dk:=⟨d.nb,d.B,d.nc,d.A,d.D,d.nb,d.B⟩
def Dk.fault (d:Dk) (a:Ac):Nat :=
 if a.kd = 1 then if 0≤a.x∧a.x < d.nb then if 200 < a.s.size then 2 else if 4096≤d.nc then 3 else 0 else 1
 else if a.kd = 2∨a.kd = 3∨a.kd = 4 then 0
 else if a.kd = 5 then if d.ns = 0 then 4 else 0
 else if a.kd = 6 then if 0≤a.x∧a.x < d.nb then if 200 < a.s.size then 2 else 0 else 1
 else 5
def Dk.acted (d:Dk) (a:Ac):Dk :=
 if a.kd = 1 then d.written a.x a.s else if a.kd = 2 then d.synced else if a.kd = 3 then d.crashed a.nk a.K a.t else if a.kd = 4 then d.saved else if a.kd = 5 then d.rolled else d.tampered a.x.toNat a.s
def Dk.done (d:Dk) (a:Ac):Dk:=if d.fault a = 0 then d.acted a else d
def faultP (p0 p1 p2 p3 p4:Addr):Nat→Value
 | 0 => .nilIface
 | 1 => .iface 290 (.pointer (some p0))
 | 2 => .iface 290 (.pointer (some p1))
 | 3 => .iface 290 (.pointer (some p2))
 | 4 => .iface 290 (.pointer (some p3))
 | _ => .iface 290 (.pointer (some p4))
def DoPostK (B q b:Nat) (d:Dk) (a:Ac) (p0 p1 p2 p3 p4:Addr) (v0 v1 v2:Value) (w:World) (e:Ending) (w':World):Prop:=e = .returned (faultP p0 p1 p2 p3 p4 (d.fault a))∧(∃ u0 u1 u2,Drv w' B q b (d.done a) u0 u1 u2∧KpD q b v0 v1 v2 u0 u1 u2 w w')∧Below B w w'
set_option maxRecDepth 100000 in
set_option maxHeartbeats 2000000 in
theorem do_write (B q b:Nat) (d:Dk) (a:Ac) (v0 v1 v2:Value) (ak:Option Addr) (ck:Nat) (p0 p1 p2 p3 p4:Addr) (hd:d.Ok) (w:World) (hBw:B≤w.heap.size) (hE:Errs w p0 p1 p2 p3 p4) (h:Drv w B q b d v0 v1 v2) (hk:a.kd = 1) :
  Calls Tryz.prog 48 #[.pointer (some ⟨q,0,none⟩),.agg #[.int .i64 1,.int .i64 a.x,.string a.s,.slice ak a.nk ck,.int .i64 a.t]] w (DoPostK B q b d a p0 p1 p2 p3 p4 v0 v1 v2 w):=by
 have bA:Below w.heap.size w (w.alloc (.cells #[.int .i64 1,.int .i64 a.x,.string a.s,.slice ak a.nk ck,.int .i64 a.t] 53)):=(Below.refl _ _).alloc (Nat.le_refl _) _
 have bB:Hid (Below B w (w.alloc (.cells #[.int .i64 1,.int .i64 a.x,.string a.s,.slice ak a.nk ck,.int .i64 a.t] 53))):=bA.mono hBw
 have bA0:Hid (Below w.heap.size w (w.alloc (.cells #[.int .i64 1,.int .i64 a.x,.string a.s,.slice ak a.nk ck,.int .i64 a.t] 53))):=bA
 have H1:=h.below bA
 have E1:=hE.below bA
 have hB1:B≤(w.alloc (.cells #[.int .i64 1,.int .i64 a.x,.string a.s,.slice ak a.nk ck,.int .i64 a.t] 53)).heap.size:=Nat.le_trans hBw bA.size
 have CC:Hid (Calls Tryz.prog 72 #[.pointer (some ⟨q,0,none⟩),.int .i64 a.x,.string a.s] (w.alloc (.cells #[.int .i64 1,.int .i64 a.x,.string a.s,.slice ak a.nk ck,.int .i64 a.t] 53)) fun e w' => e = .returned (faultP p0 p1 p2 p3 p4 (d.fault a))∧(∃ u0 u1 u2,Drv w' B q b (d.done a) u0 u1 u2∧KpD q b v0 v1 v2 u0 u1 u2 (w.alloc (.cells #[.int .i64 1,.int .i64 a.x,.string a.s,.slice ak a.nk ck,.int .i64 a.t] 53)) w')∧Below B (w.alloc (.cells #[.int .i64 1,.int .i64 a.x,.string a.s,.slice ak a.nk ck,.int .i64 a.t] 53)) w'):=by
  by_cases hx:0≤a.x∧a.x < d.nb
  ·by_cases hs:200 < a.s.size
   ·have f:d.fault a = 2:=by unfold Dk.fault; simp only [hk]; simp [hx,hs]
    have g:d.done a = d:=by unfold Dk.done; rw [f]; rfl
    rw [f,g]
    exact (write_no B q b d v0 v1 v2 a.x a.s p1 _ H1 p0 p1 E1.e0 E1.e1 (.inr ⟨hx.1,hx.2,hs,rfl⟩)).mono (fun e w' ⟨q1,q2⟩ => ⟨q1,⟨_,_,_,H1.below q2,KpD.same q2⟩,q2.mono hB1⟩)
   ·by_cases hc:4096≤d.nc
    ·have f:d.fault a = 3:=by unfold Dk.fault; simp only [hk]; simp [hx,hs,hc]
     have g:d.done a = d:=by unfold Dk.done; rw [f]; rfl
     rw [f,g]
     have hxe:((a.x.toNat:Nat):Int) = a.x:=by omega
     have key:=write_full B q b d v0 v1 v2 a.x.toNat a.s (by omega) (by omega) hc p2 _ H1 E1.e2
     rw [hxe] at key
     exact key.mono (fun e w' ⟨q1,q2⟩ => ⟨q1,⟨_,_,_,H1.below q2,KpD.same q2⟩,q2.mono hB1⟩)
    ·have f:d.fault a = 0:=by unfold Dk.fault; simp only [hk]; simp [hx,hs,hc]
     have g:d.done a = d.written a.x a.s:=by unfold Dk.done; rw [f]; unfold Dk.acted; simp [hk]
     rw [f,g]
     have hxe:((a.x.toNat:Nat):Int) = a.x:=by omega
     have key:=write_yesK B q b d v0 v1 v2 a.x.toNat a.s (by omega) (by omega) (by omega) _ hB1 H1
     rw [hxe] at key
     exact key.mono (fun e w' ⟨q1,⟨v,q2,q4⟩,q3⟩ => ⟨q1,⟨_,_,_,q2,q4⟩,q3⟩)
  ·have f:d.fault a = 1:=by unfold Dk.fault; simp only [hk]; simp [hx]
   have g:d.done a = d:=by unfold Dk.done; rw [f]; rfl
   rw [f,g]
   exact (write_no B q b d v0 v1 v2 a.x a.s p0 _ H1 p0 p1 E1.e0 E1.e1 (.inl ⟨hx,rfl⟩)).mono (fun e w' ⟨q1,q2⟩ => ⟨q1,⟨_,_,_,H1.below q2,KpD.same q2⟩,q2.mono hB1⟩)
 clear H1 E1 bA h hE
 go_enter Tryz.func48,Tryz.ntmps48
 go_wp2_with fail
 refine (Calls.mono CC.out) ?_
 rintro e w1 ⟨rfl,hv,hb⟩
 have HV:Hid (∃ u0 u1 u2,Drv w1 B q b (d.done a) u0 u1 u2∧KpD q b v0 v1 v2 u0 u1 u2 w w1):=by
  obtain ⟨u0,u1,u2,k1,k2⟩:=hv
  exact ⟨u0,u1,u2,k1,(KpD.same bA0.out).trans bA0.out.size k2⟩
 have HB:Hid (Below B w w1):=bB.out.trans hb
 clear hv hb CC bB bA0
 go_wp2
 go_ret
 exact ⟨rfl,HV.out,HB.out⟩
set_option maxRecDepth 100000 in
set_option maxHeartbeats 2000000 in
theorem do_sync (B q b:Nat) (d:Dk) (a:Ac) (v0 v1 v2:Value) (ak:Option Addr) (ck:Nat) (p0 p1 p2 p3 p4:Addr) (hd:d.Ok) (w:World) (hBw:B≤w.heap.size) (hE:Errs w p0 p1 p2 p3 p4) (h:Drv w B q b d v0 v1 v2) (hk:a.kd = 2) :
  Calls Tryz.prog 48 #[.pointer (some ⟨q,0,none⟩),.agg #[.int .i64 2,.int .i64 a.x,.string a.s,.slice ak a.nk ck,.int .i64 a.t]] w (DoPostK B q b d a p0 p1 p2 p3 p4 v0 v1 v2 w):=by
 have bA:Below w.heap.size w (w.alloc (.cells #[.int .i64 2,.int .i64 a.x,.string a.s,.slice ak a.nk ck,.int .i64 a.t] 53)):=(Below.refl _ _).alloc (Nat.le_refl _) _
 have bB:Hid (Below B w (w.alloc (.cells #[.int .i64 2,.int .i64 a.x,.string a.s,.slice ak a.nk ck,.int .i64 a.t] 53))):=bA.mono hBw
 have bA0:Hid (Below w.heap.size w (w.alloc (.cells #[.int .i64 2,.int .i64 a.x,.string a.s,.slice ak a.nk ck,.int .i64 a.t] 53))):=bA
 have H1:=h.below bA
 have E1:=hE.below bA
 have hB1:B≤(w.alloc (.cells #[.int .i64 2,.int .i64 a.x,.string a.s,.slice ak a.nk ck,.int .i64 a.t] 53)).heap.size:=Nat.le_trans hBw bA.size
 have f:d.fault a = 0:=by unfold Dk.fault; simp [hk]
 have g:d.done a = d.synced:=by unfold Dk.done; rw [f]; unfold Dk.acted; simp [hk]
 have CC:Hid (Calls Tryz.prog 73 #[.pointer (some ⟨q,0,none⟩)] (w.alloc (.cells #[.int .i64 2,.int .i64 a.x,.string a.s,.slice ak a.nk ck,.int .i64 a.t] 53)) fun e w' => e = .returned (.tuple #[])∧Drv w' B q b (d.synced) v0 (.slice none 0 0) v2∧Below B (w.alloc (.cells #[.int .i64 2,.int .i64 a.x,.string a.s,.slice ak a.nk ck,.int .i64 a.t] 53)) w'∧KpD q b v0 v1 v2 v0 (.slice none 0 0) v2 (w.alloc (.cells #[.int .i64 2,.int .i64 a.x,.string a.s,.slice ak a.nk ck,.int .i64 a.t] 53)) w'):=sync_anyK B q b d v0 v1 v2 (fun i hi => (hd.C i hi).1) hd.nb2 _ hB1 H1
 clear H1 E1 bA h hE
 go_enter Tryz.func48,Tryz.ntmps48
 go_wp2_with fail
 refine (Calls.mono CC.out) ?_
 rintro e w1 ⟨rfl,hv,hb,hkp⟩
 have HP:Hid (DoPostK B q b d a p0 p1 p2 p3 p4 v0 v1 v2 w (.returned .nilIface) w1):=⟨by rw [f]; rfl,⟨_,_,_,by rw [g]; exact hv,(KpD.same bA0.out).trans bA0.out.size hkp⟩,bB.out.trans hb⟩
 clear hv hb hkp CC bB bA0 f g
 go_wp2
 go_ret
 exact HP.out
structure Rows3 (w:World) (B:Nat) (d:Dk) (v0 v1 v2:Value):Prop where
 t0:TxR w B v0 d.nb d.B
 t1:PnR w B v1 d.nc d.A d.D
 t2:TxR w B v2 d.ns d.S
 n01:∀ g,v0.ownBlock = some g→v1.ownBlock≠some g
 n02:∀ g,v0.ownBlock = some g→v2.ownBlock≠some g
 n12:∀ g,v1.ownBlock = some g→v2.ownBlock≠some g
theorem Rows3.below {w w':World} {B:Nat} {d:Dk} {v0 v1 v2:Value} (h:Rows3 w B d v0 v1 v2) (hb:Below w.heap.size w w'):Rows3 w' B d v0 v1 v2:=⟨h.t0.below hb,h.t1.below hb,h.t2.below hb,h.n01,h.n02,h.n12⟩
set_option maxRecDepth 100000 in
set_option maxHeartbeats 4000000 in
theorem copiedDisk_any (d:Dk) (a0 a1 a2:Option Addr) (c0 c1 c2:Nat) (h0:d.nb≤64) (h1:d.nc≤4096) (h2:d.ns≤64) (z0:a0 = none→c0 = 0) (z1:a1 = none→c1 = 0) (z2:a2 = none→c2 = 0) (w:World) (h:DiskV w d a0 a1 a2) :
  Calls Tryz.prog 26 #[.agg #[.slice a0 d.nb c0,.slice a1 d.nc c1,.slice a2 d.ns c2]] w fun e w' => (∃ v0 v1 v2,e = .returned (.agg #[v0,v1,v2])∧Rows3 w' w.heap.size d v0 v1 v2)∧Below w.heap.size w w':=by
 have CB:Hid (∀ (w:World),Strs w a0 d.nb d.B→Calls Tryz.prog 46 #[.slice a0 d.nb c0] w fun e w' => (∃ v,e = .returned v∧TxR w' w.heap.size v d.nb d.B)∧Below w.heap.size w w'):=fun w h => copiedBlocks_any _ _ _ _ (by omega) z0 w h
 have CS:Hid (∀ (w:World),Strs w a2 d.ns d.S→Calls Tryz.prog 46 #[.slice a2 d.ns c2] w fun e w' => (∃ v,e = .returned v∧TxR w' w.heap.size v d.ns d.S)∧Below w.heap.size w w'):=fun w h => copiedBlocks_any _ _ _ _ (by omega) z2 w h
 have DV:Hid (DiskV w d a0 a1 a2):=h
 clear h
 go_enter Tryz.func26,Tryz.ntmps26
 go_wp2_with fail
 have A0:Below w.heap.size w ((w.alloc (.cells #[.slice a0 d.nb c0,.slice a1 d.nc c1,.slice a2 d.ns c2] 25)).alloc (.cells #[.slice none 0 0,.slice none 0 0,.slice none 0 0] 25)):=((Below.refl _ _).alloc (Nat.le_refl _) _).alloc (by simp) _
 have D0:Hid (DiskV ((w.alloc (.cells #[.slice a0 d.nb c0,.slice a1 d.nc c1,.slice a2 d.ns c2] 25)).alloc (.cells #[.slice none 0 0,.slice none 0 0,.slice none 0 0] 25)).drew d a0 a1 a2):=DV.out.below A0.drew
 have B0:Hid (Below w.heap.size w ((w.alloc (.cells #[.slice a0 d.nb c0,.slice a1 d.nc c1,.slice a2 d.ns c2] 25)).alloc (.cells #[.slice none 0 0,.slice none 0 0,.slice none 0 0] 25)).drew):=A0.drew
 have X0:Hid (Box3 ((w.alloc (.cells #[.slice a0 d.nb c0,.slice a1 d.nc c1,.slice a2 d.ns c2] 25)).alloc (.cells #[.slice none 0 0,.slice none 0 0,.slice none 0 0] 25)).drew (w.heap.size + 1) 25 (.slice none 0 0) (.slice none 0 0) (.slice none 0 0)):=(Box3.madeAt (w:=w.alloc (.cells #[.slice a0 d.nb c0,.slice a1 d.nc c1,.slice a2 d.ns c2] 25)) (by simp) _ _ _ _).below (Below.refl _ _).drew
 have H:((w.alloc (.cells #[.slice a0 d.nb c0,.slice a1 d.nc c1,.slice a2 d.ns c2] 25)).alloc (.cells #[.slice none 0 0,.slice none 0 0,.slice none 0 0] 25)).drew.cell? ⟨w.heap.size,0,none⟩ = some (.slice a0 d.nb c0)∧((w.alloc (.cells #[.slice a0 d.nb c0,.slice a1 d.nc c1,.slice a2 d.ns c2] 25)).alloc (.cells #[.slice none 0 0,.slice none 0 0,.slice none 0 0] 25)).drew.cell? ⟨w.heap.size,1,none⟩ = some (.slice a1 d.nc c1)∧((w.alloc (.cells #[.slice a0 d.nb c0,.slice a1 d.nc c1,.slice a2 d.ns c2] 25)).alloc (.cells #[.slice none 0 0,.slice none 0 0,.slice none 0 0] 25)).drew.cell? ⟨w.heap.size,2,none⟩ = some (.slice a2 d.ns c2):=by refine ⟨?_,?_,?_⟩ <;> simp
 have G0:w.heap.size + 2≤((w.alloc (.cells #[.slice a0 d.nb c0,.slice a1 d.nc c1,.slice a2 d.ns c2] 25)).alloc (.cells #[.slice none 0 0,.slice none 0 0,.slice none 0 0] 25)).drew.heap.size:=by simp
 clear A0 DV
 refine wp_region_noPanic ?_
 refine wp_region_held_drew (S:=fun w' => w'.cell? ⟨w.heap.size,0,none⟩ = some (.slice a0 d.nb c0)∧w'.cell? ⟨w.heap.size,1,none⟩ = some (.slice a1 d.nc c1)∧w'.cell? ⟨w.heap.size,2,none⟩ = some (.slice a2 d.ns c2)) (by kernel_rfl) H (fun _ => ?_)
 generalize ((w.alloc (.cells #[.slice a0 d.nb c0,.slice a1 d.nc c1,.slice a2 d.ns c2] 25)).alloc (.cells #[.slice none 0 0,.slice none 0 0,.slice none 0 0] 25)).drew = u1 at *
 refine tkH (i:=0) (v:=.pointer (some ⟨w.heap.size,0,none⟩)) rfl (by kernel_rfl) (by rfl) ?_ H ?_
 ·intro w' hSw; go_simp
 refine ch13 ?_
 refine tkH (i:=1) (v:=.slice a0 d.nb c0) rfl (by kernel_rfl) (by rfl) ?_ H ?_
 ·intro w' hSw; have t0:=hSw.1; have t1:=hSw.2.1; have t2:=hSw.2.2; clear hSw; go_simp
 refine ch13 ?_
 refine tkH (i:=3) (v:=.pointer (some ⟨w.heap.size,1,none⟩)) rfl (by kernel_rfl) (by rfl) ?_ H ?_
 ·intro w' hSw; go_simp
 refine ch13 ?_
 refine tkH (i:=4) (v:=.slice a1 d.nc c1) rfl (by kernel_rfl) (by rfl) ?_ H ?_
 ·intro w' hSw; have t0:=hSw.1; have t1:=hSw.2.1; have t2:=hSw.2.2; clear hSw; go_simp
 refine ch13 ?_
 refine tkH (i:=6) (v:=.pointer (some ⟨w.heap.size,2,none⟩)) rfl (by kernel_rfl) (by rfl) ?_ H ?_
 ·intro w' hSw; go_simp
 refine ch13 ?_
 refine tkH (i:=7) (v:=.slice a2 d.ns c2) rfl (by kernel_rfl) (by rfl) ?_ H ?_
 ·intro w' hSw; have t0:=hSw.1; have t1:=hSw.2.1; have t2:=hSw.2.2; clear hSw; go_simp
 refine ch13 ?_
 refine wpAnyH_ready (rs:=[2]) (by kernel_rfl) (by simp) ?_
 refine AllReadyH.cons rfl (fun KK hK => ?_) AllReadyH.nil
 go_simp
 refine (CB.out _ D0.out.1).mono ?_
 rintro e u2 ⟨⟨v0,rfl,hv0⟩,hb⟩
 obtain ⟨i0,k0,rfl,-⟩:=hv0.form
 have H':u2.cell? ⟨w.heap.size,0,none⟩ = some (.slice a0 d.nb c0)∧u2.cell? ⟨w.heap.size,1,none⟩ = some (.slice a1 d.nc c1)∧u2.cell? ⟨w.heap.size,2,none⟩ = some (.slice a2 d.ns c2):=⟨(hb.cell (strBlock H.1)).trans H.1,(hb.cell (strBlock H.2.1)).trans H.2.1,(hb.cell (strBlock H.2.2)).trans H.2.2⟩
 replace H:=H'; clear H'
 have D1:Hid (DiskV u2 d a0 a1 a2):=D0.out.below hb
 have B1:Hid (Below w.heap.size w u2):=B0.out.trans (hb.mono B0.out.size)
 have X1:Hid (Box3 u2 (w.heap.size + 1) 25 (.slice none 0 0) (.slice none 0 0) (.slice none 0 0)):=X0.out.below hb
 have V0:Hid (TxR u2 (w.heap.size + 2) (.slice i0 d.nb k0) d.nb d.B):=own_mono hv0 G0
 have G1:w.heap.size + 2≤u2.heap.size:=Nat.le_trans G0 hb.size
 have L0:Hid (∀ g,(Value.slice i0 d.nb k0).ownBlock = some g→g < u2.heap.size):=fun g e => (World.ownsRow.lt hv0 g e).2
 refine hK.out _ _ H (fun _ => ?_)
 clear hK KK hb hv0 D0 B0 X0 CB
 refine ch13 ?_
 obtain ⟨v1,u3,hr,ho,hg,-⟩:=appPn u2 u2.heap.size (.slice none 0 0) 0 d.A d.D a1 d.nc c1 d.A d.D 23 (Nat.le_refl _) (by omega) (PnR.nil _ _ _ _) D1.out.2.1 z1
 replace ho:PnR u3 u2.heap.size v1 d.nc d.A d.D:=by
  rw [Nat.zero_add] at ho
  exact ho.congr (fun i _ => ⟨by unfold catI; rw [if_neg (by omega)]; rfl,by unfold catT; rw [if_neg (by omega)]; rfl⟩)
 have hb:Below u2.heap.size u2 u3:=grown_belowD hg
 refine wpAnyH_ready (rs:=[5]) (by kernel_rfl) (by simp) ?_
 refine AllReadyH.cons rfl (fun KK hK => ?_) AllReadyH.nil
 rw [if_pos (by rfl)]
 refine Lib.wp_append_run _ (.const (.slice none 0 0)) (.tmp 7) 23 23 rfl (.slice none 0 0) (.slice a1 d.nc c1) rfl rfl v1 u3 hr ?_
 obtain ⟨i1,k1,rfl,-⟩:=ho.form
 have H':u3.cell? ⟨w.heap.size,0,none⟩ = some (.slice a0 d.nb c0)∧u3.cell? ⟨w.heap.size,1,none⟩ = some (.slice a1 d.nc c1)∧u3.cell? ⟨w.heap.size,2,none⟩ = some (.slice a2 d.ns c2):=⟨(hb.cell (strBlock H.1)).trans H.1,(hb.cell (strBlock H.2.1)).trans H.2.1,(hb.cell (strBlock H.2.2)).trans H.2.2⟩
 replace H:=H'; clear H'
 have D2:Hid (DiskV u3 d a0 a1 a2):=D1.out.below hb
 have B2:Hid (Below w.heap.size w u3):=B1.out.trans (hb.mono B1.out.size)
 have X2:Hid (Box3 u3 (w.heap.size + 1) 25 (.slice none 0 0) (.slice none 0 0) (.slice none 0 0)):=X1.out.below hb
 have V0':Hid (TxR u3 (w.heap.size + 2) (.slice i0 d.nb k0) d.nb d.B):=V0.out.below hb
 have V1:Hid (PnR u3 (w.heap.size + 2) (.slice i1 d.nc k1) d.nc d.A d.D):=own_mono ho G1
 have G2:w.heap.size + 2≤u3.heap.size:=Nat.le_trans G1 hb.size
 have N01:Hid (∀ g,(Value.slice i0 d.nb k0).ownBlock = some g→(Value.slice i1 d.nc k1).ownBlock≠some g):=fun g e1 e2 => by have:=L0.out g e1; have:=(World.ownsRow.lt ho g e2).1; omega
 have L0':Hid (∀ g,(Value.slice i0 d.nb k0).ownBlock = some g→g < u3.heap.size):=fun g e => (World.ownsRow.lt V0'.out g e).2
 have L1:Hid (∀ g,(Value.slice i1 d.nc k1).ownBlock = some g→g < u3.heap.size):=fun g e => (World.ownsRow.lt ho g e).2
 refine hK.out _ _ H (fun _ => ?_)
 clear hK KK hb ho hg hr D1 B1 X1 L0 V0
 refine ch13 ?_
 refine wpAnyH_ready (rs:=[8]) (by kernel_rfl) (by simp) ?_
 refine AllReadyH.cons rfl (fun KK hK => ?_) AllReadyH.nil
 go_simp
 refine (CS.out _ D2.out.2.2).mono ?_
 rintro e u4 ⟨⟨v2,rfl,hv2⟩,hb⟩
 obtain ⟨i2,k2,rfl,-⟩:=hv2.form
 have H':u4.cell? ⟨w.heap.size,0,none⟩ = some (.slice a0 d.nb c0)∧u4.cell? ⟨w.heap.size,1,none⟩ = some (.slice a1 d.nc c1)∧u4.cell? ⟨w.heap.size,2,none⟩ = some (.slice a2 d.ns c2):=⟨(hb.cell (strBlock H.1)).trans H.1,(hb.cell (strBlock H.2.1)).trans H.2.1,(hb.cell (strBlock H.2.2)).trans H.2.2⟩
 replace H:=H'; clear H'
 have D3:Hid (DiskV u4 d a0 a1 a2):=D2.out.below hb
 have B3:Hid (Below w.heap.size w u4):=B2.out.trans (hb.mono B2.out.size)
 have X3:Hid (Box3 u4 (w.heap.size + 1) 25 (.slice none 0 0) (.slice none 0 0) (.slice none 0 0)):=X2.out.below hb
 have R3:Hid (Rows3 u4 (w.heap.size + 2) d (.slice i0 d.nb k0) (.slice i1 d.nc k1) (.slice i2 d.ns k2)):=⟨V0'.out.below hb,V1.out.below hb,own_mono hv2 G2,N01.out,fun g e1 e2 => by have:=L0'.out g e1; have:=(World.ownsRow.lt hv2 g e2).1; omega,fun g e1 e2 => by have:=L1.out g e1; have:=(World.ownsRow.lt hv2 g e2).1; omega⟩
 refine hK.out _ _ H (fun _ => ?_)
 clear hK KK hb hv2 D2 B2 X2 V0' V1 N01 L0' L1 D3
 refine ch13 ?_
 refine tkH (i:=9) (v:=.agg #[.slice i0 d.nb k0,.slice i1 d.nc k1,.slice i2 d.ns k2]) rfl (by kernel_rfl) (by rfl) ?_ H ?_
 ·intro w' hSw; go_simp
 refine ch13 ?_
 refine wpAnyH_ready (rs:=[10]) (by kernel_rfl) (by simp) ?_
 refine AllReadyH.cons rfl (fun KK hK => ?_) AllReadyH.nil
 have x0:=X3.out.c0
 have x1:=X3.out.c1
 have x2:=X3.out.c2
 have f0:=X3.out.fr 0
 have f1:=X3.out.fr 1
 have f2:=X3.out.fr 2
 have O5:OnlyB (w.heap.size + 1) u4 (((u4.setCell ⟨w.heap.size + 1,0,none⟩ (.slice i0 d.nb k0)).setCell ⟨w.heap.size + 1,1,none⟩ (.slice i1 d.nc k1)).setCell ⟨w.heap.size + 1,2,none⟩ (.slice i2 d.ns k2)):=(((OnlyB.refl _ u4).setCell 0 _).setCell 1 _).setCell 2 _
 have X5:Box3 (((u4.setCell ⟨w.heap.size + 1,0,none⟩ (.slice i0 d.nb k0)).setCell ⟨w.heap.size + 1,1,none⟩ (.slice i1 d.nc k1)).setCell ⟨w.heap.size + 1,2,none⟩ (.slice i2 d.ns k2)) (w.heap.size + 1) 25 (.slice i0 d.nb k0) (.slice i1 d.nc k1) (.slice i2 d.ns k2):=((X3.out.set0 _).set1 _).set2 _
 have R5:Hid (Rows3 (((u4.setCell ⟨w.heap.size + 1,0,none⟩ (.slice i0 d.nb k0)).setCell ⟨w.heap.size + 1,1,none⟩ (.slice i1 d.nc k1)).setCell ⟨w.heap.size + 1,2,none⟩ (.slice i2 d.ns k2)) w.heap.size d (.slice i0 d.nb k0) (.slice i1 d.nc k1) (.slice i2 d.ns k2)):=⟨own_mono (R3.out.t0.onlyB O5 (fun e => by have:=(World.ownsRow.lt R3.out.t0 _ e).1; omega)) (by omega),own_mono (R3.out.t1.onlyB O5 (fun e => by have:=(World.ownsRow.lt R3.out.t1 _ e).1; omega)) (by omega),own_mono (R3.out.t2.onlyB O5 (fun e => by have:=(World.ownsRow.lt R3.out.t2 _ e).1; omega)) (by omega),R3.out.n01,R3.out.n02,R3.out.n12⟩
 have B5:Hid (Below w.heap.size w (((u4.setCell ⟨w.heap.size + 1,0,none⟩ (.slice i0 d.nb k0)).setCell ⟨w.heap.size + 1,1,none⟩ (.slice i1 d.nc k1)).setCell ⟨w.heap.size + 1,2,none⟩ (.slice i2 d.ns k2))):=B3.out.trans (O5.toBelow (by omega) B3.out.size)
 have H':(((u4.setCell ⟨w.heap.size + 1,0,none⟩ (.slice i0 d.nb k0)).setCell ⟨w.heap.size + 1,1,none⟩ (.slice i1 d.nc k1)).setCell ⟨w.heap.size + 1,2,none⟩ (.slice i2 d.ns k2)).cell? ⟨w.heap.size,0,none⟩ = some (.slice a0 d.nb c0)∧(((u4.setCell ⟨w.heap.size + 1,0,none⟩ (.slice i0 d.nb k0)).setCell ⟨w.heap.size + 1,1,none⟩ (.slice i1 d.nc k1)).setCell ⟨w.heap.size + 1,2,none⟩ (.slice i2 d.ns k2)).cell? ⟨w.heap.size,1,none⟩ = some (.slice a1 d.nc c1)∧(((u4.setCell ⟨w.heap.size + 1,0,none⟩ (.slice i0 d.nb k0)).setCell ⟨w.heap.size + 1,1,none⟩ (.slice i1 d.nc k1)).setCell ⟨w.heap.size + 1,2,none⟩ (.slice i2 d.ns k2)).cell? ⟨w.heap.size,2,none⟩ = some (.slice a2 d.ns c2):=⟨(cellOf (O5.block w.heap.size (strBlock H.1) (by omega))).trans H.1,(cellOf (O5.block w.heap.size (strBlock H.2.1) (by omega))).trans H.2.1,(cellOf (O5.block w.heap.size (strBlock H.2.2) (by omega))).trans H.2.2⟩
 replace H:=H'
 clear H' O5 R3 B3
 go_simp
 refine hK.out _ _ H (fun _ => ?_)
 clear hK KK x0 x1 x2 f0 f1 f2 X3 H
 generalize (((u4.setCell ⟨w.heap.size + 1,0,none⟩ (.slice i0 d.nb k0)).setCell ⟨w.heap.size + 1,1,none⟩ (.slice i1 d.nc k1)).setCell ⟨w.heap.size + 1,2,none⟩ (.slice i2 d.ns k2)) = u5 at *
 refine wpAnyH_done (by kernel_rfl) ?_ _
 refine NoPanic.normal ?_
 have y0:=X5.c0
 have y1:=X5.c1
 have y2:=X5.c2
 clear X5
 go_wp2
 exact ret_cell (b:=w.heap.size + 1) (v:=.agg #[.slice i0 d.nb k0,.slice i1 d.nc k1,.slice i2 d.ns k2]) Tryz.results26 rfl (by go_simp) ⟨⟨_,_,_,rfl,R5.out⟩,B5.out⟩
theorem rdF_size (A:Nat→Int) (D:Nat→ByteArray) (b:ByteArray) (x:Int) (hb:b.size≤200):∀ k,(∀ i,i < k→(D i).size≤200)→(rdF A D b x k).size≤200
 | 0,_ => hb
 | k + 1,h => by
  unfold rdF
  split
  ·exact h k (by omega)
  ·exact rdF_size A D b x hb k (fun i hi => h i (by omega))
theorem Dk.done_ok {d:Dk} (hd:d.Ok) (a:Ac):(d.done a).Ok:=by
 have h1:=hd.nb1
 have h2:=hd.nb2
 have h3:=hd.ns
 have h4:=hd.nc
 unfold Dk.done
 by_cases hf:d.fault a = 0
 ·rw [if_pos hf]
  unfold Dk.acted
  by_cases k1:a.kd = 1
  ·rw [if_pos k1]
   unfold Dk.fault at hf
   rw [if_pos k1] at hf
   by_cases hx:0≤a.x∧a.x < d.nb
   ·rw [if_pos hx] at hf
    by_cases hs:200 < a.s.size
    ·rw [if_pos hs] at hf; cases hf
    ·rw [if_neg hs] at hf
     by_cases hc:4096≤d.nc
     ·rw [if_pos hc] at hf; cases hf
     ·refine ⟨h1,h2,by show d.nc + 1≤_; omega,h3,hd.B,fun i hi => ?_,hd.S⟩
      show (0≤catI d.nc d.A (fun _ => a.x) i∧catI d.nc d.A (fun _ => a.x) i < d.nb)∧(catT d.nc d.D (fun _ => a.s) i).size≤200
      unfold catI catT
      by_cases e:i < d.nc
      ·rw [if_pos e,if_pos e]; exact hd.C i e
      ·rw [if_neg e,if_neg e]; exact ⟨hx,Nat.le_of_not_lt hs⟩
   ·rw [if_neg hx] at hf; cases hf
  ·rw [if_neg k1]
   by_cases k2:a.kd = 2
   ·rw [if_pos k2]
    exact ⟨h1,h2,by show 0≤_; omega,h3,fun i hi => rdF_size _ _ _ _ (hd.B i hi) _ (fun j hj => (hd.C j hj).2),fun i hi => absurd hi (Nat.not_lt_zero i),hd.S⟩
   ·rw [if_neg k2]
    by_cases k3:a.kd = 3
    ·rw [if_pos k3]
     exact ⟨h1,h2,by show 0≤_; omega,h3,fun i hi => crF_size d a.nk a.K a.t hd.B (fun j hj => (hd.C j hj).2) (fun j hj => (hd.C j hj).1) d.nc (Nat.le_refl _) i hi,fun i hi => absurd hi (Nat.not_lt_zero i),hd.S⟩
    ·rw [if_neg k3]
     by_cases k4:a.kd = 4
     ·rw [if_pos k4]
      exact ⟨h1,h2,h4,.inr rfl,hd.B,hd.C,hd.B⟩
     ·rw [if_neg k4]
      unfold Dk.fault at hf
      rw [if_neg k1,if_neg (by simp [k2,k3,k4])] at hf
      by_cases k5:a.kd = 5
      ·rw [if_pos k5]
       rw [if_pos k5] at hf
       by_cases hs:d.ns = 0
       ·rw [if_pos hs] at hf; cases hf
       ·exact ⟨by show 1≤d.ns; omega,by show d.ns≤64; omega,by show 0≤_; omega,.inr rfl,hd.S,fun i hi => absurd hi (Nat.not_lt_zero i),hd.S⟩
      ·rw [if_neg k5]
       rw [if_neg k5] at hf
       by_cases k6:a.kd = 6
       ·rw [if_pos k6] at hf
        by_cases hx:0≤a.x∧a.x < d.nb
        ·rw [if_pos hx] at hf
         by_cases hs:200 < a.s.size
         ·rw [if_pos hs] at hf; cases hf
         ·refine ⟨h1,h2,h4,h3,fun i hi => ?_,hd.C,hd.S⟩
          show (if i = a.x.toNat then a.s else d.B i).size≤200
          split
          ·omega
          ·exact hd.B i hi
        ·rw [if_neg hx] at hf; cases hf
       ·rw [if_neg k6] at hf; cases hf
 ·rw [if_neg hf]; exact hd
end Go.Proofs.YtcpjeopnhgoonaaGreatDoor
