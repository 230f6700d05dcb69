/-
  Texts of the proof, joined.
-/
import Derived.Test.YtcpjeopnhgoonaaGreatDoorF44
import Derived.Test.YtcpjeopnhgoonaaGreatDoorF45
import Derived.Test.YtcpjeopnhgoonaaGreatDoorF46
namespace Go.Proofs.YtcpjeopnhgoonaaGreatDoor
open Go.ChangeShapes Go.WideShapes Go.ChangeAt Go.RowKit
set_option linter.unusedVariables false
noncomputable def erD (k:ByteArray) (n:Nat):Nat→Dk
 | 0 => newD n
 | q + 1 => (erD k n q).done (erAC k q)
theorem erD_ok (k:ByteArray) {n:Nat} (h1:1≤n) (h2:n≤64):∀ q,(erD k n q).Ok
 | 0 => ⟨h1,h2,by show (0:Nat)≤4096; omega,.inl rfl,fun _ _ => by show (⟨#[]⟩:ByteArray).size≤200; decide,fun i h => absurd h (Nat.not_lt_zero _),fun i h => absurd h (Nat.not_lt_zero _)⟩
 | q + 1 => Dk.done_ok (erD_ok k h1 h2 q) _
theorem done_nb (d:Dk) (a:Ac) (h:a.kd = 1∨a.kd = 2):(d.done a).nb = d.nb∧(d.done a).nc≤d.nc + 1:=by
 unfold Dk.done
 split
 ·unfold Dk.acted
  rcases h with h | h
  ·rw [if_pos h]; exact ⟨rfl,Nat.le_refl _⟩
  ·rw [if_neg (by omega),if_pos h]; exact ⟨rfl,Nat.zero_le _⟩
 ·exact ⟨rfl,Nat.le_succ _⟩
theorem erAC_kd (k:ByteArray) (q:Nat):(erAC k q).kd = 1∨(erAC k q).kd = 2:=by
 unfold erAC
 split
 ·exact .inl rfl
 ·split
  ·exact .inl rfl
  ·exact .inr rfl
theorem erD_nb (k:ByteArray) (n:Nat):∀ q,(erD k n q).nb = n∧(erD k n q).nc≤q
 | 0 => ⟨rfl,Nat.le_refl _⟩
 | q + 1 => by
  have h1:=erD_nb k n q
  have h2:=done_nb (erD k n q) (erAC k q) (erAC_kd k q)
  exact ⟨h2.1.trans h1.1,Nat.le_trans h2.2 (by omega)⟩
theorem erStep (k:ByteArray) (n:Nat) (h4:4≤n) (hn:n≤64) (q:Nat) (a0 a1 a2:Option Addr) (c0 c1 c2:Nat) (w:World) (hq:q < 4) (z:(a0 = none→c0 = 0)∧(a1 = none→c1 = 0)∧(a2 = none→c2 = 0)) (h:DiskV w (erD k n q) a0 a1 a2) :
  Calls Tryz.prog 40 #[.agg #[.slice a0 (erD k n q).nb c0,.slice a1 (erD k n q).nc c1,.slice a2 (erD k n q).ns c2],.agg #[.int .i64 (erAC k q).kd,.int .i64 (erAC k q).x,.string (erAC k q).s,.slice none 0 0,.int .i64 (erAC k q).t]] w fun e w' => (∃ code,RetT w.heap.size a0 a1 a2 w' e (erD k n (q + 1)) code)∧Below w.heap.size w w':=by
 have ok:=erD_ok k (show 1≤n by omega) hn q
 have hb:=erD_nb k n q
 have wr:∀ a:Ac,erAC k q = a→a.kd = 1→a.nk = 0→(0≤a.x∧a.x < 4)→a.s.size≤200→Calls Tryz.prog 40 #[.agg #[.slice a0 (erD k n q).nb c0,.slice a1 (erD k n q).nc c1,.slice a2 (erD k n q).ns c2],.agg #[.int .i64 1,.int .i64 a.x,.string a.s,.slice none a.nk 0,.int .i64 a.t]] w fun e w' => (∃ code,RetT w.heap.size a0 a1 a2 w' e (erD k n (q + 1)) code)∧Below w.heap.size w w':=fun a e h1 h0 h2 h3 => by
  rw [show erD k n (q + 1) = (erD k n q).done (erAC k q) from rfl,e]
  exact (step_write (erD k n q) a a0 a1 a2 none c0 c1 c2 0 ok z.1 z.2.1 z.2.2 w h h1 ⟨h2.1,by rw [hb.1]; omega⟩ (by omega) (by omega)).mono fun e w' h => ⟨⟨_,h.1⟩,h.2⟩
 have sy:∀ a:Ac,erAC k q = a→a.kd = 2→Calls Tryz.prog 40 #[.agg #[.slice a0 (erD k n q).nb c0,.slice a1 (erD k n q).nc c1,.slice a2 (erD k n q).ns c2],.agg #[.int .i64 2,.int .i64 a.x,.string a.s,.slice none a.nk 0,.int .i64 a.t]] w fun e w' => (∃ code,RetT w.heap.size a0 a1 a2 w' e (erD k n (q + 1)) code)∧Below w.heap.size w w':=fun a e h1 => by
  rw [show erD k n (q + 1) = (erD k n q).done (erAC k q) from rfl,e]
  exact (step_sync (erD k n q) a a0 a1 a2 none c0 c1 c2 0 ok z.1 z.2.1 z.2.2 w h h1).mono fun e w' h => ⟨⟨_,h.1⟩,h.2⟩
 rcases (show q = 0∨q = 1∨q = 2∨q = 3 by omega) with rfl | rfl | rfl | rfl
 ·exact wr ⟨1,2,erT k,0,fun _ => false,0⟩ rfl rfl rfl ⟨by show (0:Int)≤2; omega,by show (2:Int) < 4; omega⟩ (by show (erT k).size≤200; rw [erT_size]; omega)
 ·exact sy ⟨2,0,⟨#[]⟩,0,fun _ => false,0⟩ rfl rfl
 ·exact wr ⟨1,1,planT k 1 (erSup k),0,fun _ => false,0⟩ rfl rfl rfl ⟨by show (0:Int)≤1; omega,by show (1:Int) < 4; omega⟩ (by show (planT k 1 (erSup k)).size≤200; unfold planT; rw [kstr_size,erSup_size]; omega)
 ·exact sy ⟨2,0,⟨#[]⟩,0,fun _ => false,0⟩ rfl rfl
set_option maxRecDepth 100000 in
set_option maxHeartbeats 1000000 in
theorem specNew_z (n:Nat) (h4:4≤n) (h64:n≤64) (w:World) :
  Calls Tryz.prog 20 #[.int .i64 (n:Int)] w fun e w' => (∃ a0 a1 a2 c0 c1 c2,e = .returned (.tuple #[.agg #[.slice a0 n c0,.slice a1 0 c1,.slice a2 0 c2],.int .i64 0])∧DiskV w' (newD n) a0 a1 a2∧(a0 = none→c0 = 0)∧(a1 = none→c1 = 0)∧(a2 = none→c2 = 0))∧Below w.heap.size w w':=by
 have IN:Hid (∀ w:World,Calls Tryz.prog 9 #[.int .i64 (n:Int),.int .i64 1,.int .i64 64] w fun e w' => e = .returned (.bool true)∧w = w'):=fun w => in_any _ _ _ true (by simp; omega) w
 have hmk:=mkStrsD n (by omega)
 have hn0:0≤(n:Int):=by omega
 have N4:Hid (4≤n):=h4
 clear h4 h64
 go_enter Tryz.func20,Tryz.ntmps20
 go_wp2_with fail
 refine (IN.out _).mono ?_
 rintro e w1 ⟨rfl,rfl⟩
 clear IN
 go_wp2
 have RR:((((w.alloc (.cells #[.slice (some ⟨w.heap.size + 1,0,none⟩) n n,.slice (some ⟨w.heap.size + 1 + 1,0,none⟩) 0 0,.slice (some ⟨w.heap.size + 1 + 1 + 1,0,none⟩) 0 0] 25)).alloc (.cells (madeCells #[.string ⟨#[]⟩] n) 9)).alloc (.cells #[] 60)).alloc (.cells #[] 9)).rowIs (w.heap.size + 1) 9 n (fun _ => .string ⟨#[]⟩):=by
  have:=((World.rowIs_made (w.alloc (.cells #[.slice (some ⟨w.heap.size + 1,0,none⟩) n n,.slice (some ⟨w.heap.size + 1 + 1,0,none⟩) 0 0,.slice (some ⟨w.heap.size + 1 + 1 + 1,0,none⟩) 0 0] 25)) (.string ⟨#[]⟩) n 9).alloc (.cells #[] 60)).alloc (.cells #[] 9)
  simpa using this
 exact ret_cell2 (b:=w.heap.size) (v:=.agg #[.slice (some ⟨w.heap.size + 1,0,none⟩) n n,.slice (some ⟨w.heap.size + 1 + 1,0,none⟩) 0 0,.slice (some ⟨w.heap.size + 1 + 1 + 1,0,none⟩) 0 0]) Tryz.results20 rfl rfl (by go_simp) ⟨⟨_,_,_,_,_,_,rfl,(RowD.newD RR (Nat.le_refl _) (fun _ _ => rfl) _ _).diskV,(fun e => by cases e),(fun e => by cases e),(fun e => by cases e)⟩,(((Below.refl w.heap.size w).alloc (Nat.le_refl _) _).alloc (by simp) _).alloc (by simp; omega) _ |>.alloc (by simp; omega) _⟩
set_option maxRecDepth 100000 in
set_option maxHeartbeats 4000000 in
theorem l13Format_any (k:ByteArray) (n:Nat) (hk:k.size = 32) (h4:4≤n) (hn:n≤64) (w:World) :
  Calls Tryz.prog 10 #[.string k,.int .i64 (n:Int)] w fun e w' => (∃ a0 a1 a2 c0 c1 c2,e = .returned (.tuple #[.agg #[.slice a0 (erD k n 4).nb c0,.slice a1 (erD k n 4).nc c1,.slice a2 (erD k n 4).ns c2],.string (erR k)])∧DiskV w' (erD k n 4) a0 a1 a2∧(a0 = none→c0 = 0)∧(a1 = none→c1 = 0)∧(a2 = none→c2 = 0))∧Below w.heap.size w w':=by
 have A0:Hid (Below w.heap.size w (w.alloc (.cells #[.slice none 0 0,.slice none 0 0,.slice none 0 0] 25))):=(Below.refl _ _).alloc (Nat.le_refl _) _
 have X0:Hid (Box3 (w.alloc (.cells #[.slice none 0 0,.slice none 0 0,.slice none 0 0] 25)) w.heap.size 25 (.slice none 0 0) (.slice none 0 0) (.slice none 0 0)):=Box3.made _ _ _ _ _
 have ND:Hid (∀ w:World,Calls Tryz.prog 20 #[.int .i64 (n:Int)] w fun e w' => (∃ a0 a1 a2 c0 c1 c2,e = .returned (.tuple #[.agg #[.slice a0 n c0,.slice a1 0 c1,.slice a2 0 c2],.int .i64 0])∧DiskV w' (newD n) a0 a1 a2∧(a0 = none→c0 = 0)∧(a1 = none→c1 = 0)∧(a2 = none→c2 = 0))∧Below w.heap.size w w'):=fun w => specNew_z n h4 hn w
 have LP:Hid (∀ (a0 a1 a2:Option Addr) (c0 c1 c2:Nat) (fa:Option Addr) (w:World),DiskV w (newD n) a0 a1 a2→Calls Tryz.prog 21 #[.string k,.agg #[.slice a0 n c0,.slice a1 0 c1,.slice a2 0 c2],.slice fa 0 0] w fun e w' => RetPl w.heap.size k e w'∧Below w.heap.size w w'):=fun a0 a1 a2 c0 c1 c2 fa w h => l13Plan_new k n hk h4 hn a0 a1 a2 c0 c1 c2 fa 0 w h
 have LD:Hid (∀ (a0 a1 a2:Option Addr) (c0 c1 c2 b mc:Nat) (w:World),(a0 = none→c0 = 0)∧(a1 = none→c1 = 0)∧(a2 = none→c2 = 0)→DiskV w (newD n) a0 a1 a2→ActR w b 4 (erAC k)→Calls Tryz.prog 22 #[.agg #[.slice a0 n c0,.slice a1 0 c1,.slice a2 0 c2],.slice (some ⟨b,0,none⟩) 4 mc] w fun e w' => RetV w' e (erD k n 4)∧Below w.heap.size w w'):=fun a0 a1 a2 c0 c1 c2 b mc w z h ha => l06DoL (erD k n) (erAC k) 4 mc (by omega) (erStep k n h4 hn) a0 a1 a2 c0 c1 c2 b z.1 z.2.1 z.2.2 w h ha
 generalize erD k n 4 = DD at *
 clear hk h4 hn
 go_enter Tryz.func10,Tryz.ntmps10
 go_wp2_with fail
 refine (ND.out _).mono ?_
 generalize (w.alloc (.cells #[.slice none 0 0,.slice none 0 0,.slice none 0 0] 25)) = u at *
 rintro e v ⟨⟨a0,a1,a2,c0,c1,c2,rfl,hd,z0,z1,z2⟩,hb⟩
 have ZZ:Hid ((a0 = none→c0 = 0)∧(a1 = none→c1 = 0)∧(a2 = none→c2 = 0)):=⟨z0,z1,z2⟩
 have hb2:Below v.heap.size v (v.alloc (.cells #[.slice a0 n c0,.slice a1 0 c1,.slice a2 0 c2] 25)):=(Below.refl _ _).alloc (Nat.le_refl _) _
 replace A0:=hid ((A0.out.trans (hb.mono A0.out.size)).alloc (A0.out.trans (hb.mono A0.out.size)).size (.cells #[.slice a0 n c0,.slice a1 0 c1,.slice a2 0 c2] 25))
 replace X0:=hid ((X0.out.below hb).below hb2)
 have D1:=hid (hd.below hb2)
 have X1:Hid (Box3 (v.alloc (.cells #[.slice a0 n c0,.slice a1 0 c1,.slice a2 0 c2] 25)) v.heap.size 25 (.slice a0 n c0) (.slice a1 0 c1) (.slice a2 0 c2)):=Box3.made _ _ _ _ _
 have y0:=X1.out.c0
 have y1:=X1.out.c1
 have y2:=X1.out.c2
 clear hd hb hb2 z0 z1 z2 ND
 go_wp2_with fail
 clear y0 y1 y2
 generalize (v.alloc (.cells #[.slice a0 n c0,.slice a1 0 c1,.slice a2 0 c2] 25)) = v1 at *
 generalize v.heap.size = db at *
 have hb:Below v1.heap.size v1 (v1.alloc (.cells #[] 98)):=(Below.refl _ _).alloc (Nat.le_refl _) _
 refine (LP.out a0 a1 a2 c0 c1 c2 _ _ (D1.out.below hb)).mono ?_
 rintro e v2 ⟨⟨x,c,rfl,-,ha⟩,hb2⟩
 have hb3:Below v1.heap.size v1 v2:=hb.trans (hb2.mono hb.size)
 replace A0:=hid (A0.out.trans (hb3.mono A0.out.size))
 replace X0:=hid (X0.out.below hb3)
 replace X1:=hid (X1.out.below hb3)
 replace D1:=hid (D1.out.below hb3)
 have HA:=hid ha
 have y0:=X1.out.c0
 have y1:=X1.out.c1
 have y2:=X1.out.c2
 clear hb hb2 hb3 ha LP v1
 go_wp2_with fail
 refine (LD.out a0 a1 a2 c0 c1 c2 x c v2 ZZ.out D1.out HA.out).mono ?_
 rintro e v3 ⟨⟨i0,i1,i2,k0,k1,k2,rfl,hd,z0,z1,z2⟩,hb⟩
 replace A0:=hid (A0.out.trans (hb.mono A0.out.size))
 replace X0:=hid (X0.out.below hb)
 have RV:Hid (DiskV v3 DD i0 i1 i2):=hd
 have RZ:Hid ((i0 = none→k0 = 0)∧(i1 = none→k1 = 0)∧(i2 = none→k2 = 0)):=⟨z0,z1,z2⟩
 clear y0 y1 y2 hb hd z0 z1 z2 LD HA D1 X1 ZZ
 have ho:OnlyB w.heap.size v3 (((v3.setCell ⟨w.heap.size,0,none⟩ (.slice i0 DD.nb k0)).setCell ⟨w.heap.size,1,none⟩ (.slice i1 DD.nc k1)).setCell ⟨w.heap.size,2,none⟩ (.slice i2 DD.ns k2)):=(((OnlyB.refl _ _).setCell 0 _).setCell 1 _).setCell 2 _
 have X5:Hid (Box3 (((v3.setCell ⟨w.heap.size,0,none⟩ (.slice i0 DD.nb k0)).setCell ⟨w.heap.size,1,none⟩ (.slice i1 DD.nc k1)).setCell ⟨w.heap.size,2,none⟩ (.slice i2 DD.ns k2)) w.heap.size 25 (.slice i0 DD.nb k0) (.slice i1 DD.nc k1) (.slice i2 DD.ns k2)):=((X0.out.set0 _).set1 _).set2 _
 have V5:Hid (DiskV (((v3.setCell ⟨w.heap.size,0,none⟩ (.slice i0 DD.nb k0)).setCell ⟨w.heap.size,1,none⟩ (.slice i1 DD.nc k1)).setCell ⟨w.heap.size,2,none⟩ (.slice i2 DD.ns k2)) DD i0 i1 i2):=RV.out.stored X0.out _ _ _
 have A5:Hid (Below w.heap.size w (((v3.setCell ⟨w.heap.size,0,none⟩ (.slice i0 DD.nb k0)).setCell ⟨w.heap.size,1,none⟩ (.slice i1 DD.nc k1)).setCell ⟨w.heap.size,2,none⟩ (.slice i2 DD.ns k2))):=A0.out.trans (ho.toBelow (Nat.le_refl _) A0.out.size)
 have x0:=X0.out.c0
 have x1:=X0.out.c1
 have x2:=X0.out.c2
 have f0:=X0.out.fr 0
 have f1:=X0.out.fr 1
 have f2:=X0.out.fr 2
 clear ho RV X0 A0
 go_wp2
 generalize (((v3.setCell ⟨w.heap.size,0,none⟩ (.slice i0 DD.nb k0)).setCell ⟨w.heap.size,1,none⟩ (.slice i1 DD.nc k1)).setCell ⟨w.heap.size,2,none⟩ (.slice i2 DD.ns k2)) = u5 at *
 clear x0 x1 x2 f0 f1 f2
 have y0:=X5.out.c0
 have y1:=X5.out.c1
 have y2:=X5.out.c2
 exact ret_cell2 (b:=w.heap.size) (v:=.agg #[.slice i0 DD.nb k0,.slice i1 DD.nc k1,.slice i2 DD.ns k2]) Tryz.results10 rfl rfl (by go_simp) ⟨⟨i0,i1,i2,k0,k1,k2,rfl,V5.out,RZ.out⟩,A5.out⟩
def FvA (k:ByteArray) (x:Int) (D:Dk) (code:Int):Prop:=(65536 < k.size∧D = newD 0∧code = 2)∨(¬ 65536 < k.size∧k.size≠32∧D = newD 0∧code = 1)∨(k.size = 32∧¬ (4≤x∧x≤64)∧D = newD 0∧code = 4)∨(k.size = 32∧(4≤x∧x≤64)∧D = erD k x.toNat 4∧code = 0)
theorem fvA_ex (k:ByteArray) (x:Int):∃ D code,FvA k x D code:=by
 by_cases h1:65536 < k.size
 ·exact ⟨_,_,.inl ⟨h1,rfl,rfl⟩⟩
 ·by_cases h2:k.size = 32
  ·by_cases h3:4≤x∧x≤64
   ·exact ⟨_,_,.inr (.inr (.inr ⟨h2,h3,rfl,rfl⟩))⟩
   ·exact ⟨_,_,.inr (.inr (.inl ⟨h2,h3,rfl,rfl⟩))⟩
  ·exact ⟨_,_,.inr (.inl ⟨h1,h2,rfl,rfl⟩)⟩
theorem erD_small (k:ByteArray) {n:Nat} (h1:1≤n) (h2:n≤64) (q:Nat) (hq:q≤4):(erD k n q).nb≤64∧(erD k n q).nc≤64∧(erD k n q).ns≤64:=by
 have o:=erD_ok k h1 h2 q
 have b:=erD_nb k n q
 have h3:=o.ns
 refine ⟨by omega,by omega,?_⟩
 omega
theorem FvA.small {k:ByteArray} {x:Int} {D:Dk} {code:Int} (h:FvA k x D code):D.nb≤64∧D.nc≤64∧D.ns≤64:=by
 rcases h with ⟨_,rfl,_⟩ | ⟨_,_,rfl,_⟩ | ⟨_,_,rfl,_⟩ | ⟨_,h3,rfl,_⟩
 ·exact ⟨by show (0:Nat)≤64; omega,by show (0:Nat)≤64; omega,by show (0:Nat)≤64; omega⟩
 ·exact ⟨by show (0:Nat)≤64; omega,by show (0:Nat)≤64; omega,by show (0:Nat)≤64; omega⟩
 ·exact ⟨by show (0:Nat)≤64; omega,by show (0:Nat)≤64; omega,by show (0:Nat)≤64; omega⟩
 ·exact erD_small k (by omega) (by omega) 4 (by omega)
theorem erAC_fault (k:ByteArray) {n:Nat} (h4:4≤n) (hn:n≤64) (q:Nat) (hq:q < 4):(erD k n q).fault (erAC k q) = 0:=by
 have b:=erD_nb k n q
 have wr:∀ a:Ac,erAC k q = a→a.kd = 1→(0≤a.x∧a.x < 4)→a.s.size≤200→(erD k n q).fault (erAC k q) = 0:=fun a e h1 h2 h3 => by
  rw [e]
  unfold Dk.fault
  rw [if_pos h1,if_pos ⟨h2.1,by rw [b.1]; omega⟩,if_neg (by omega),if_neg (by omega)]
 have sy:∀ a:Ac,erAC k q = a→a.kd = 2→(erD k n q).fault (erAC k q) = 0:=fun a e h1 => by
  rw [e]
  unfold Dk.fault
  rw [if_neg (by omega),if_pos (.inl h1)]
 rcases (show q = 0∨q = 1∨q = 2∨q = 3 by omega) with rfl | rfl | rfl | rfl
 ·exact wr ⟨1,2,erT k,0,fun _ => false,0⟩ rfl rfl ⟨by show (0:Int)≤2; omega,by show (2:Int) < 4; omega⟩ (by show (erT k).size≤200; rw [erT_size]; omega)
 ·exact sy ⟨2,0,⟨#[]⟩,0,fun _ => false,0⟩ rfl rfl
 ·exact wr ⟨1,1,planT k 1 (erSup k),0,fun _ => false,0⟩ rfl rfl ⟨by show (0:Int)≤1; omega,by show (1:Int) < 4; omega⟩ (by show (planT k 1 (erSup k)).size≤200; unfold planT; rw [kstr_size,erSup_size]; omega)
 ·exact sy ⟨2,0,⟨#[]⟩,0,fun _ => false,0⟩ rfl rfl
theorem do_er (B q b:Nat) (k:ByteArray) (n j:Nat) (h4:4≤n) (hn:n≤64) (hj:j < 4) (v0 v1 v2:Value) (p0 p1 p2 p3 p4:Addr) (w:World) (hBw:B≤w.heap.size) (hE:Errs w p0 p1 p2 p3 p4) (h:Drv w B q b (erD k n j) v0 v1 v2) :
  Calls Tryz.prog 48 #[.pointer (some ⟨q,0,none⟩),.agg #[.int .i64 (erAC k j).kd,.int .i64 (erAC k j).x,.string (erAC k j).s,.slice none 0 0,.int .i64 (erAC k j).t]] w fun e w' => e = .returned .nilIface∧(∃ u0 u1 u2,Drv w' B q b (erD k n (j + 1)) u0 u1 u2∧KpD q b v0 v1 v2 u0 u1 u2 w w')∧Below B w w':=by
 have hf:=erAC_fault k h4 hn j hj
 have ok:=erD_ok k (show 1≤n by omega) hn j
 rw [show erD k n (j + 1) = (erD k n j).done (erAC k j) from rfl]
 have wr:∀ a:Ac,erAC k j = a→a.kd = 1→a.nk = 0→Calls Tryz.prog 48 #[.pointer (some ⟨q,0,none⟩),.agg #[.int .i64 1,.int .i64 a.x,.string a.s,.slice none a.nk 0,.int .i64 a.t]] w fun e w' => e = .returned .nilIface∧(∃ u0 u1 u2,Drv w' B q b ((erD k n j).done (erAC k j)) u0 u1 u2∧KpD q b v0 v1 v2 u0 u1 u2 w w')∧Below B w w':=fun a e h1 _ => by
  rw [e] at hf ⊢
  refine (do_write B q b (erD k n j) a v0 v1 v2 none 0 p0 p1 p2 p3 p4 ok w hBw hE h h1).mono ?_
  rintro e w' ⟨h1,⟨u0,u1,u2,h2,h4⟩,h3⟩
  rw [hf] at h1
  exact ⟨h1,⟨u0,u1,u2,h2,h4⟩,h3⟩
 have sy:∀ a:Ac,erAC k j = a→a.kd = 2→Calls Tryz.prog 48 #[.pointer (some ⟨q,0,none⟩),.agg #[.int .i64 2,.int .i64 a.x,.string a.s,.slice none a.nk 0,.int .i64 a.t]] w fun e w' => e = .returned .nilIface∧(∃ u0 u1 u2,Drv w' B q b ((erD k n j).done (erAC k j)) u0 u1 u2∧KpD q b v0 v1 v2 u0 u1 u2 w w')∧Below B w w':=fun a e h1 => by
  rw [e] at hf ⊢
  refine (do_sync B q b (erD k n j) a v0 v1 v2 none 0 p0 p1 p2 p3 p4 ok w hBw hE h h1).mono ?_
  rintro e w' ⟨h1,⟨u0,u1,u2,h2,h4⟩,h3⟩
  rw [hf] at h1
  exact ⟨h1,⟨u0,u1,u2,h2,h4⟩,h3⟩
 rcases (show j = 0∨j = 1∨j = 2∨j = 3 by omega) with rfl | rfl | rfl | rfl
 ·exact wr ⟨1,2,erT k,0,fun _ => false,0⟩ rfl rfl rfl
 ·exact sy ⟨2,0,⟨#[]⟩,0,fun _ => false,0⟩ rfl rfl
 ·exact wr ⟨1,1,planT k 1 (erSup k),0,fun _ => false,0⟩ rfl rfl rfl
 ·exact sy ⟨2,0,⟨#[]⟩,0,fun _ => false,0⟩ rfl rfl
set_option maxRecDepth 100000 in
set_option maxHeartbeats 4000000 in
theorem refuses_er (B q b:Nat) (k:ByteArray) (n j:Nat) (h4:4≤n) (hn:n≤64) (hj:j < 4) (v0 v1 v2:Value) (p0 p1 p2 p3 p4:Addr) (w:World) (hBw:B≤w.heap.size) (hE:Errs w p0 p1 p2 p3 p4) (h:Drv w B q b (erD k n j) v0 v1 v2) :
  Calls Tryz.prog 28 #[.agg #[.pointer (some ⟨q,0,none⟩),.string k],.agg #[.int .i64 (erAC k j).kd,.int .i64 (erAC k j).x,.string (erAC k j).s,.slice none 0 0,.int .i64 (erAC k j).t]] w fun e w' => e = .returned (.bool false)∧(∃ u0 u1 u2,Drv w' B q b (erD k n (j + 1)) u0 u1 u2∧KpD q b v0 v1 v2 u0 u1 u2 w w')∧Below B w w':=by
 have hb:Below w.heap.size w ((w.alloc (.cells #[.pointer (some ⟨q,0,none⟩),.string k] 48)).alloc (.cells #[.int .i64 (erAC k j).kd,.int .i64 (erAC k j).x,.string (erAC k j).s,.slice none 0 0,.int .i64 (erAC k j).t] 53)):=((Below.refl _ _).alloc (Nat.le_refl _) _).alloc (by simp) _
 have DO:Hid (Calls Tryz.prog 48 #[.pointer (some ⟨q,0,none⟩),.agg #[.int .i64 (erAC k j).kd,.int .i64 (erAC k j).x,.string (erAC k j).s,.slice none 0 0,.int .i64 (erAC k j).t]] ((w.alloc (.cells #[.pointer (some ⟨q,0,none⟩),.string k] 48)).alloc (.cells #[.int .i64 (erAC k j).kd,.int .i64 (erAC k j).x,.string (erAC k j).s,.slice none 0 0,.int .i64 (erAC k j).t] 53)) fun e w' => e = .returned .nilIface∧(∃ u0 u1 u2,Drv w' B q b (erD k n (j + 1)) u0 u1 u2∧KpD q b v0 v1 v2 u0 u1 u2 ((w.alloc (.cells #[.pointer (some ⟨q,0,none⟩),.string k] 48)).alloc (.cells #[.int .i64 (erAC k j).kd,.int .i64 (erAC k j).x,.string (erAC k j).s,.slice none 0 0,.int .i64 (erAC k j).t] 53)) w')∧Below B ((w.alloc (.cells #[.pointer (some ⟨q,0,none⟩),.string k] 48)).alloc (.cells #[.int .i64 (erAC k j).kd,.int .i64 (erAC k j).x,.string (erAC k j).s,.slice none 0 0,.int .i64 (erAC k j).t] 53)) w'):=do_er B q b k n j h4 hn hj v0 v1 v2 p0 p1 p2 p3 p4 _ (Nat.le_trans hBw hb.size) (hE.below hb) (h.below hb)
 have K0:Hid (Box2 ((w.alloc (.cells #[.pointer (some ⟨q,0,none⟩),.string k] 48)).alloc (.cells #[.int .i64 (erAC k j).kd,.int .i64 (erAC k j).x,.string (erAC k j).s,.slice none 0 0,.int .i64 (erAC k j).t] 53)) w.heap.size 48 (.pointer (some ⟨q,0,none⟩)) (.string k)):=(Box2.made _ _ _ _).alloc _
 have HB:Hid (Below B w ((w.alloc (.cells #[.pointer (some ⟨q,0,none⟩),.string k] 48)).alloc (.cells #[.int .i64 (erAC k j).kd,.int .i64 (erAC k j).x,.string (erAC k j).s,.slice none 0 0,.int .i64 (erAC k j).t] 53))):=hb.mono hBw
 have HK:Hid (KpD q b v0 v1 v2 v0 v1 v2 w ((w.alloc (.cells #[.pointer (some ⟨q,0,none⟩),.string k] 48)).alloc (.cells #[.int .i64 (erAC k j).kd,.int .i64 (erAC k j).x,.string (erAC k j).s,.slice none 0 0,.int .i64 (erAC k j).t] 53))):=KpD.same hb
 have HS:Hid (w.heap.size≤((w.alloc (.cells #[.pointer (some ⟨q,0,none⟩),.string k] 48)).alloc (.cells #[.int .i64 (erAC k j).kd,.int .i64 (erAC k j).x,.string (erAC k j).s,.slice none 0 0,.int .i64 (erAC k j).t] 53)).heap.size):=hb.size
 clear hb hBw hE h
 generalize erD k n (j + 1) = dn at *
 generalize erAC k j = ac at *
 have t0:=K0.out.c0
 have t1:=K0.out.c1
 go_enter Tryz.func28,Tryz.ntmps28
 go_wp2_with fail
 refine DO.out.mono ?_
 rintro e v ⟨rfl,⟨u0,u1,u2,hd,hk⟩,hb⟩
 have HD:Hid (∃ u0 u1 u2,Drv v B q b dn u0 u1 u2∧KpD q b v0 v1 v2 u0 u1 u2 w v):=⟨u0,u1,u2,hd,HK.out.trans HS.out hk⟩
 have HB2:Hid (Below B w v):=HB.out.trans hb
 clear hd hk hb DO HB K0 t0 t1 HK HS
 go_wp2
 go_ret
 exact ⟨rfl,HD.out,HB2.out⟩
set_option maxRecDepth 100000 in
set_option maxHeartbeats 4000000 in
theorem indexEr (B q b x c:Nat) (k:ByteArray) (n:Nat) (h4:4≤n) (hn:n≤64) (v0 v1 v2:Value) (p0 p1 p2 p3 p4:Addr) (w:World) (wE:World) (hEB:wE.heap.size≤B) (hEw:Below wE.heap.size wE w) (hBw:B≤w.heap.size) (hE:Errs wE p0 p1 p2 p3 p4) (h:Drv w B q b (erD k n 0) v0 v1 v2) (ha:ActR w x 4 (erAC k)) (hx:x < B) :
  Calls Tryz.prog 47 #[.slice (some ⟨x,0,none⟩) 4 c,.func (.func 28) #[.agg #[.pointer (some ⟨q,0,none⟩),.string k]] #[]] w fun e w' => e = .returned (.int .i64 (-1))∧(∃ u0 u1 u2,Drv w' B q b (erD k n 4) u0 u1 u2∧KpD q b v0 v1 v2 u0 u1 u2 w w')∧Below B w w':=by
 have RE:Hid (∀ (j:Nat) (v0 v1 v2:Value) (v:World),j < 4→Below B w v→Drv v B q b (erD k n j) v0 v1 v2→Calls Tryz.prog 28 #[.agg #[.pointer (some ⟨q,0,none⟩),.string k],.agg #[.int .i64 (erAC k j).kd,.int .i64 (erAC k j).x,.string (erAC k j).s,.slice none 0 0,.int .i64 (erAC k j).t]] v fun e w' => e = .returned (.bool false)∧(∃ u0 u1 u2,Drv w' B q b (erD k n (j + 1)) u0 u1 u2∧KpD q b v0 v1 v2 u0 u1 u2 v w')∧Below B v w'):=fun j v0 v1 v2 v hj hb h => refuses_er B q b k n j h4 hn hj v0 v1 v2 p0 p1 p2 p3 p4 v (Nat.le_trans hBw hb.size) (hE.below (hEw.trans (hb.mono hEB))) h
 have D0:Hid (Drv w B q b (erD k n 0) v0 v1 v2):=h
 have AR:Hid (ActR w x 4 (erAC k)):=ha
 have HX:Hid (x < B):=hx
 clear h ha hx hE hEw hEB hBw h4 hn
 go_enter Tryz.func47,Tryz.ntmps47
 go_wp2
 go_loopw [8] (fun i wr => ∃ (j:Nat) (u0 u1 u2:Value),j≤4∧i = .int .i64 (j:Int)∧Drv wr B q b (erD k n j) u0 u1 u2∧KpD q b v0 v1 v2 u0 u1 u2 w wr∧Below B w wr) (fun i _ => 4 - (intOf i).toNat)
 case atStart => exact ⟨0,v0,v1,v2,by omega,rfl,D0.out,KpD.same (Below.refl _ _),Below.refl _ _⟩
 case round =>
  obtain ⟨j,u0,u1,u2,hj,rfl,hd,hk,hb⟩:=hrel
  have HK:Hid (KpD q b v0 v1 v2 u0 u1 u2 w wr):=hk
  have HS:Hid (w.heap.size≤wr.heap.size):=hb.size
  clear hk
  have HB:Hid (Below B w wr):=hb
  by_cases hlt:j < 4
  ·have hlt':(j:Int) < 4:=by omega
   have hj0:(0:Int)≤(j:Int):=by omega
   have AK:Hid (ActR wr x 4 (erAC k)):=AR.out.of_block (hb.block x HX.out)
   obtain ⟨q0,q1,q2,q3,q4⟩:=AK.out.act j hlt
   have R1:Hid _:=RE.out j u0 u1 u2 wr hlt hb hd
   clear hb hd
   generalize hac:erAC k j = ac at *
   clear hac
   go_wp2_with fail
   refine Calls.mono R1.out ?_
   rintro e v ⟨rfl,⟨t0,t1,t2,hd,hk⟩,hb⟩
   replace HK:=hid (HK.out.trans HS.out hk)
   have HD:Hid (Drv v B q b (erD k n (j + 1)) t0 t1 t2):=hd
   have HB2:Hid (Below B w v):=HB.out.trans hb
   clear hd hk hb R1 HB AK HS q0 q1 q2 q3 q4
   go_wp2
   go_roundw
   case rel => exact ⟨j + 1,t0,t1,t2,by omega,by go_num,HD.out,HK.out,HB2.out⟩
   case measure => simp [intOf]; omega
  ·have hlt':¬ (j:Int) < 4:=by omega
   obtain rfl:j = 4:=by omega
   have HD:Hid (∃ u0 u1 u2,Drv wr B q b (erD k n 4) u0 u1 u2∧KpD q b v0 v1 v2 u0 u1 u2 w wr):=⟨u0,u1,u2,hd,HK.out⟩
   clear hd hb RE D0 HK HS
   go_wp2
   go_ret
   exact ⟨rfl,HD.out,HB.out⟩
set_option maxRecDepth 100000 in
set_option maxHeartbeats 4000000 in
theorem containsEr (B q b x c:Nat) (k:ByteArray) (n:Nat) (h4:4≤n) (hn:n≤64) (v0 v1 v2:Value) (p0 p1 p2 p3 p4:Addr) (w:World) (wE:World) (hEB:wE.heap.size≤B) (hEw:Below wE.heap.size wE w) (hBw:B≤w.heap.size) (hE:Errs wE p0 p1 p2 p3 p4) (h:Drv w B q b (erD k n 0) v0 v1 v2) (ha:ActR w x 4 (erAC k)) (hx:x < B) :
  Calls Tryz.prog 27 #[.slice (some ⟨x,0,none⟩) 4 c,.func (.func 28) #[.agg #[.pointer (some ⟨q,0,none⟩),.string k]] #[]] w fun e w' => e = .returned (.bool false)∧(∃ u0 u1 u2,Drv w' B q b (erD k n 4) u0 u1 u2∧KpD q b v0 v1 v2 u0 u1 u2 w w')∧Below B w w':=by
 have IX:=hid (indexEr B q b x c k n h4 hn v0 v1 v2 p0 p1 p2 p3 p4 w wE hEB hEw hBw hE h ha hx)
 clear hEw hE h ha hEB hBw hx h4 hn
 go_enter Tryz.func27,Tryz.ntmps27
 go_wp2_with fail
 refine IX.out.mono ?_
 rintro e v ⟨rfl,hd,hb⟩
 have HD:Hid (∃ u0 u1 u2,Drv v B q b (erD k n 4) u0 u1 u2∧KpD q b v0 v1 v2 u0 u1 u2 w v):=hd
 have HB:Hid (Below B w v):=hb
 clear hd hb IX
 go_wp2
 go_ret
 exact ⟨rfl,HD.out,HB.out⟩
end Go.Proofs.YtcpjeopnhgoonaaGreatDoor
