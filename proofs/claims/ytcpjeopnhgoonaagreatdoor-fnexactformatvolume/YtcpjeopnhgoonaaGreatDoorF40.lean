/-
  Texts of the proof, joined.
-/
import Derived.Test.YtcpjeopnhgoonaaGreatDoorF33
namespace Go.Proofs.YtcpjeopnhgoonaaGreatDoor
open Go.ChangeShapes Go.WideShapes Go.ChangeAt Go.RowKit
set_option linter.unusedVariables false
theorem Strs.setAt {w:World} {a:Option Addr} {n:Nat} {f:Nat→ByteArray} (h:Strs w a n f) {p:Addr} {x:Option Addr} {y z:Nat} (hp:w.cell? p = some (.slice x y z)) (v:Value):Strs (w.setCell p v) a n f:=fun i hi => by
 obtain ⟨b,off,ha,hc⟩:=h i hi
 refine ⟨b,off,ha,?_⟩
 rw [World.cell?_setCell_other _ _ _ _ (fun e => by rw [← e,hp] at hc; cases hc)]
 exact hc
theorem Pens.setAt {w:World} {a:Option Addr} {n:Nat} {A:Nat→Int} {D:Nat→ByteArray} (h:Pens w a n A D) {p:Addr} {x:Option Addr} {y z:Nat} (hp:w.cell? p = some (.slice x y z)) (v:Value):Pens (w.setCell p v) a n A D:=fun i hi => by
 obtain ⟨b,off,ha,hc,hd⟩:=h i hi
 refine ⟨b,off,ha,?_,?_⟩
 ·rw [World.cell?_setCell_other _ _ _ _ (fun e => by rw [← e,hp] at hc; cases hc)]
  exact hc
 ·rw [World.cell?_setCell_other _ _ _ _ (fun e => by rw [← e,hp] at hd; cases hd)]
  exact hd
theorem DiskV.setAt {w:World} {d:Dk} {a0 a1 a2:Option Addr} (h:DiskV w d a0 a1 a2) {p:Addr} {x:Option Addr} {y z:Nat} (hp:w.cell? p = some (.slice x y z)) (v:Value):DiskV (w.setCell p v) d a0 a1 a2:=⟨h.1.setAt hp v,h.2.1.setAt hp v,h.2.2.setAt hp v⟩
theorem DiskV.stored {w:World} {d:Dk} {a0 a1 a2:Option Addr} (h:DiskV w d a0 a1 a2) {b:Nat} {t:TypeId} {x0 x1 x2:Option Addr} {y0 y1 y2 z0 z1 z2:Nat} (hb:Box3 w b t (.slice x0 y0 z0) (.slice x1 y1 z1) (.slice x2 y2 z2)) (v0 v1 v2:Value):DiskV (w.setCells b 0 [v0,v1,v2]) d a0 a1 a2:=by
 have h0:=h.setAt (p:=⟨b,0,none⟩) hb.c0 v0
 have e1:(w.setCell ⟨b,0,none⟩ v0).cell? ⟨b,1,none⟩ = some (.slice x1 y1 z1):=(World.cell?_setCell_other _ ⟨b,0,none⟩ ⟨b,1,none⟩ _ (fun q => by have:=congrArg Addr.off q; simp at this)).trans hb.c1
 have h1:=h0.setAt e1 v1
 have e2:((w.setCell ⟨b,0,none⟩ v0).setCell ⟨b,1,none⟩ v1).cell? ⟨b,2,none⟩ = some (.slice x2 y2 z2):=(World.cell?_setCell_other _ ⟨b,1,none⟩ ⟨b,2,none⟩ _ (fun q => by have:=congrArg Addr.off q; simp at this)).trans ((World.cell?_setCell_other _ ⟨b,0,none⟩ ⟨b,2,none⟩ _ (fun q => by have:=congrArg Addr.off q; simp at this)).trans hb.c2)
 exact h1.setAt e2 v2
set_option maxRecDepth 100000 in
set_option maxHeartbeats 4000000 in
theorem unsealed_nil (k:ByteArray) (p:Int) (a:Option Addr) (n c:Nat) (hn:n < 4) (w:World) :
  Calls Tryz.prog 132 #[.string k,.int .i64 p,.slice a n c] w fun e w' => e = .returned (.tuple #[.agg #[.int .i64 0,.string ⟨#[]⟩],.int .i64 10])∧Below w.heap.size w w':=by
 have x1:(n:Int) < 4:=by omega
 clear hn
 go_enter Tryz.func132,Tryz.ntmps132
 go_wp2
 exact ret_cell2 (b:=w.heap.size) (v:=.agg #[.int .i64 0,.string ⟨#[]⟩]) Tryz.results132 rfl rfl (by go_simp) ⟨rfl,(Below.refl _ _).alloc (Nat.le_refl _) _⟩
set_option maxRecDepth 100000 in
set_option maxHeartbeats 4000000 in
theorem l06Read_nil (k:ByteArray) (p:Int) (w:World) :
  Calls Tryz.prog 77 #[.string k,.int .i64 p,.string ⟨#[]⟩] w fun e w' => e = .returned (.tuple #[.agg #[.int .i64 0,.string ⟨#[]⟩],.bool false])∧Below w.heap.size w w':=by
 go_enter Tryz.func77,Tryz.ntmps77
 go_wp2
 exact ret_cell2 (b:=w.heap.size) (v:=.agg #[.int .i64 0,.string ⟨#[]⟩]) Tryz.results77 rfl rfl (by go_simp) ⟨rfl,(Below.refl _ _).alloc (Nat.le_refl _) _⟩
def X6 (w:World) (b:Nat):Prop:=w.rowIs b 66 6 (fun i => (#[.int .i64 0,.int .i64 0,.slice none 0 0,.string ⟨#[]⟩,.slice none 0 0,.slice none 0 0]:Array Value).getD i undef)
theorem X6.made (w:World):X6 (w.alloc (.cells #[.int .i64 0,.int .i64 0,.slice none 0 0,.string ⟨#[]⟩,.slice none 0 0,.slice none 0 0] 66)) w.heap.size:=World.rowIs_alloc w #[.int .i64 0,.int .i64 0,.slice none 0 0,.string ⟨#[]⟩,.slice none 0 0,.slice none 0 0] 66 _ (fun i hi => by
 match i,hi with
 | 0,_ => rfl
 | 1,_ => rfl
 | 2,_ => rfl
 | 3,_ => rfl
 | 4,_ => rfl
 | 5,_ => rfl)
theorem X6.madeAt {w:World} {b:Nat} (hb:w.heap.size = b):X6 (w.alloc (.cells #[.int .i64 0,.int .i64 0,.slice none 0 0,.string ⟨#[]⟩,.slice none 0 0,.slice none 0 0] 66)) b:=by subst hb; exact X6.made w
theorem X6.lt {w:World} {b:Nat} (h:X6 w b):b < w.heap.size:=World.rowIs.lt h
theorem X6.below {w w':World} {b:Nat} (h:X6 w b) (hb:Below w.heap.size w w'):X6 w' b:=World.rowIs.of_block h (hb.block b h.lt)
theorem X6.cell {w:World} {b:Nat} (h:X6 w b):w.cell? ⟨b,0,none⟩ = some (.int .i64 0)∧w.cell? ⟨b,1,none⟩ = some (.int .i64 0)∧w.cell? ⟨b,2,none⟩ = some (.slice none 0 0)∧w.cell? ⟨b,3,none⟩ = some (.string ⟨#[]⟩)∧w.cell? ⟨b,4,none⟩ = some (.slice none 0 0)∧w.cell? ⟨b,5,none⟩ = some (.slice none 0 0):=⟨World.rowIs.cell h (i:=0) (by omega),World.rowIs.cell h (i:=1) (by omega),World.rowIs.cell h (i:=2) (by omega),World.rowIs.cell h (i:=3) (by omega),World.rowIs.cell h (i:=4) (by omega),World.rowIs.cell h (i:=5) (by omega)⟩
theorem X6.free {w:World} {b:Nat} (h:X6 w b):w.frozen? ⟨b,0,none⟩ = false∧w.frozen? ⟨b,1,none⟩ = false∧w.frozen? ⟨b,2,none⟩ = false∧w.frozen? ⟨b,3,none⟩ = false∧w.frozen? ⟨b,4,none⟩ = false∧w.frozen? ⟨b,5,none⟩ = false:=⟨World.rowIs.frozen h 0,World.rowIs.frozen h 1,World.rowIs.frozen h 2,World.rowIs.frozen h 3,World.rowIs.frozen h 4,World.rowIs.frozen h 5⟩
def x6set (w:World) (b:Nat):World:=((((((w.setCell ⟨b,0,none⟩ (.int .i64 0)).setCell ⟨b,1,none⟩ (.int .i64 0)).setCell ⟨b,2,none⟩ (.slice none 0 0)).setCell ⟨b,3,none⟩ (.string ⟨#[]⟩)).setCell ⟨b,4,none⟩ (.slice none 0 0)).setCell ⟨b,5,none⟩ (.slice none 0 0))
theorem x6set_only (w:World) (b:Nat):OnlyB b w (x6set w b):=((((((OnlyB.refl _ w).setCell 0 _).setCell 1 _).setCell 2 _).setCell 3 _).setCell 4 _).setCell 5 _
theorem X6.again {w:World} {b:Nat} (h:X6 w b):X6 (x6set w b) b:=by
 have e0:=World.rowIs.set (World.rowIs.set (World.rowIs.set (World.rowIs.set (World.rowIs.set (World.rowIs.set h 0 (.int .i64 0)) 1 (.int .i64 0)) 2 (.slice none 0 0)) 3 (.string ⟨#[]⟩)) 4 (.slice none 0 0)) 5 (.slice none 0 0)
 refine World.rowIs.congr e0 (fun i hi => ?_)
 rcases (show i = 0∨i = 1∨i = 2∨i = 3∨i = 4∨i = 5 by omega) with rfl | rfl | rfl | rfl | rfl | rfl <;> rfl
set_option maxRecDepth 100000 in
set_option maxHeartbeats 4000000 in
theorem l13Slot_new (k:ByteArray) (n p:Nat) (hn:n≤64) (hp:p < n) (a0 a1 a2:Option Addr) (c0 c1 c2:Nat) (w:World) (h:DiskV w (newD n) a0 a1 a2) :
  Calls Tryz.prog 49 #[.string k,.agg #[.slice a0 n c0,.slice a1 0 c1,.slice a2 0 c2],.int .i64 (p:Int)] w fun e w' => e = .returned (.tuple #[.agg #[.int .i64 0,.int .i64 0,.slice none 0 0,.string ⟨#[]⟩,.slice none 0 0,.slice none 0 0],.int .i64 5])∧Below w.heap.size w w':=by
 have A1:Hid (Below w.heap.size w ((w.alloc (.cells #[.slice a0 n c0,.slice a1 0 c1,.slice a2 0 c2] 25)).alloc (.cells #[.int .i64 0,.int .i64 0,.slice none 0 0,.string ⟨#[]⟩,.slice none 0 0,.slice none 0 0] 66))):=((Below.refl _ _).alloc (Nat.le_refl _) _).alloc (by simp) _
 have X1:Hid (X6 ((w.alloc (.cells #[.slice a0 n c0,.slice a1 0 c1,.slice a2 0 c2] 25)).alloc (.cells #[.int .i64 0,.int .i64 0,.slice none 0 0,.string ⟨#[]⟩,.slice none 0 0,.slice none 0 0] 66)) (w.heap.size + 1)):=X6.madeAt (by simp)
 have RD:Hid (Calls Tryz.prog 35 #[.agg #[.slice a0 n c0,.slice a1 0 c1,.slice a2 0 c2],.int .i64 (p:Int)] ((w.alloc (.cells #[.slice a0 n c0,.slice a1 0 c1,.slice a2 0 c2] 25)).alloc (.cells #[.int .i64 0,.int .i64 0,.slice none 0 0,.string ⟨#[]⟩,.slice none 0 0,.slice none 0 0] 66)) fun e w' => e = .returned (.string ⟨#[]⟩)∧Below ((w.alloc (.cells #[.slice a0 n c0,.slice a1 0 c1,.slice a2 0 c2] 25)).alloc (.cells #[.int .i64 0,.int .i64 0,.slice none 0 0,.string ⟨#[]⟩,.slice none 0 0,.slice none 0 0] 66)).heap.size ((w.alloc (.cells #[.slice a0 n c0,.slice a1 0 c1,.slice a2 0 c2] 25)).alloc (.cells #[.int .i64 0,.int .i64 0,.slice none 0 0,.string ⟨#[]⟩,.slice none 0 0,.slice none 0 0] 66)) w'):=l05Read_any (newD n) a0 a1 a2 c0 c1 c2 p hp hn (by show (0:Nat)≤_; omega) _ (h.below A1.out)
 have B1:Hid (Box3 ((w.alloc (.cells #[.slice a0 n c0,.slice a1 0 c1,.slice a2 0 c2] 25)).alloc (.cells #[.int .i64 0,.int .i64 0,.slice none 0 0,.string ⟨#[]⟩,.slice none 0 0,.slice none 0 0] 66)) w.heap.size 25 (.slice a0 n c0) (.slice a1 0 c1) (.slice a2 0 c2)):=(Box3.made w _ _ _ _).alloc _
 clear h hn hp
 have t0:=B1.out.c0
 have t1:=B1.out.c1
 have t2:=B1.out.c2
 go_enter Tryz.func49,Tryz.ntmps49
 go_wp2_with fail
 refine RD.out.mono ?_
 generalize ((w.alloc (.cells #[.slice a0 n c0,.slice a1 0 c1,.slice a2 0 c2] 25)).alloc (.cells #[.int .i64 0,.int .i64 0,.slice none 0 0,.string ⟨#[]⟩,.slice none 0 0,.slice none 0 0] 66)) = u at *
 rintro e v ⟨rfl,hb⟩
 replace A1:=hid (A1.out.trans (hb.mono A1.out.size))
 replace X1:=hid (X1.out.below hb)
 clear hb RD B1 t0 t1 t2 u
 go_wp2_with fail
 refine (l06Read_nil k (p:Int) v).mono ?_
 rintro e v2 ⟨rfl,hb⟩
 replace A1:=hid (A1.out.trans (hb.mono A1.out.size))
 replace X1:=hid (X1.out.below hb)
 clear hb v
 have hlt:w.heap.size + 1 < v2.heap.size:=X1.out.lt
 have A2:Hid (Below w.heap.size w (v2.alloc (.cells #[.int .i64 0,.string ⟨#[]⟩] 81))):=A1.out.alloc A1.out.size _
 have X2:Hid (X6 (v2.alloc (.cells #[.int .i64 0,.string ⟨#[]⟩] 81)) (w.heap.size + 1)):=X1.out.below ((Below.refl _ _).alloc (Nat.le_refl _) _)
 have A3:Hid (Below w.heap.size w (x6set (v2.alloc (.cells #[.int .i64 0,.string ⟨#[]⟩] 81)) (w.heap.size + 1))):=A2.out.trans ((x6set_only _ _).toBelow (by omega) A2.out.size)
 have X3:=hid (X2.out.again)
 obtain ⟨h0,h1,h2,h3,h4,h5⟩:=X2.out.cell
 obtain ⟨j0,j1,j2,j3,j4,j5⟩:=X2.out.free
 clear hlt A1 X1
 go_wp2
 clear h0 h1 h2 h3 h4 h5 j0 j1 j2 j3 j4 j5 A2 X2
 unfold x6set at A3 X3
 generalize (((((((v2.alloc (.cells #[.int .i64 0,.string ⟨#[]⟩] 81)).setCell ⟨w.heap.size + 1,0,none⟩ (.int .i64 0)).setCell ⟨w.heap.size + 1,1,none⟩ (.int .i64 0)).setCell ⟨w.heap.size + 1,2,none⟩ (.slice none 0 0)).setCell ⟨w.heap.size + 1,3,none⟩ (.string ⟨#[]⟩)).setCell ⟨w.heap.size + 1,4,none⟩ (.slice none 0 0)).setCell ⟨w.heap.size + 1,5,none⟩ (.slice none 0 0)) = u5 at *
 obtain ⟨y0,y1,y2,y3,y4,y5⟩:=X3.out.cell
 exact ret_cell2 (b:=w.heap.size + 1) (v:=.agg #[.int .i64 0,.int .i64 0,.slice none 0 0,.string ⟨#[]⟩,.slice none 0 0,.slice none 0 0]) Tryz.results49 rfl rfl (by go_simp) ⟨rfl,A3.out⟩
set_option maxRecDepth 100000 in
set_option maxHeartbeats 4000000 in
theorem l13Newest_new (k:ByteArray) (n:Nat) (hn:n≤64) (h4:4≤n) (a0 a1 a2:Option Addr) (c0 c1 c2:Nat) (w:World) (h:DiskV w (newD n) a0 a1 a2) :
  Calls Tryz.prog 31 #[.string k,.agg #[.slice a0 n c0,.slice a1 0 c1,.slice a2 0 c2]] w fun e w' => e = .returned (.agg #[.int .i64 0,.int .i64 0,.slice none 0 0,.string ⟨#[]⟩,.slice none 0 0,.slice none 0 0])∧Below w.heap.size w w':=by
 have A1:Hid (Below w.heap.size w (((w.alloc (.cells #[.slice a0 n c0,.slice a1 0 c1,.slice a2 0 c2] 25)).alloc (.cells #[.int .i64 0,.int .i64 0,.slice none 0 0,.string ⟨#[]⟩,.slice none 0 0,.slice none 0 0] 66)).alloc (.cells #[.int .i64 0,.int .i64 0,.slice none 0 0,.string ⟨#[]⟩,.slice none 0 0,.slice none 0 0] 66))):=(((Below.refl _ _).alloc (Nat.le_refl _) _).alloc (by simp) _).alloc (by simp; omega) _
 have Z3:Hid (X6 (((w.alloc (.cells #[.slice a0 n c0,.slice a1 0 c1,.slice a2 0 c2] 25)).alloc (.cells #[.int .i64 0,.int .i64 0,.slice none 0 0,.string ⟨#[]⟩,.slice none 0 0,.slice none 0 0] 66)).alloc (.cells #[.int .i64 0,.int .i64 0,.slice none 0 0,.string ⟨#[]⟩,.slice none 0 0,.slice none 0 0] 66)) (w.heap.size + 1)):=(X6.madeAt (by simp)).below ((Below.refl _ _).alloc (Nat.le_refl _) _)
 have Z4:Hid (X6 (((w.alloc (.cells #[.slice a0 n c0,.slice a1 0 c1,.slice a2 0 c2] 25)).alloc (.cells #[.int .i64 0,.int .i64 0,.slice none 0 0,.string ⟨#[]⟩,.slice none 0 0,.slice none 0 0] 66)).alloc (.cells #[.int .i64 0,.int .i64 0,.slice none 0 0,.string ⟨#[]⟩,.slice none 0 0,.slice none 0 0] 66)) (w.heap.size + 2)):=X6.madeAt (by simp)
 have B1:Hid (Box3 (((w.alloc (.cells #[.slice a0 n c0,.slice a1 0 c1,.slice a2 0 c2] 25)).alloc (.cells #[.int .i64 0,.int .i64 0,.slice none 0 0,.string ⟨#[]⟩,.slice none 0 0,.slice none 0 0] 66)).alloc (.cells #[.int .i64 0,.int .i64 0,.slice none 0 0,.string ⟨#[]⟩,.slice none 0 0,.slice none 0 0] 66)) w.heap.size 25 (.slice a0 n c0) (.slice a1 0 c1) (.slice a2 0 c2)):=((Box3.made w _ _ _ _).alloc _).alloc _
 have D1:Hid (DiskV (((w.alloc (.cells #[.slice a0 n c0,.slice a1 0 c1,.slice a2 0 c2] 25)).alloc (.cells #[.int .i64 0,.int .i64 0,.slice none 0 0,.string ⟨#[]⟩,.slice none 0 0,.slice none 0 0] 66)).alloc (.cells #[.int .i64 0,.int .i64 0,.slice none 0 0,.string ⟨#[]⟩,.slice none 0 0,.slice none 0 0] 66)) (newD n) a0 a1 a2):=h.below A1.out
 have ST:Hid (∀ (p:Nat) (w:World),p < 2→DiskV w (newD n) a0 a1 a2→Calls Tryz.prog 49 #[.string k,.agg #[.slice a0 n c0,.slice a1 0 c1,.slice a2 0 c2],.int .i64 (p:Int)] w fun e w' => e = .returned (.tuple #[.agg #[.int .i64 0,.int .i64 0,.slice none 0 0,.string ⟨#[]⟩,.slice none 0 0,.slice none 0 0],.int .i64 5])∧Below w.heap.size w w'):=fun p w hp h => l13Slot_new k n p hn (by omega) a0 a1 a2 c0 c1 c2 w h
 clear h hn h4
 go_enter Tryz.func31,Tryz.ntmps31
 go_wp2
 rw [show w.heap.size + 1 + 1 = w.heap.size + 2 from rfl]
 generalize (((w.alloc (.cells #[.slice a0 n c0,.slice a1 0 c1,.slice a2 0 c2] 25)).alloc (.cells #[.int .i64 0,.int .i64 0,.slice none 0 0,.string ⟨#[]⟩,.slice none 0 0,.slice none 0 0] 66)).alloc (.cells #[.int .i64 0,.int .i64 0,.slice none 0 0,.string ⟨#[]⟩,.slice none 0 0,.slice none 0 0] 66)) = u at *
 go_loopw [6] (fun i wr => ∃ p:Nat,p≤2∧i = .int .i64 (p:Int)∧Box3 wr w.heap.size 25 (.slice a0 n c0) (.slice a1 0 c1) (.slice a2 0 c2)∧X6 wr (w.heap.size + 1)∧X6 wr (w.heap.size + 2)∧DiskV wr (newD n) a0 a1 a2∧Below w.heap.size w wr) (fun i _ => 2 - (intOf i).toNat)
 case atStart => exact ⟨0,by omega,rfl,B1.out,Z3.out,Z4.out,D1.out,A1.out⟩
 case round =>
  clear A1 B1 Z3 Z4 D1
  obtain ⟨p,hp,rfl,k1,z1,z2,d1,hb⟩:=hrel
  by_cases hlt:p < 2
  ·have hlt':(p:Int) < 2:=by omega
   have CS:Hid _:=ST.out p wr hlt d1
   have K1:Hid (Box3 wr w.heap.size 25 (.slice a0 n c0) (.slice a1 0 c1) (.slice a2 0 c2)):=k1
   have Z1:Hid (X6 wr (w.heap.size + 1)):=z1
   have Z2:Hid (X6 wr (w.heap.size + 2)):=z2
   have D1:Hid (DiskV wr (newD n) a0 a1 a2):=d1
   have A1:Hid (Below w.heap.size w wr):=hb
   have t0:=k1.c0
   have t1:=k1.c1
   have t2:=k1.c2
   clear k1 z1 z2 d1 hb ST
   go_wp2_with fail
   refine Calls.mono CS.out ?_
   rintro e v ⟨rfl,hb⟩
   replace K1:=hid (K1.out.below hb)
   replace Z1:=hid (Z1.out.below hb)
   replace Z2:=hid (Z2.out.below hb)
   replace D1:=hid (D1.out.below hb)
   replace A1:=hid (A1.out.trans (hb.mono A1.out.size))
   clear hb t0 t1 t2 CS
   have hb:Below v.heap.size v (v.alloc (.cells #[.int .i64 0,.int .i64 0,.slice none 0 0,.string ⟨#[]⟩,.slice none 0 0,.slice none 0 0] 66)):=(Below.refl v.heap.size v).alloc (Nat.le_refl _) _
   have HB:=hid hb
   clear hb
   go_wp2
   have hb:=HB.out
   exact ⟨⟨p + 1,by omega,by go_num,K1.out.below hb,Z1.out.below hb,Z2.out.below hb,D1.out.below hb,A1.out.trans (hb.mono A1.out.size)⟩,by simp [intOf]; omega⟩
  ·have hlt':¬ (p:Int) < 2:=by omega
   have A3:Hid (Below w.heap.size w (x6set wr (w.heap.size + 1))):=hb.trans ((x6set_only _ _).toBelow (by omega) hb.size)
   have X3:=hid (z1.again)
   obtain ⟨h0,h1,h2,h3,h4,h5⟩:=z1.cell
   obtain ⟨j0,j1,j2,j3,j4,j5⟩:=z1.free
   obtain ⟨q0,q1,q2,q3,q4,q5⟩:=z2.cell
   clear k1 z1 z2 d1 hb ST
   go_wp2
   clear h0 h1 h2 h3 h4 h5 j0 j1 j2 j3 j4 j5 q0 q1 q2 q3 q4 q5
   unfold x6set at A3 X3
   generalize ((((((wr.setCell ⟨w.heap.size + 1,0,none⟩ (.int .i64 0)).setCell ⟨w.heap.size + 1,1,none⟩ (.int .i64 0)).setCell ⟨w.heap.size + 1,2,none⟩ (.slice none 0 0)).setCell ⟨w.heap.size + 1,3,none⟩ (.string ⟨#[]⟩)).setCell ⟨w.heap.size + 1,4,none⟩ (.slice none 0 0)).setCell ⟨w.heap.size + 1,5,none⟩ (.slice none 0 0)) = u5 at *
   obtain ⟨y0,y1,y2,y3,y4,y5⟩:=X3.out.cell
   exact ret_cell (b:=w.heap.size + 1) (v:=.agg #[.int .i64 0,.int .i64 0,.slice none 0 0,.string ⟨#[]⟩,.slice none 0 0,.slice none 0 0]) Tryz.results31 rfl (by go_simp) ⟨rfl,A3.out⟩
theorem newD_ok {n:Nat} (h1:1≤n) (h2:n≤64):(newD n).Ok:=⟨h1,h2,by show (0:Nat)≤4096; omega,.inl rfl,fun _ _ => by show (⟨#[]⟩:ByteArray).size≤200; decide,fun i h => absurd h (Nat.not_lt_zero _),fun i h => absurd h (Nat.not_lt_zero _)⟩
def FmA (k:ByteArray) (x:Int) (d:Dk) (code:Int):Prop:=(65536 < k.size∧d = newD 0∧code = 2)∨(¬ 65536 < k.size∧k.size≠32∧d = newD 0∧code = 1)∨(k.size = 32∧¬ (4≤x∧x≤64)∧d = newD 0∧code = 4)∨(k.size = 32∧(4≤x∧x≤64)∧d = newD x.toNat∧code = 0)
theorem retD_none {B:Nat} {w':World} (code:Int):RetD B w' (.returned (.tuple #[.agg #[.slice none 0 0,.slice none 0 0,.slice none 0 0],.int .i64 code])) (newD 0) code:=⟨_,_,_,_,_,_,_,_,_,rfl,RowD.empty _ none none none,fun h => absurd h (Nat.lt_irrefl 0),fun h => absurd h (Nat.lt_irrefl 0),fun h => absurd h (Nat.lt_irrefl 0)⟩
set_option maxRecDepth 100000 in
set_option maxHeartbeats 1000000 in
theorem toFormat_new (k:ByteArray) (x:Int) (d:Dk) (code:Int) (hk:k.size = 32) (h4:¬ x < 4) (h:(1≤x∧x≤64∧d = newD x.toNat∧code = 0)∨(¬ (1≤x∧x≤64)∧d = newD 0∧code = 4)) (w:World) :
  Calls Tryz.prog 12 #[.string k,.int .i64 x] w fun e w' => RetD w.heap.size w' e d code∧Below w.heap.size w w':=by
 have x1:¬ (65536:Int) < (k.size:Int):=by omega
 have x2:(k.size:Int) = 32:=by omega
 have NW:Hid (∀ w:World,Calls Tryz.prog 23 #[.int .i64 x] w fun e w' => RetD w.heap.size w' e d code∧Below w.heap.size w w'):=implNew_any x d code h
 have X0:Hid (Box3 (w.alloc (.cells #[.slice none 0 0,.slice none 0 0,.slice none 0 0] 25)) w.heap.size 25 (.slice none 0 0) (.slice none 0 0) (.slice none 0 0)):=Box3.made _ _ _ _ _
 have A0:Hid (Below w.heap.size w (w.alloc (.cells #[.slice none 0 0,.slice none 0 0,.slice none 0 0] 25))):=(Below.refl _ _).alloc (Nat.le_refl _) _
 clear h hk
 go_enter Tryz.func12,Tryz.ntmps12
 go_wp2_with fail
 refine (NW.out _).mono ?_
 generalize (w.alloc (.cells #[.slice none 0 0,.slice none 0 0,.slice none 0 0] 25)) = u at *
 rintro e v ⟨⟨a0,a1,a2,c0,c1,c2,g0,g1,g2,rfl,hr,q0,q1,q2⟩,hb⟩
 have XB:Hid (Box3 v w.heap.size 25 (.slice none 0 0) (.slice none 0 0) (.slice none 0 0)):=X0.out.below hb
 have AB:Hid (Below w.heap.size w v):=A0.out.trans (hb.mono A0.out.size)
 have ho:OnlyB w.heap.size v (((v.setCell ⟨w.heap.size,0,none⟩ (.slice a0 d.nb c0)).setCell ⟨w.heap.size,1,none⟩ (.slice a1 d.nc c1)).setCell ⟨w.heap.size,2,none⟩ (.slice a2 d.ns c2)):=(((OnlyB.refl _ v).setCell 0 _).setCell 1 _).setCell 2 _
 have hlt:w.heap.size < u.heap.size:=X0.out.lt
 have HR:Hid (RowD (((v.setCell ⟨w.heap.size,0,none⟩ (.slice a0 d.nb c0)).setCell ⟨w.heap.size,1,none⟩ (.slice a1 d.nc c1)).setCell ⟨w.heap.size,2,none⟩ (.slice a2 d.ns c2)) d a0 a1 a2 g0 g1 g2):=⟨hr.s0.onlyB ho (fun h => by have:=q0 h; omega),hr.s1.onlyB ho (fun h => by have:=q1 h; omega),hr.s2.onlyB ho (fun h => by have:=q2 h; omega),hr.n01,hr.n02,hr.n12⟩
 have HQ:Hid ((0 < d.nb→w.heap.size≤g0)∧(0 < d.nc→w.heap.size≤g1)∧(0 < d.ns→w.heap.size≤g2)):=⟨fun h => by have:=q0 h; omega,fun h => by have:=q1 h; omega,fun h => by have:=q2 h; omega⟩
 have X5:Hid (Box3 (((v.setCell ⟨w.heap.size,0,none⟩ (.slice a0 d.nb c0)).setCell ⟨w.heap.size,1,none⟩ (.slice a1 d.nc c1)).setCell ⟨w.heap.size,2,none⟩ (.slice a2 d.ns c2)) w.heap.size 25 (.slice a0 d.nb c0) (.slice a1 d.nc c1) (.slice a2 d.ns c2)):=((XB.out.set0 _).set1 _).set2 _
 have B5:Hid (Below w.heap.size w (((v.setCell ⟨w.heap.size,0,none⟩ (.slice a0 d.nb c0)).setCell ⟨w.heap.size,1,none⟩ (.slice a1 d.nc c1)).setCell ⟨w.heap.size,2,none⟩ (.slice a2 d.ns c2))):=AB.out.trans (ho.toBelow (Nat.le_refl _) AB.out.size)
 have x0:=XB.out.c0
 have x3:=XB.out.c1
 have x4:=XB.out.c2
 have f0:=XB.out.fr 0
 have f1:=XB.out.fr 1
 have f2:=XB.out.fr 2
 clear ho hr q0 q1 q2 hb NW X0 A0 XB AB hlt
 go_wp2
 generalize (((v.setCell ⟨w.heap.size,0,none⟩ (.slice a0 d.nb c0)).setCell ⟨w.heap.size,1,none⟩ (.slice a1 d.nc c1)).setCell ⟨w.heap.size,2,none⟩ (.slice a2 d.ns c2)) = u5 at *
 clear x0 x3 x4 f0 f1 f2
 have y0:=X5.out.c0
 have y1:=X5.out.c1
 have y2:=X5.out.c2
 exact ret_cell2 (b:=w.heap.size) (v:=.agg #[.slice a0 d.nb c0,.slice a1 d.nc c1,.slice a2 d.ns c2]) Tryz.results12 rfl rfl (by go_simp) ⟨⟨a0,a1,a2,c0,c1,c2,g0,g1,g2,rfl,HR.out,HQ.out.1,HQ.out.2.1,HQ.out.2.2⟩,B5.out⟩
set_option maxRecDepth 100000 in
set_option maxHeartbeats 1000000 in
theorem toFormat_any (k:ByteArray) (x:Int) (d:Dk) (code:Int) (h:FmA k x d code) (w:World) :
  Calls Tryz.prog 12 #[.string k,.int .i64 x] w fun e w' => RetD w.heap.size w' e d code∧Below w.heap.size w w':=by
 rcases h with ⟨h1,rfl,rfl⟩ | ⟨h1,h2,rfl,rfl⟩ | ⟨h1,h2,rfl,rfl⟩ | ⟨h1,h2,rfl,rfl⟩
 ·have x1:(65536:Int) < (k.size:Int):=by omega
  go_enter Tryz.func12,Tryz.ntmps12
  go_wp2
  exact ret_cell2 (b:=w.heap.size) (v:=.agg #[.slice none 0 0,.slice none 0 0,.slice none 0 0]) Tryz.results12 rfl rfl (by go_simp) ⟨retD_none _,(Below.refl w.heap.size w).alloc (Nat.le_refl _) _⟩
 ·have x1:¬ (65536:Int) < (k.size:Int):=by omega
  have x2:((k.size:Int) == 32) = false:=by simp; omega
  go_enter Tryz.func12,Tryz.ntmps12
  go_wp2
  exact ret_cell2 (b:=w.heap.size) (v:=.agg #[.slice none 0 0,.slice none 0 0,.slice none 0 0]) Tryz.results12 rfl rfl (by go_simp) ⟨retD_none _,(Below.refl w.heap.size w).alloc (Nat.le_refl _) _⟩
 ·by_cases h4:x < 4
  ·go_enter Tryz.func12,Tryz.ntmps12
   go_wp2
   exact ret_cell2 (b:=w.heap.size) (v:=.agg #[.slice none 0 0,.slice none 0 0,.slice none 0 0]) Tryz.results12 rfl rfl (by go_simp) ⟨retD_none _,(Below.refl w.heap.size w).alloc (Nat.le_refl _) _⟩
  ·exact toFormat_new k x (newD 0) 4 h1 h4 (.inr ⟨by omega,rfl,rfl⟩) w
 ·exact toFormat_new k x _ 0 h1 (by omega) (.inl ⟨by omega,h2.2,rfl,rfl⟩) w
set_option maxRecDepth 100000 in
set_option maxHeartbeats 1000000 in
theorem volFault_new (k:ByteArray) (n:Nat) (hk:k.size = 32) (h1:4≤n) (h2:n≤64) (a0 a1 a2:Option Addr) (c0 c1 c2:Nat) (p0 p1:Addr) (w:World) (h:DiskV w (newD n) a0 a1 a2) (hE0:ErrAt w 4 p0) (hE1:ErrAt w 5 p1) :
  Calls Tryz.prog 41 #[.string k,.agg #[.slice a0 n c0,.slice a1 0 c1,.slice a2 0 c2]] w fun e w' => e = .returned (.int .i64 0)∧Below w.heap.size w w':=by
 have A0:Hid (Below w.heap.size w (w.alloc (.cells #[.slice a0 n c0,.slice a1 0 c1,.slice a2 0 c2] 25))):=(Below.refl _ _).alloc (Nat.le_refl _) _
 have X0:Hid (Box3 (w.alloc (.cells #[.slice a0 n c0,.slice a1 0 c1,.slice a2 0 c2] 25)) w.heap.size 25 (.slice a0 n c0) (.slice a1 0 c1) (.slice a2 0 c2)):=Box3.made _ _ _ _ _
 have SF:Hid (Calls Tryz.prog 59 #[.string k,.string ⟨#[]⟩,.agg #[.slice a0 n c0,.slice a1 0 c1,.slice a2 0 c2]] (w.alloc (.cells #[.slice a0 n c0,.slice a1 0 c1,.slice a2 0 c2] 25)) fun e w' => e = .returned (.int .i64 0)∧Below (w.alloc (.cells #[.slice a0 n c0,.slice a1 0 c1,.slice a2 0 c2] 25)).heap.size (w.alloc (.cells #[.slice a0 n c0,.slice a1 0 c1,.slice a2 0 c2] 25)) w'):=slotsFault_any k ⟨#[]⟩ (newD n) a0 a1 a2 c0 c1 c2 0 (.inr (.inr (.inr ⟨hk,by show (0:Nat)≤65536; omega,newD_ok (by omega) h2,by show 2≤n; omega,rfl⟩))) ⟨by show n≤_; omega,by show (0:Nat)≤_; omega,by show (0:Nat)≤_; omega⟩ p0 p1 _ (h.below A0.out) (hE0.below A0.out) (hE1.below A0.out)
 have x4:¬ (n:Int) < 4:=by omega
 clear h hE0 hE1 hk h1 h2
 go_enter Tryz.func41,Tryz.ntmps41
 go_wp2_with fail
 refine SF.out.mono ?_
 generalize (w.alloc (.cells #[.slice a0 n c0,.slice a1 0 c1,.slice a2 0 c2] 25)) = u at *
 rintro e v ⟨rfl,hb⟩
 have X1:Hid (Box3 v w.heap.size 25 (.slice a0 n c0) (.slice a1 0 c1) (.slice a2 0 c2)):=X0.out.below hb
 have A1:Hid (Below w.heap.size w v):=A0.out.trans (hb.mono A0.out.size)
 have y0:=X1.out.c0
 clear hb A0 X0 SF
 go_wp2
 go_ret
 exact ⟨rfl,A1.out⟩
set_option maxRecDepth 100000 in
set_option maxHeartbeats 1000000 in
theorem onDisk_new (k:ByteArray) (n:Nat) (a0 a1 a2:Option Addr) (c0 c1 c2:Nat) (w:World) (h:DiskV w (newD n) a0 a1 a2) :
  Calls Tryz.prog 25 #[.string k,.agg #[.slice a0 n c0,.slice a1 0 c1,.slice a2 0 c2]] w fun e w' => (∃ q b,e = .returned (.agg #[.pointer (some ⟨q,0,none⟩),.string k])∧Box4 w' q 57 (.slice a0 n c0) (.slice a1 0 c1) (.slice a2 0 c2) (.map (some b))∧MapI w' b (lastM (newD n).A (newD n).D 0))∧Below w.heap.size w w':=by
 have A0:Hid (Below w.heap.size w ((w.alloc (.cells #[.slice a0 n c0,.slice a1 0 c1,.slice a2 0 c2] 25)).alloc (.cells #[.pointer none,.string ⟨#[]⟩] 48))):=((Below.refl _ _).alloc (Nat.le_refl _) _).alloc (by simp) _
 have X0:Hid (Box3 ((w.alloc (.cells #[.slice a0 n c0,.slice a1 0 c1,.slice a2 0 c2] 25)).alloc (.cells #[.pointer none,.string ⟨#[]⟩] 48)) w.heap.size 25 (.slice a0 n c0) (.slice a1 0 c1) (.slice a2 0 c2)):=(Box3.made _ _ _ _ _).alloc _
 have DO:Hid (∀ w:World,Pens w a1 0 (newD n).A (newD n).D→Calls Tryz.prog 45 #[.agg #[.slice a0 n c0,.slice a1 0 c1,.slice a2 0 c2]] w fun e w' => e = .returned (.pointer (some ⟨w.heap.size + 2,0,none⟩))∧Box4 w' (w.heap.size + 2) 57 (.slice a0 n c0) (.slice a1 0 c1) (.slice a2 0 c2) (.map (some (w.heap.size + 1)))∧MapI w' (w.heap.size + 1) (lastM (newD n).A (newD n).D 0)∧Below w.heap.size w w'):=fun w h => driveOf_any (newD n) a0 a1 a2 c0 c1 c2 (by show (0:Nat)≤_; omega) w h
 have PN:Hid (∀ w:World,Pens w a1 0 (newD n).A (newD n).D):=fun w i hi => absurd hi (Nat.not_lt_zero _)
 clear h
 have Z0:Hid (Box2 ((w.alloc (.cells #[.slice a0 n c0,.slice a1 0 c1,.slice a2 0 c2] 25)).alloc (.cells #[.pointer none,.string ⟨#[]⟩] 48)) (w.heap.size + 1) 48 (.pointer none) (.string ⟨#[]⟩)):=Box2.madeAt (by simp) _ _ _
 have y0:=X0.out.c0
 have y1:=X0.out.c1
 have y2:=X0.out.c2
 go_enter Tryz.func25,Tryz.ntmps25
 go_wp2_with fail
 refine (DO.out _ (PN.out _)).mono ?_
 generalize ((w.alloc (.cells #[.slice a0 n c0,.slice a1 0 c1,.slice a2 0 c2] 25)).alloc (.cells #[.pointer none,.string ⟨#[]⟩] 48)) = u at *
 rintro e v ⟨rfl,hbx,hmp,hb⟩
 have XB:Hid (Box2 v (w.heap.size + 1) 48 (.pointer none) (.string ⟨#[]⟩)):=Z0.out.below hb
 have AB:Hid (Below w.heap.size w v):=A0.out.trans (hb.mono A0.out.size)
 have hlt:w.heap.size + 1 < u.heap.size:=Z0.out.lt
 have ho:OnlyB (w.heap.size + 1) v ((v.setCell ⟨w.heap.size + 1,0,none⟩ (.pointer (some ⟨u.heap.size + 2,0,none⟩))).setCell ⟨w.heap.size + 1,1,none⟩ (.string k)):=((OnlyB.refl _ v).setCell 0 _).setCell 1 _
 have X5:Hid (Box2 ((v.setCell ⟨w.heap.size + 1,0,none⟩ (.pointer (some ⟨u.heap.size + 2,0,none⟩))).setCell ⟨w.heap.size + 1,1,none⟩ (.string k)) (w.heap.size + 1) 48 (.pointer (some ⟨u.heap.size + 2,0,none⟩)) (.string k)):=(XB.out.set0 _).set1 _
 have D5:Hid (Box4 ((v.setCell ⟨w.heap.size + 1,0,none⟩ (.pointer (some ⟨u.heap.size + 2,0,none⟩))).setCell ⟨w.heap.size + 1,1,none⟩ (.string k)) (u.heap.size + 2) 57 (.slice a0 n c0) (.slice a1 0 c1) (.slice a2 0 c2) (.map (some (u.heap.size + 1)))):=hbx.onlyB ho (by omega)
 have M5:Hid (MapI ((v.setCell ⟨w.heap.size + 1,0,none⟩ (.pointer (some ⟨u.heap.size + 2,0,none⟩))).setCell ⟨w.heap.size + 1,1,none⟩ (.string k)) (u.heap.size + 1) (lastM (newD n).A (newD n).D 0)):=hmp.onlyB ho (by omega)
 have B5:Hid (Below w.heap.size w ((v.setCell ⟨w.heap.size + 1,0,none⟩ (.pointer (some ⟨u.heap.size + 2,0,none⟩))).setCell ⟨w.heap.size + 1,1,none⟩ (.string k))):=AB.out.trans (ho.toBelow (by omega) AB.out.size)
 have x0:=XB.out.c0
 have x1:=XB.out.c1
 have f0:=XB.out.fr 0
 have f1:=XB.out.fr 1
 clear ho hbx hmp hb DO PN A0 X0 Z0 XB AB hlt y0 y1 y2
 go_wp2
 generalize ((v.setCell ⟨w.heap.size + 1,0,none⟩ (.pointer (some ⟨u.heap.size + 2,0,none⟩))).setCell ⟨w.heap.size + 1,1,none⟩ (.string k)) = u5 at *
 clear x0 x1 f0 f1
 have y0:=X5.out.c0
 have y1:=X5.out.c1
 exact ret_cell (b:=w.heap.size + 1) (v:=.agg #[.pointer (some ⟨u.heap.size + 2,0,none⟩),.string k]) Tryz.results25 rfl (by go_simp) ⟨⟨_,_,rfl,D5.out,M5.out⟩,B5.out⟩
set_option maxRecDepth 100000 in
set_option maxHeartbeats 1000000 in
theorem implNew_z (n:Nat) (h1:1≤n) (h2:n≤64) (w:World) :
  Calls Tryz.prog 23 #[.int .i64 (n:Int)] w fun e w' => (e = .returned (.tuple #[.agg #[.slice (some ⟨w.heap.size + 1,0,none⟩) n n,.slice none 0 0,.slice none 0 0],.int .i64 0])∧DiskV w' (newD n) (some ⟨w.heap.size + 1,0,none⟩) none none)∧Below w.heap.size w w':=by
 have y0:¬ (n:Int) < 1:=by omega
 have y1:¬ (64:Int) < (n:Int):=by omega
 have hmk:=mkStrsD n (by omega)
 clear h1 h2
 go_enter Tryz.func23,Tryz.ntmps23
 go_wp2
 have RR:(((w.alloc (.cells #[.slice (some ⟨w.heap.size + 1,0,none⟩) n n,.slice none 0 0,.slice none 0 0] 25)).alloc (.cells (madeCells #[.string ⟨#[]⟩] n) 9))).rowIs (w.heap.size + 1) 9 n (fun _ => .string ⟨#[]⟩):=by
  have:=World.rowIs_made (w.alloc (.cells #[.slice (some ⟨w.heap.size + 1,0,none⟩) n n,.slice none 0 0,.slice none 0 0] 25)) (.string ⟨#[]⟩) n 9
  simpa using this
 exact ret_cell2 (b:=w.heap.size) (v:=.agg #[.slice (some ⟨w.heap.size + 1,0,none⟩) n n,.slice none 0 0,.slice none 0 0]) Tryz.results23 rfl rfl (by go_simp) ⟨⟨rfl,(RowD.newD RR (Nat.le_refl _) (fun _ _ => rfl) none none).diskV⟩,((Below.refl w.heap.size w).alloc (Nat.le_refl _) _).alloc (by simp) _⟩
set_option maxRecDepth 100000 in
set_option maxHeartbeats 1000000 in
theorem toFormat_z (k:ByteArray) (n:Nat) (hk:k.size = 32) (h4:4≤n) (hn:n≤64) (w:World) :
  Calls Tryz.prog 12 #[.string k,.int .i64 (n:Int)] w fun e w' => (∃ g,e = .returned (.tuple #[.agg #[.slice (some ⟨g,0,none⟩) n n,.slice none 0 0,.slice none 0 0],.int .i64 0])∧DiskV w' (newD n) (some ⟨g,0,none⟩) none none)∧Below w.heap.size w w':=by
 have x1:¬ (65536:Int) < (k.size:Int):=by omega
 have x2:(k.size:Int) = 32:=by omega
 have x4:¬ (n:Int) < 4:=by omega
 have NW:Hid (∀ w:World,Calls Tryz.prog 23 #[.int .i64 (n:Int)] w fun e w' => (e = .returned (.tuple #[.agg #[.slice (some ⟨w.heap.size + 1,0,none⟩) n n,.slice none 0 0,.slice none 0 0],.int .i64 0])∧DiskV w' (newD n) (some ⟨w.heap.size + 1,0,none⟩) none none)∧Below w.heap.size w w'):=implNew_z n (by omega) hn
 have X0:Hid (Box3 (w.alloc (.cells #[.slice none 0 0,.slice none 0 0,.slice none 0 0] 25)) w.heap.size 25 (.slice none 0 0) (.slice none 0 0) (.slice none 0 0)):=Box3.made _ _ _ _ _
 have A0:Hid (Below w.heap.size w (w.alloc (.cells #[.slice none 0 0,.slice none 0 0,.slice none 0 0] 25))):=(Below.refl _ _).alloc (Nat.le_refl _) _
 clear hk h4 hn
 go_enter Tryz.func12,Tryz.ntmps12
 go_wp2_with fail
 refine (NW.out _).mono ?_
 generalize (w.alloc (.cells #[.slice none 0 0,.slice none 0 0,.slice none 0 0] 25)) = u at *
 rintro e v ⟨⟨rfl,hd⟩,hb⟩
 generalize u.heap.size + 1 = g at *
 have XB:Hid (Box3 v w.heap.size 25 (.slice none 0 0) (.slice none 0 0) (.slice none 0 0)):=X0.out.below hb
 have AB:Hid (Below w.heap.size w v):=A0.out.trans (hb.mono A0.out.size)
 have ho:OnlyB w.heap.size v (((v.setCell ⟨w.heap.size,0,none⟩ (.slice (some ⟨g,0,none⟩) n n)).setCell ⟨w.heap.size,1,none⟩ (.slice none 0 0)).setCell ⟨w.heap.size,2,none⟩ (.slice none 0 0)):=(((OnlyB.refl _ v).setCell 0 _).setCell 1 _).setCell 2 _
 have HR:Hid (DiskV (((v.setCell ⟨w.heap.size,0,none⟩ (.slice (some ⟨g,0,none⟩) n n)).setCell ⟨w.heap.size,1,none⟩ (.slice none 0 0)).setCell ⟨w.heap.size,2,none⟩ (.slice none 0 0)) (newD n) (some ⟨g,0,none⟩) none none):=hd.stored XB.out _ _ _
 have X5:Hid (Box3 (((v.setCell ⟨w.heap.size,0,none⟩ (.slice (some ⟨g,0,none⟩) n n)).setCell ⟨w.heap.size,1,none⟩ (.slice none 0 0)).setCell ⟨w.heap.size,2,none⟩ (.slice none 0 0)) w.heap.size 25 (.slice (some ⟨g,0,none⟩) n n) (.slice none 0 0) (.slice none 0 0)):=((XB.out.set0 _).set1 _).set2 _
 have B5:Hid (Below w.heap.size w (((v.setCell ⟨w.heap.size,0,none⟩ (.slice (some ⟨g,0,none⟩) n n)).setCell ⟨w.heap.size,1,none⟩ (.slice none 0 0)).setCell ⟨w.heap.size,2,none⟩ (.slice none 0 0))):=AB.out.trans (ho.toBelow (Nat.le_refl _) AB.out.size)
 have x0:=XB.out.c0
 have x3:=XB.out.c1
 have x5:=XB.out.c2
 have f0:=XB.out.fr 0
 have f1:=XB.out.fr 1
 have f2:=XB.out.fr 2
 clear ho hd hb NW X0 A0 XB AB
 go_wp2
 generalize (((v.setCell ⟨w.heap.size,0,none⟩ (.slice (some ⟨g,0,none⟩) n n)).setCell ⟨w.heap.size,1,none⟩ (.slice none 0 0)).setCell ⟨w.heap.size,2,none⟩ (.slice none 0 0)) = u5 at *
 clear x0 x3 x5 f0 f1 f2
 have y0:=X5.out.c0
 have y1:=X5.out.c1
 have y2:=X5.out.c2
 exact ret_cell2 (b:=w.heap.size) (v:=.agg #[.slice (some ⟨g,0,none⟩) n n,.slice none 0 0,.slice none 0 0]) Tryz.results12 rfl rfl (by go_simp) ⟨⟨g,rfl,HR.out⟩,B5.out⟩
set_option maxRecDepth 100000 in
set_option maxHeartbeats 1000000 in
theorem onDisk_at (k:ByteArray) (n:Nat) (a0 a1 a2:Option Addr) (c0 c1 c2:Nat) (w:World) (h:DiskV w (newD n) a0 a1 a2) :
  Calls Tryz.prog 25 #[.string k,.agg #[.slice a0 n c0,.slice a1 0 c1,.slice a2 0 c2]] w fun e w' => (∃ q b,e = .returned (.agg #[.pointer (some ⟨q,0,none⟩),.string k])∧(w.heap.size≤q∧w.heap.size≤b∧q≠b)∧Box4 w' q 57 (.slice a0 n c0) (.slice a1 0 c1) (.slice a2 0 c2) (.map (some b))∧MapI w' b (lastM (newD n).A (newD n).D 0))∧Below w.heap.size w w':=by
 have A0:Hid (Below w.heap.size w ((w.alloc (.cells #[.slice a0 n c0,.slice a1 0 c1,.slice a2 0 c2] 25)).alloc (.cells #[.pointer none,.string ⟨#[]⟩] 48))):=((Below.refl _ _).alloc (Nat.le_refl _) _).alloc (by simp) _
 have X0:Hid (Box3 ((w.alloc (.cells #[.slice a0 n c0,.slice a1 0 c1,.slice a2 0 c2] 25)).alloc (.cells #[.pointer none,.string ⟨#[]⟩] 48)) w.heap.size 25 (.slice a0 n c0) (.slice a1 0 c1) (.slice a2 0 c2)):=(Box3.made _ _ _ _ _).alloc _
 have DO:Hid (∀ w:World,Pens w a1 0 (newD n).A (newD n).D→Calls Tryz.prog 45 #[.agg #[.slice a0 n c0,.slice a1 0 c1,.slice a2 0 c2]] w fun e w' => e = .returned (.pointer (some ⟨w.heap.size + 2,0,none⟩))∧Box4 w' (w.heap.size + 2) 57 (.slice a0 n c0) (.slice a1 0 c1) (.slice a2 0 c2) (.map (some (w.heap.size + 1)))∧MapI w' (w.heap.size + 1) (lastM (newD n).A (newD n).D 0)∧Below w.heap.size w w'):=fun w h => driveOf_any (newD n) a0 a1 a2 c0 c1 c2 (by show (0:Nat)≤_; omega) w h
 have PN:Hid (∀ w:World,Pens w a1 0 (newD n).A (newD n).D):=fun w i hi => absurd hi (Nat.not_lt_zero _)
 clear h
 have Z0:Hid (Box2 ((w.alloc (.cells #[.slice a0 n c0,.slice a1 0 c1,.slice a2 0 c2] 25)).alloc (.cells #[.pointer none,.string ⟨#[]⟩] 48)) (w.heap.size + 1) 48 (.pointer none) (.string ⟨#[]⟩)):=Box2.madeAt (by simp) _ _ _
 have y0:=X0.out.c0
 have y1:=X0.out.c1
 have y2:=X0.out.c2
 go_enter Tryz.func25,Tryz.ntmps25
 go_wp2_with fail
 refine (DO.out _ (PN.out _)).mono ?_
 generalize ((w.alloc (.cells #[.slice a0 n c0,.slice a1 0 c1,.slice a2 0 c2] 25)).alloc (.cells #[.pointer none,.string ⟨#[]⟩] 48)) = u at *
 rintro e v ⟨rfl,hbx,hmp,hb⟩
 have XB:Hid (Box2 v (w.heap.size + 1) 48 (.pointer none) (.string ⟨#[]⟩)):=Z0.out.below hb
 have AB:Hid (Below w.heap.size w v):=A0.out.trans (hb.mono A0.out.size)
 have hlt:w.heap.size + 1 < u.heap.size:=Z0.out.lt
 have QB:Hid (w.heap.size≤u.heap.size + 2∧w.heap.size≤u.heap.size + 1∧u.heap.size + 2≠u.heap.size + 1):=hid (by omega)
 have ho:OnlyB (w.heap.size + 1) v ((v.setCell ⟨w.heap.size + 1,0,none⟩ (.pointer (some ⟨u.heap.size + 2,0,none⟩))).setCell ⟨w.heap.size + 1,1,none⟩ (.string k)):=((OnlyB.refl _ v).setCell 0 _).setCell 1 _
 have X5:Hid (Box2 ((v.setCell ⟨w.heap.size + 1,0,none⟩ (.pointer (some ⟨u.heap.size + 2,0,none⟩))).setCell ⟨w.heap.size + 1,1,none⟩ (.string k)) (w.heap.size + 1) 48 (.pointer (some ⟨u.heap.size + 2,0,none⟩)) (.string k)):=(XB.out.set0 _).set1 _
 have D5:Hid (Box4 ((v.setCell ⟨w.heap.size + 1,0,none⟩ (.pointer (some ⟨u.heap.size + 2,0,none⟩))).setCell ⟨w.heap.size + 1,1,none⟩ (.string k)) (u.heap.size + 2) 57 (.slice a0 n c0) (.slice a1 0 c1) (.slice a2 0 c2) (.map (some (u.heap.size + 1)))):=hbx.onlyB ho (by omega)
 have M5:Hid (MapI ((v.setCell ⟨w.heap.size + 1,0,none⟩ (.pointer (some ⟨u.heap.size + 2,0,none⟩))).setCell ⟨w.heap.size + 1,1,none⟩ (.string k)) (u.heap.size + 1) (lastM (newD n).A (newD n).D 0)):=hmp.onlyB ho (by omega)
 have B5:Hid (Below w.heap.size w ((v.setCell ⟨w.heap.size + 1,0,none⟩ (.pointer (some ⟨u.heap.size + 2,0,none⟩))).setCell ⟨w.heap.size + 1,1,none⟩ (.string k))):=AB.out.trans (ho.toBelow (by omega) AB.out.size)
 have x0:=XB.out.c0
 have x1:=XB.out.c1
 have f0:=XB.out.fr 0
 have f1:=XB.out.fr 1
 clear ho hbx hmp hb DO PN A0 X0 Z0 XB AB hlt y0 y1 y2
 go_wp2
 generalize ((v.setCell ⟨w.heap.size + 1,0,none⟩ (.pointer (some ⟨u.heap.size + 2,0,none⟩))).setCell ⟨w.heap.size + 1,1,none⟩ (.string k)) = u5 at *
 clear x0 x1 f0 f1
 have y0:=X5.out.c0
 have y1:=X5.out.c1
 exact ret_cell (b:=w.heap.size + 1) (v:=.agg #[.pointer (some ⟨u.heap.size + 2,0,none⟩),.string k]) Tryz.results25 rfl (by go_simp) ⟨⟨_,_,rfl,QB.out,D5.out,M5.out⟩,B5.out⟩
def NwD (w:World) (n q b:Nat) (a0 a1 a2:Option Addr) (c0 c1 c2:Nat):Prop:=Box4 w q 57 (.slice a0 n c0) (.slice a1 0 c1) (.slice a2 0 c2) (.map (some b))∧MapI w b (lastM (newD n).A (newD n).D 0)∧Strs w a0 n (newD n).B
theorem NwD.below {w w':World} {n q b:Nat} {a0 a1 a2:Option Addr} {c0 c1 c2:Nat} (h:NwD w n q b a0 a1 a2 c0 c1 c2) (hb:Below w.heap.size w w'):NwD w' n q b a0 a1 a2 c0 c1 c2:=⟨h.1.below hb,h.2.1.below hb,h.2.2.below hb⟩
set_option maxRecDepth 100000 in
set_option maxHeartbeats 4000000 in
theorem slotAt_new (k:ByteArray) (n p q b:Nat) (hn:n≤64) (hp:p < n) (a0 a1 a2:Option Addr) (c0 c1 c2:Nat) (w:World) (h:NwD w n q b a0 a1 a2 c0 c1 c2) :
  Calls Tryz.prog 94 #[.agg #[.pointer (some ⟨q,0,none⟩),.string k],.int .i64 (p:Int)] w fun e w' => e = .returned (.tuple #[.agg #[.int .i64 0,.string ⟨#[]⟩],.int .i64 10])∧Below w.heap.size w w':=by
 have A1:Hid (Below w.heap.size w ((w.alloc (.cells #[.pointer (some ⟨q,0,none⟩),.string k] 48)).alloc (.cells #[.int .i64 0,.string ⟨#[]⟩] 81))):=((Below.refl _ _).alloc (Nat.le_refl _) _).alloc (by simp) _
 have K1:Hid (Box2 ((w.alloc (.cells #[.pointer (some ⟨q,0,none⟩),.string k] 48)).alloc (.cells #[.int .i64 0,.string ⟨#[]⟩] 81)) w.heap.size 48 (.pointer (some ⟨q,0,none⟩)) (.string k)):=(Box2.made _ _ _ _).alloc _
 have Z1:Hid (Box2 ((w.alloc (.cells #[.pointer (some ⟨q,0,none⟩),.string k] 48)).alloc (.cells #[.int .i64 0,.string ⟨#[]⟩] 81)) (w.heap.size + 1) 81 (.int .i64 0) (.string ⟨#[]⟩)):=Box2.madeAt (by simp) _ _ _
 have D1:Hid (NwD ((w.alloc (.cells #[.pointer (some ⟨q,0,none⟩),.string k] 48)).alloc (.cells #[.int .i64 0,.string ⟨#[]⟩] 81)) n q b a0 a1 a2 c0 c1 c2):=h.below A1.out
 have ST:Hid (∀ w:World,NwD w n q b a0 a1 a2 c0 c1 c2→Calls Tryz.prog 133 #[.pointer (some ⟨q,0,none⟩),.int .i64 (p:Int)] w fun e w' => e = .returned (.string ⟨#[]⟩)∧Below w.heap.size w w'):=fun w h => stands_any (newD n) a0 c0 q b p _ _ hp hn w h.1 h.2.1 h.2.2
 clear h hn hp
 go_enter Tryz.func94,Tryz.ntmps94
 go_wp2_with fail
 generalize ((w.alloc (.cells #[.pointer (some ⟨q,0,none⟩),.string k] 48)).alloc (.cells #[.int .i64 0,.string ⟨#[]⟩] 81)) = u at *
 have hb:Below u.heap.size u u.drew:=(Below.refl _ _).drew
 have H:Box2 u.drew w.heap.size 48 (.pointer (some ⟨q,0,none⟩)) (.string k):=K1.out.below hb
 replace A1:=hid (A1.out.trans (hb.mono A1.out.size))
 replace Z1:=hid (Z1.out.below hb)
 replace D1:=hid (D1.out.below hb)
 clear hb K1
 refine wp_region_noPanic ?_
 refine wp_region_held_drew (S:=fun w' => Box2 w' w.heap.size 48 (.pointer (some ⟨q,0,none⟩)) (.string k)) (by kernel_rfl) H (fun _ => ?_)
 generalize u.drew = y0 at *
 refine tkH (i:=0) (v:=.pointer (some ⟨w.heap.size,1,none⟩)) rfl (by kernel_rfl) (by rfl) ?_ H ?_
 ·intro w' hSw; go_simp
 refine ch17 ?_
 refine tkH (i:=1) (v:=.string k) rfl (by kernel_rfl) (by rfl) ?_ H ?_
 ·intro w' hSw; have t1:=hSw.c1; clear hSw; go_simp
 refine ch17 ?_
 refine tkH (i:=2) (v:=.int .i64 (p:Int)) rfl (by kernel_rfl) (by rfl) ?_ H ?_
 ·intro w' hSw; go_simp
 refine ch17 ?_
 refine tkH (i:=3) (v:=.pointer (some ⟨w.heap.size,0,none⟩)) rfl (by kernel_rfl) (by rfl) ?_ H ?_
 ·intro w' hSw; go_simp
 refine ch17 ?_
 refine tkH (i:=4) (v:=.pointer (some ⟨q,0,none⟩)) rfl (by kernel_rfl) (by rfl) ?_ H ?_
 ·intro w' hSw; have t0:=hSw.c0; clear hSw; go_simp
 refine ch17 ?_
 refine tkH (i:=5) (v:=.int .i64 (p:Int)) rfl (by kernel_rfl) (by rfl) ?_ H ?_
 ·intro w' hSw; go_simp
 refine ch17 ?_
 refine rdH (i:=6) (by kernel_rfl) rfl (fun KK hK => ?_)
 go_simp
 refine (ST.out _ D1.out).mono ?_
 rintro e y1 ⟨rfl,hb⟩
 replace A1:=hid (A1.out.trans (hb.mono A1.out.size))
 replace Z1:=hid (Z1.out.below hb)
 replace D1:=hid (D1.out.below hb)
 replace H:=Box2.below H hb
 clear hb D1 ST
 refine hK.out _ _ H (fun _ => ?_)
 clear hK KK
 refine ch17 ?_
 apply tg0
 rotate_left
 exact trivial
 case' q0 =>
  refine rdH (i:=7) (by kernel_rfl) rfl (fun KK hK => ?_)
  obtain ⟨y2,gc,hcv,-,hb⟩:=bytesOfR ⟨#[]⟩ y1
  go_simp
  replace A1:=hid (A1.out.trans (hb.mono A1.out.size))
  replace Z1:=hid (Z1.out.below hb)
  replace H:=Box2.below H hb
  clear hb hcv
  refine hK.out _ _ H (fun _ => ?_)
  clear hK KK
  refine ch17 ?_
 case' q0 =>
  refine rdH (i:=8) (by kernel_rfl) rfl (fun KK hK => ?_)
  go_simp
  refine (unsealed_nil k (p:Int) _ _ _ (by decide) _).mono ?_
  rintro e y3 ⟨rfl,hb⟩
  replace A1:=hid (A1.out.trans (hb.mono A1.out.size))
  replace Z1:=hid (Z1.out.below hb)
  replace H:=Box2.below H hb
  clear hb
  refine hK.out _ _ H (fun _ => ?_)
  clear hK KK
  refine ch17 ?_
  refine tkH (i:=9) (v:=.agg #[.int .i64 0,.string ⟨#[]⟩]) rfl (by kernel_rfl) (by rfl) ?_ H ?_
  ·intro w' hSw; go_simp
  refine ch17 ?_
  refine tkH (i:=10) (v:=.int .i64 10) rfl (by kernel_rfl) (by rfl) ?_ H ?_
  ·intro w' hSw; go_simp
  refine ch17 ?_
 case' q0 =>
  refine rdH (i:=11) (by kernel_rfl) rfl (fun KK hK => ?_)
  have ho:OnlyB (w.heap.size + 1) y3 ((y3.setCell ⟨w.heap.size + 1,0,none⟩ (.int .i64 0)).setCell ⟨w.heap.size + 1,1,none⟩ (.string ⟨#[]⟩)):=((OnlyB.refl _ y3).setCell 0 _).setCell 1 _
  have Z5:Hid (Box2 ((y3.setCell ⟨w.heap.size + 1,0,none⟩ (.int .i64 0)).setCell ⟨w.heap.size + 1,1,none⟩ (.string ⟨#[]⟩)) (w.heap.size + 1) 81 (.int .i64 0) (.string ⟨#[]⟩)):=(Z1.out.set0 _).set1 _
  have A5:Hid (Below w.heap.size w ((y3.setCell ⟨w.heap.size + 1,0,none⟩ (.int .i64 0)).setCell ⟨w.heap.size + 1,1,none⟩ (.string ⟨#[]⟩))):=A1.out.trans (ho.toBelow (by omega) A1.out.size)
  replace H:=Box2.onlyB H ho (by omega)
  have x0:=Z1.out.c0
  have x1:=Z1.out.c1
  have f0:=Z1.out.fr 0
  have f1:=Z1.out.fr 1
  clear ho Z1 A1
  go_simp
  clear x0 x1 f0 f1
  refine hK.out _ _ H (fun _ => ?_)
  clear hK KK
  refine ch17 ?_
  refine tkH (i:=12) (v:=.int .i64 10) rfl (by kernel_rfl) (by rfl) ?_ H ?_
  ·intro w' hSw; go_simp
  refine ch17 ?_
 case' q0 =>
  refine wpAnyH_done (by kernel_rfl) ?_ _
  refine NoPanic.normal ?_
  clear H
  go_wp2
  have y0:=Z5.out.c0
  have y1:=Z5.out.c1
  exact ret_cell2 (b:=w.heap.size + 1) (v:=.agg #[.int .i64 0,.string ⟨#[]⟩]) Tryz.results94 rfl rfl (by go_simp) ⟨rfl,A5.out⟩
def W6 (w:World) (b:Nat):Prop:=w.rowIs b 118 6 (fun i => (#[.int .i64 0,.string ⟨#[]⟩,.slice none 0 0,.slice none 0 0,.slice none 0 0,.slice none 0 0]:Array Value).getD i undef)
theorem W6.made (w:World):W6 (w.alloc (.cells #[.int .i64 0,.string ⟨#[]⟩,.slice none 0 0,.slice none 0 0,.slice none 0 0,.slice none 0 0] 118)) w.heap.size:=World.rowIs_alloc w #[.int .i64 0,.string ⟨#[]⟩,.slice none 0 0,.slice none 0 0,.slice none 0 0,.slice none 0 0] 118 _ (fun i hi => by
 match i,hi with
 | 0,_ => rfl
 | 1,_ => rfl
 | 2,_ => rfl
 | 3,_ => rfl
 | 4,_ => rfl
 | 5,_ => rfl)
theorem W6.madeAt {w:World} {b:Nat} (hb:w.heap.size = b):W6 (w.alloc (.cells #[.int .i64 0,.string ⟨#[]⟩,.slice none 0 0,.slice none 0 0,.slice none 0 0,.slice none 0 0] 118)) b:=by subst hb; exact W6.made w
theorem W6.lt {w:World} {b:Nat} (h:W6 w b):b < w.heap.size:=World.rowIs.lt h
theorem W6.below {w w':World} {b:Nat} (h:W6 w b) (hb:Below w.heap.size w w'):W6 w' b:=World.rowIs.of_block h (hb.block b h.lt)
theorem W6.cell {w:World} {b:Nat} (h:W6 w b):w.cell? ⟨b,0,none⟩ = some (.int .i64 0)∧w.cell? ⟨b,1,none⟩ = some (.string ⟨#[]⟩)∧w.cell? ⟨b,2,none⟩ = some (.slice none 0 0)∧w.cell? ⟨b,3,none⟩ = some (.slice none 0 0)∧w.cell? ⟨b,4,none⟩ = some (.slice none 0 0)∧w.cell? ⟨b,5,none⟩ = some (.slice none 0 0):=⟨World.rowIs.cell h (i:=0) (by omega),World.rowIs.cell h (i:=1) (by omega),World.rowIs.cell h (i:=2) (by omega),World.rowIs.cell h (i:=3) (by omega),World.rowIs.cell h (i:=4) (by omega),World.rowIs.cell h (i:=5) (by omega)⟩
set_option maxRecDepth 100000 in
set_option maxHeartbeats 4000000 in
theorem newest_new (k:ByteArray) (n q b:Nat) (hn:n≤64) (h4:4≤n) (a0 a1 a2:Option Addr) (c0 c1 c2:Nat) (w:World) (h:NwD w n q b a0 a1 a2 c0 c1 c2) :
  Calls Tryz.prog 64 #[.agg #[.pointer (some ⟨q,0,none⟩),.string k]] w fun e w' => e = .returned (.agg #[.int .i64 0,.string ⟨#[]⟩,.slice none 0 0,.slice none 0 0,.slice none 0 0,.slice none 0 0])∧Below w.heap.size w w':=by
 have A1:Hid (Below w.heap.size w (((w.alloc (.cells #[.pointer (some ⟨q,0,none⟩),.string k] 48)).alloc (.cells #[.int .i64 0,.string ⟨#[]⟩,.slice none 0 0,.slice none 0 0,.slice none 0 0,.slice none 0 0] 118)).alloc (.cells #[.int .i64 0,.string ⟨#[]⟩,.slice none 0 0,.slice none 0 0,.slice none 0 0,.slice none 0 0] 118))):=(((Below.refl _ _).alloc (Nat.le_refl _) _).alloc (by simp) _).alloc (by simp; omega) _
 have K1:Hid (Box2 (((w.alloc (.cells #[.pointer (some ⟨q,0,none⟩),.string k] 48)).alloc (.cells #[.int .i64 0,.string ⟨#[]⟩,.slice none 0 0,.slice none 0 0,.slice none 0 0,.slice none 0 0] 118)).alloc (.cells #[.int .i64 0,.string ⟨#[]⟩,.slice none 0 0,.slice none 0 0,.slice none 0 0,.slice none 0 0] 118)) w.heap.size 48 (.pointer (some ⟨q,0,none⟩)) (.string k)):=((Box2.made _ _ _ _).alloc _).alloc _
 have Z1:Hid (W6 (((w.alloc (.cells #[.pointer (some ⟨q,0,none⟩),.string k] 48)).alloc (.cells #[.int .i64 0,.string ⟨#[]⟩,.slice none 0 0,.slice none 0 0,.slice none 0 0,.slice none 0 0] 118)).alloc (.cells #[.int .i64 0,.string ⟨#[]⟩,.slice none 0 0,.slice none 0 0,.slice none 0 0,.slice none 0 0] 118)) (w.heap.size + 1)):=(W6.madeAt (by simp)).below ((Below.refl _ _).alloc (Nat.le_refl _) _)
 have Z2:Hid (W6 (((w.alloc (.cells #[.pointer (some ⟨q,0,none⟩),.string k] 48)).alloc (.cells #[.int .i64 0,.string ⟨#[]⟩,.slice none 0 0,.slice none 0 0,.slice none 0 0,.slice none 0 0] 118)).alloc (.cells #[.int .i64 0,.string ⟨#[]⟩,.slice none 0 0,.slice none 0 0,.slice none 0 0,.slice none 0 0] 118)) (w.heap.size + 2)):=W6.madeAt (by simp)
 have D1:Hid (NwD (((w.alloc (.cells #[.pointer (some ⟨q,0,none⟩),.string k] 48)).alloc (.cells #[.int .i64 0,.string ⟨#[]⟩,.slice none 0 0,.slice none 0 0,.slice none 0 0,.slice none 0 0] 118)).alloc (.cells #[.int .i64 0,.string ⟨#[]⟩,.slice none 0 0,.slice none 0 0,.slice none 0 0,.slice none 0 0] 118)) n q b a0 a1 a2 c0 c1 c2):=h.below A1.out
 have ST:Hid (∀ (p:Nat) (w:World),p < 2→NwD w n q b a0 a1 a2 c0 c1 c2→Calls Tryz.prog 94 #[.agg #[.pointer (some ⟨q,0,none⟩),.string k],.int .i64 (p:Int)] w fun e w' => e = .returned (.tuple #[.agg #[.int .i64 0,.string ⟨#[]⟩],.int .i64 10])∧Below w.heap.size w w'):=fun p w hp h => slotAt_new k n p q b hn (by omega) a0 a1 a2 c0 c1 c2 w h
 clear h hn h4
 go_enter Tryz.func64,Tryz.ntmps64
 go_wp2
 rw [show w.heap.size + 1 + 1 = w.heap.size + 2 from rfl]
 generalize (((w.alloc (.cells #[.pointer (some ⟨q,0,none⟩),.string k] 48)).alloc (.cells #[.int .i64 0,.string ⟨#[]⟩,.slice none 0 0,.slice none 0 0,.slice none 0 0,.slice none 0 0] 118)).alloc (.cells #[.int .i64 0,.string ⟨#[]⟩,.slice none 0 0,.slice none 0 0,.slice none 0 0,.slice none 0 0] 118)) = u at *
 go_loopw [9] (fun i wr => ∃ p:Nat,p≤2∧i = .int .i64 (p:Int)∧Box2 wr w.heap.size 48 (.pointer (some ⟨q,0,none⟩)) (.string k)∧W6 wr (w.heap.size + 1)∧W6 wr (w.heap.size + 2)∧NwD wr n q b a0 a1 a2 c0 c1 c2∧Below w.heap.size w wr) (fun i _ => 2 - (intOf i).toNat)
 case atStart => exact ⟨0,by omega,rfl,K1.out,Z1.out,Z2.out,D1.out,A1.out⟩
 case round =>
  clear A1 K1 Z1 Z2 D1
  obtain ⟨p,hp,rfl,k1,z1,z2,d1,hb⟩:=hrel
  by_cases hlt:p < 2
  ·have hlt':(p:Int) < 2:=by omega
   have CS:Hid _:=ST.out p wr hlt d1
   have K1:Hid (Box2 wr w.heap.size 48 (.pointer (some ⟨q,0,none⟩)) (.string k)):=k1
   have Z1:Hid (W6 wr (w.heap.size + 1)):=z1
   have Z2:Hid (W6 wr (w.heap.size + 2)):=z2
   have D1:Hid (NwD wr n q b a0 a1 a2 c0 c1 c2):=d1
   have A1:Hid (Below w.heap.size w wr):=hb
   have t0:=k1.c0
   have t1:=k1.c1
   clear k1 z1 z2 d1 hb ST
   go_wp2_with fail
   refine Calls.mono CS.out ?_
   rintro e v ⟨rfl,hb⟩
   replace K1:=hid (K1.out.below hb)
   replace Z1:=hid (Z1.out.below hb)
   replace Z2:=hid (Z2.out.below hb)
   replace D1:=hid (D1.out.below hb)
   replace A1:=hid (A1.out.trans (hb.mono A1.out.size))
   clear hb t0 t1 CS
   go_wp2
   have hb:Below v.heap.size v (v.alloc (.cells #[.int .i64 0,.string ⟨#[]⟩] 81)):=(Below.refl _ _).alloc (Nat.le_refl _) _
   exact ⟨⟨p + 1,by omega,by go_num,K1.out.below hb,Z1.out.below hb,Z2.out.below hb,D1.out.below hb,A1.out.trans (hb.mono A1.out.size)⟩,by simp [intOf]; omega⟩
  ·have hlt':¬ (p:Int) < 2:=by omega
   obtain ⟨q0,q1,q2,q3,q4,q5⟩:=z2.cell
   obtain ⟨t0,t1,t2,t3,t4,t5⟩:=z1.cell
   have f0:=World.rowIs.frozen z1 0
   have f1:=World.rowIs.frozen z1 1
   have f2:=World.rowIs.frozen z1 2
   have f3:=World.rowIs.frozen z1 3
   have f4:=World.rowIs.frozen z1 4
   have f5:=World.rowIs.frozen z1 5
   have ho:OnlyB (w.heap.size + 1) wr ((((((wr.setCell ⟨w.heap.size + 1,0,none⟩ (.int .i64 0)).setCell ⟨w.heap.size + 1,1,none⟩ (.string ⟨#[]⟩)).setCell ⟨w.heap.size + 1,2,none⟩ (.slice none 0 0)).setCell ⟨w.heap.size + 1,3,none⟩ (.slice none 0 0)).setCell ⟨w.heap.size + 1,4,none⟩ (.slice none 0 0)).setCell ⟨w.heap.size + 1,5,none⟩ (.slice none 0 0)):=((((((OnlyB.refl _ wr).setCell 0 _).setCell 1 _).setCell 2 _).setCell 3 _).setCell 4 _).setCell 5 _
   have A5:Hid (Below w.heap.size w ((((((wr.setCell ⟨w.heap.size + 1,0,none⟩ (.int .i64 0)).setCell ⟨w.heap.size + 1,1,none⟩ (.string ⟨#[]⟩)).setCell ⟨w.heap.size + 1,2,none⟩ (.slice none 0 0)).setCell ⟨w.heap.size + 1,3,none⟩ (.slice none 0 0)).setCell ⟨w.heap.size + 1,4,none⟩ (.slice none 0 0)).setCell ⟨w.heap.size + 1,5,none⟩ (.slice none 0 0))):=hb.trans (ho.toBelow (by omega) hb.size)
   have HZ:Hid (W6 wr (w.heap.size + 1)):=z1
   clear k1 z1 z2 d1 hb ST ho
   go_wp2
   have e0:=World.rowIs.set (World.rowIs.set (World.rowIs.set (World.rowIs.set (World.rowIs.set (World.rowIs.set HZ.out 0 (.int .i64 0)) 1 (.string ⟨#[]⟩)) 2 (.slice none 0 0)) 3 (.slice none 0 0)) 4 (.slice none 0 0)) 5 (.slice none 0 0)
   have y0:=World.rowIs.cell e0 (i:=0) (by omega)
   have y1:=World.rowIs.cell e0 (i:=1) (by omega)
   have y2:=World.rowIs.cell e0 (i:=2) (by omega)
   have y3:=World.rowIs.cell e0 (i:=3) (by omega)
   have y4:=World.rowIs.cell e0 (i:=4) (by omega)
   have y5:=World.rowIs.cell e0 (i:=5) (by omega)
   simp only [Nat.reduceEqDiff,if_true,if_false] at y0 y1 y2 y3 y4 y5
   clear e0 q0 q1 q2 q3 q4 q5 t0 t1 t2 t3 t4 t5 f0 f1 f2 f3 f4 f5
   generalize ((((((wr.setCell ⟨w.heap.size + 1,0,none⟩ (.int .i64 0)).setCell ⟨w.heap.size + 1,1,none⟩ (.string ⟨#[]⟩)).setCell ⟨w.heap.size + 1,2,none⟩ (.slice none 0 0)).setCell ⟨w.heap.size + 1,3,none⟩ (.slice none 0 0)).setCell ⟨w.heap.size + 1,4,none⟩ (.slice none 0 0)).setCell ⟨w.heap.size + 1,5,none⟩ (.slice none 0 0)) = u5 at *
   exact ret_cell (b:=w.heap.size + 1) (v:=.agg #[.int .i64 0,.string ⟨#[]⟩,.slice none 0 0,.slice none 0 0,.slice none 0 0,.slice none 0 0]) Tryz.results64 rfl (by go_simp) ⟨rfl,A5.out⟩
end Go.Proofs.YtcpjeopnhgoonaaGreatDoor
