/-
  Texts of the proof, joined.
-/
import Derived.Test.YtcpjeopnhgoonaaGreatDoorF47
namespace Go.Proofs.YtcpjeopnhgoonaaGreatDoor
open Go.ChangeShapes Go.WideShapes Go.ChangeAt Go.RowKit
set_option linter.unusedVariables false
theorem retD_nil {B:Nat} {w':World} (code:Int):RetD B w' (.returned (.tuple #[.agg #[.slice none 0 0,.slice none 0 0,.slice none 0 0],.int .i64 code])) (newD 0) code:=⟨_,_,_,_,_,_,_,_,_,rfl,RowD.empty _ none none none,fun h => absurd h (Nat.lt_irrefl 0),fun h => absurd h (Nat.lt_irrefl 0),fun h => absurd h (Nat.lt_irrefl 0)⟩
set_option maxRecDepth 100000 in
set_option maxHeartbeats 8000000 in
theorem specFv_yes (k:ByteArray) (n:Nat) (hk:k.size = 32) (h4:4≤n) (hn:n≤64) (w:World) :
  Calls Tryz.prog 4 #[.string k,.int .i64 (n:Int)] w fun e w' => RetD w.heap.size w' e (erD k n 4) 0∧Below w.heap.size w w':=by
 have x1:¬ (65536:Int) < (k.size:Int):=by omega
 have x2:(k.size:Int) = 32:=by omega
 have IN:Hid (∀ w:World,Calls Tryz.prog 9 #[.int .i64 (n:Int),.int .i64 4,.int .i64 64] w fun e w' => e = .returned (.bool true)∧w = w'):=fun w => in_any _ _ _ true (by simp; omega) w
 have LF:Hid (∀ w:World,Calls Tryz.prog 10 #[.string k,.int .i64 (n:Int)] w fun e w' => (∃ a0 a1 a2 c0 c1 c2,e = .returned (.tuple #[.agg #[.slice a0 (erD k n 4).nb c0,.slice a1 (erD k n 4).nc c1,.slice a2 (erD k n 4).ns c2],.string (erR k)])∧DiskV w' (erD k n 4) a0 a1 a2∧(a0 = none→c0 = 0)∧(a1 = none→c1 = 0)∧(a2 = none→c2 = 0))∧Below w.heap.size w w'):=fun w => l13Format_any k n hk h4 hn w
 have sm:=erD_small k (show 1≤n by omega) hn 4 (Nat.le_refl _)
 have OW:Hid (∀ (a0 a1 a2:Option Addr) (c0 c1 c2:Nat) (w:World),(a0 = none→c0 = 0)→(a1 = none→c1 = 0)→(a2 = none→c2 = 0)→DiskV w (erD k n 4) a0 a1 a2→Calls Tryz.prog 11 #[.agg #[.slice a0 (erD k n 4).nb c0,.slice a1 (erD k n 4).nc c1,.slice a2 (erD k n 4).ns c2]] w fun e w' => (∃ v0 v1 v2,e = .returned (.agg #[v0,v1,v2])∧Rows3 w' w.heap.size (erD k n 4) v0 v1 v2)∧Below w.heap.size w w'):=fun a0 a1 a2 c0 c1 c2 w h1 h2 h3 h4 => l05Own_any (erD k n 4) a0 a1 a2 c0 c1 c2 (by omega) (by omega) (by omega) h1 h2 h3 w h4
 have A0:Hid (Below w.heap.size w (w.alloc (.cells #[.slice none 0 0,.slice none 0 0,.slice none 0 0] 25))):=(Below.refl _ _).alloc (Nat.le_refl _) _
 have X0:Hid (Box3 (w.alloc (.cells #[.slice none 0 0,.slice none 0 0,.slice none 0 0] 25)) w.heap.size 25 (.slice none 0 0) (.slice none 0 0) (.slice none 0 0)):=Box3.made _ _ _ _ _
 clear h4 hn hk sm
 generalize erD k n 4 = dn at *
 generalize erR k = RK at *
 go_enter Tryz.func4,Tryz.ntmps4
 go_wp2_with fail
 refine (IN.out _).mono ?_
 rintro e w1 ⟨rfl,rfl⟩
 clear IN
 go_wp2_with fail
 refine (LF.out _).mono ?_
 generalize (w.alloc (.cells #[.slice none 0 0,.slice none 0 0,.slice none 0 0] 25)) = u at *
 rintro e v ⟨⟨a0,a1,a2,c0,c1,c2,rfl,hd,z0,z1,z2⟩,hb⟩
 have ZZ:Hid ((a0 = none→c0 = 0)∧(a1 = none→c1 = 0)∧(a2 = none→c2 = 0)):=⟨z0,z1,z2⟩
 have hb2:Below v.heap.size v (v.alloc (.cells #[.slice a0 dn.nb c0,.slice a1 dn.nc c1,.slice a2 dn.ns c2] 25)):=(Below.refl _ _).alloc (Nat.le_refl _) _
 have X1:Hid (Box3 (v.alloc (.cells #[.slice a0 dn.nb c0,.slice a1 dn.nc c1,.slice a2 dn.ns c2] 25)) v.heap.size 25 (.slice a0 dn.nb c0) (.slice a1 dn.nc c1) (.slice a2 dn.ns c2)):=Box3.made _ _ _ _ _
 have D1:Hid (DiskV (v.alloc (.cells #[.slice a0 dn.nb c0,.slice a1 dn.nc c1,.slice a2 dn.ns c2] 25)) dn a0 a1 a2):=hd.below hb2
 replace X0:=hid ((X0.out.below hb).below hb2)
 replace A0:=hid (A0.out.trans ((hb.trans (hb2.mono hb.size)).mono A0.out.size))
 clear hb hb2 hd z0 z1 z2 LF
 have y0:=X1.out.c0
 have y1:=X1.out.c1
 have y2:=X1.out.c2
 go_wp2_with fail
 clear y0 y1 y2 X1
 generalize (v.alloc (.cells #[.slice a0 dn.nb c0,.slice a1 dn.nc c1,.slice a2 dn.ns c2] 25)) = w2 at *
 refine (OW.out _ _ _ _ _ _ _ ZZ.out.1 ZZ.out.2.1 ZZ.out.2.2 D1.out).mono ?_
 rintro e w3 ⟨⟨v0,v1,v2,rfl,hR⟩,hb⟩
 have hlt:w.heap.size < w2.heap.size:=X0.out.lt
 have B3:Hid (Below w.heap.size w w3):=A0.out.trans (hb.mono A0.out.size)
 have X3:Box3 w3 w.heap.size 25 (.slice none 0 0) (.slice none 0 0) (.slice none 0 0):=X0.out.below hb
 obtain ⟨i0,i1,i2,k0,k1,k2,g0,g1,g2,rfl,rfl,rfl,-⟩:=hR.rowD
 have x0:=X3.c0
 have x1:=X3.c1
 have x2:=X3.c2
 have f0:=X3.fr 0
 have f1:=X3.fr 1
 have f2:=X3.fr 2
 have O5:OnlyB w.heap.size w3 (((w3.setCell ⟨w.heap.size,0,none⟩ (.slice i0 dn.nb k0)).setCell ⟨w.heap.size,1,none⟩ (.slice i1 dn.nc k1)).setCell ⟨w.heap.size,2,none⟩ (.slice i2 dn.ns k2)):=(((OnlyB.refl _ w3).setCell 0 _).setCell 1 _).setCell 2 _
 have X5:Hid (Box3 (((w3.setCell ⟨w.heap.size,0,none⟩ (.slice i0 dn.nb k0)).setCell ⟨w.heap.size,1,none⟩ (.slice i1 dn.nc k1)).setCell ⟨w.heap.size,2,none⟩ (.slice i2 dn.ns k2)) w.heap.size 25 (.slice i0 dn.nb k0) (.slice i1 dn.nc k1) (.slice i2 dn.ns k2)):=((X3.set0 _).set1 _).set2 _
 have R5:Hid (Rows3 (((w3.setCell ⟨w.heap.size,0,none⟩ (.slice i0 dn.nb k0)).setCell ⟨w.heap.size,1,none⟩ (.slice i1 dn.nc k1)).setCell ⟨w.heap.size,2,none⟩ (.slice i2 dn.ns k2)) w2.heap.size dn (.slice i0 dn.nb k0) (.slice i1 dn.nc k1) (.slice i2 dn.ns k2)):=⟨hR.t0.onlyB O5 (fun e => by have:=(World.ownsRow.lt hR.t0 _ e).1; omega),hR.t1.onlyB O5 (fun e => by have:=(World.ownsRow.lt hR.t1 _ e).1; omega),hR.t2.onlyB O5 (fun e => by have:=(World.ownsRow.lt hR.t2 _ e).1; omega),hR.n01,hR.n02,hR.n12⟩
 have B5:Hid (Below w.heap.size w (((w3.setCell ⟨w.heap.size,0,none⟩ (.slice i0 dn.nb k0)).setCell ⟨w.heap.size,1,none⟩ (.slice i1 dn.nc k1)).setCell ⟨w.heap.size,2,none⟩ (.slice i2 dn.ns k2))):=B3.out.trans (O5.toBelow (Nat.le_refl _) B3.out.size)
 clear hb hR O5 X3 B3 A0 X0 ZZ OW D1
 go_wp2
 generalize (((w3.setCell ⟨w.heap.size,0,none⟩ (.slice i0 dn.nb k0)).setCell ⟨w.heap.size,1,none⟩ (.slice i1 dn.nc k1)).setCell ⟨w.heap.size,2,none⟩ (.slice i2 dn.ns k2)) = u5 at *
 clear x0 x1 x2 f0 f1 f2
 have y0:=X5.out.c0
 have y1:=X5.out.c1
 have y2:=X5.out.c2
 obtain ⟨j0,j1,j2,l0,l1,l2,g0,g1,g2,h0,h1,h2,hr,hg0,hg1,hg2⟩:=R5.out.rowD
 cases h0
 cases h1
 cases h2
 exact ret_cell2 (b:=w.heap.size) (v:=.agg #[.slice i0 dn.nb k0,.slice i1 dn.nc k1,.slice i2 dn.ns k2]) Tryz.results4 rfl rfl (by go_simp) ⟨⟨_,_,_,_,_,_,_,_,_,rfl,hr,fun h => by have:=hg0 h; omega,fun h => by have:=hg1 h; omega,fun h => by have:=hg2 h; omega⟩,B5.out⟩
set_option maxRecDepth 100000 in
set_option maxHeartbeats 4000000 in
theorem specFv_any (k:ByteArray) (x:Int) (D:Dk) (code:Int) (h:FvA k x D code) (w:World) :
  Calls Tryz.prog 4 #[.string k,.int .i64 x] w fun e w' => RetD w.heap.size w' e D code∧Below w.heap.size w w':=by
 rcases h with ⟨h1,rfl,rfl⟩ | ⟨h1,h2,rfl,rfl⟩ | ⟨h1,h2,rfl,rfl⟩ | ⟨h1,h2,rfl,rfl⟩
 ·have x1:(65536:Int) < (k.size:Int):=by omega
  go_enter Tryz.func4,Tryz.ntmps4
  go_wp2
  exact ret_cell2 (b:=w.heap.size) (v:=.agg #[.slice none 0 0,.slice none 0 0,.slice none 0 0]) Tryz.results4 rfl rfl (by go_simp) ⟨retD_nil _,(Below.refl w.heap.size w).alloc (Nat.le_refl _) _⟩
 ·have x1:¬ (65536:Int) < (k.size:Int):=by omega
  have x2:((k.size:Int) == 32) = false:=by simp; omega
  go_enter Tryz.func4,Tryz.ntmps4
  go_wp2
  exact ret_cell2 (b:=w.heap.size) (v:=.agg #[.slice none 0 0,.slice none 0 0,.slice none 0 0]) Tryz.results4 rfl rfl (by go_simp) ⟨retD_nil _,(Below.refl w.heap.size w).alloc (Nat.le_refl _) _⟩
 ·have x1:¬ (65536:Int) < (k.size:Int):=by omega
  have x2:(k.size:Int) = 32:=by omega
  have IN:Hid (∀ w:World,Calls Tryz.prog 9 #[.int .i64 x,.int .i64 4,.int .i64 64] w fun e w' => e = .returned (.bool false)∧w = w'):=fun w => in_any _ _ _ false (by simp; omega) w
  clear h2 h1
  go_enter Tryz.func4,Tryz.ntmps4
  go_wp2_with fail
  refine (IN.out _).mono ?_
  rintro e w1 ⟨rfl,rfl⟩
  clear IN
  go_wp2
  exact ret_cell2 (b:=w.heap.size) (v:=.agg #[.slice none 0 0,.slice none 0 0,.slice none 0 0]) Tryz.results4 rfl rfl (by go_simp) ⟨retD_nil _,(Below.refl w.heap.size w).alloc (Nat.le_refl _) _⟩
 ·obtain ⟨n,rfl⟩:=Int.eq_ofNat_of_zero_le (a:=x) (by omega)
  rw [Int.toNat_natCast]
  exact specFv_yes k n h1 (by omega) (by omega) w
end Go.Proofs.YtcpjeopnhgoonaaGreatDoor
