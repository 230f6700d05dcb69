/-
  Texts of the proof, joined.
-/
import Derived.Test.YtcpjeopnhgoonaaGreatDoorF18
import Derived.Test.YtcpjeopnhgoonaaGreatDoorF08
namespace Go.Proofs.YtcpjeopnhgoonaaGreatDoor
open Go.ChangeShapes Go.WideShapes Go.ChangeAt Go.RowKit
set_option linter.unusedVariables false
theorem Tryz.infoStrD:(Tryz.prog.info? 9).map (fun i => (i.zero,i.size,i.bytes)) = some (some (.string ⟨#[]⟩),1,16):=by kernel_rfl
theorem mkStrsD (n:Nat) (hn:n≤1048576) (w:World):(Instr.makeSlice 22 (.int .i64 n) (.int .i64 n)).run Tryz.prog w = .ok (.slice (some ⟨w.heap.size,0,none⟩) n n) (w.alloc (.cells (madeCells #[.string ⟨#[]⟩] n) 9)) :=
 run_make_row' (P:=Tryz.prog) 22 9 (.string ⟨#[]⟩) 16 Tryz.underlying22 Tryz.infoStrD rfl .i64 .i64 n (by omega) (by omega) w
theorem Tryz.infoPen:(Tryz.prog.info? 60).map (fun i => (i.zero,i.size,i.bytes)) = some (some (.agg #[.int .i64 0,.string ⟨#[]⟩]),2,24):=by kernel_rfl
def penC (A:Nat→Int) (D:Nat→ByteArray) (k:Nat):Value:=if k % 2 = 0 then .int .i64 (A (k / 2)) else .string (D (k / 2))
theorem penC0 (A:Nat→Int) (D:Nat→ByteArray) (i:Nat):penC A D (i * 2) = .int .i64 (A i):=by unfold penC; rw [if_pos (by omega),show i * 2 / 2 = i from by omega]
theorem penC1 (A:Nat→Int) (D:Nat→ByteArray) (i:Nat):penC A D (i * 2 + 1) = .string (D i):=by unfold penC; rw [if_neg (by omega),show (i * 2 + 1) / 2 = i from by omega]
set_option maxRecDepth 100000 in
theorem eqPending_yes (x:Int) (s:ByteArray) (w:World) :
  Calls Tryz.prog 29 #[.agg #[.int .i64 x,.string s],.agg #[.int .i64 x,.string s]] w fun e w' => e = .returned (.bool true)∧Below w.heap.size w w':=by
 have e1:(x != x) = false:=by simp
 go_enter Tryz.func29,Tryz.ntmps29
 go_wp2
 go_ret
 exact ⟨rfl,((Below.refl w.heap.size w).alloc (Nat.le_refl _) _).alloc (by simp) _⟩
set_option maxRecDepth 100000 in
set_option maxHeartbeats 1000000 in
theorem eqPendingS_yes (a b:Option Addr) (n c d:Nat) (A:Nat→Int) (D:Nat→ByteArray) (A':Nat→Int) (D':Nat→ByteArray) (w:World) (h:Pens w a n A D) (h':Pens w b n A' D') (he:∀ i,i < n→A i = A' i∧D i = D' i) (hn:n≤1048576) :
  Calls Tryz.prog 15 #[.slice a n c,.slice b n d] w fun e w' => e = .returned (.bool true)∧Below w.heap.size w w':=by
 have HA:Hid (Pens w a n A D):=h
 have HA':Hid (Pens w b n A D):=fun i hi => by obtain ⟨e1,e2⟩:=he i hi; rw [e1,e2]; exact h' i hi
 have hne:((n:Int) != (n:Int)) = false:=by simp
 clear h h' he
 go_enter Tryz.func15,Tryz.ntmps15
 go_wp2
 go_loopw [5] (fun i wr => ∃ k:Nat,k≤n∧i = .int .i64 k∧Below w.heap.size w wr) (fun i _ => n - (intOf i).toNat)
 case atStart => exact ⟨0,by omega,rfl,Below.refl _ _⟩
 case round =>
  obtain ⟨k,hk,rfl,hb⟩:=hrel
  have HB:Hid (Below w.heap.size w wr):=hb
  by_cases hlt:k < n
  ·obtain ⟨b1,o1,rfl,hc⟩:=(HA.out.below hb).opened (by omega)
   obtain ⟨b2,o2,rfl,hc'⟩:=(HA'.out.below hb).opened (by omega)
   obtain ⟨c1,c2⟩:=hc k hlt
   obtain ⟨c3,c4⟩:=hc' k hlt
   have hlt':(k:Int) < (n:Int):=by omega
   have EP:Hid (∀ w:World,Calls Tryz.prog 29 #[.agg #[.int .i64 (A k),.string (D k)],.agg #[.int .i64 (A k),.string (D k)]] w fun e w' => e = .returned (.bool true)∧Below w.heap.size w w'):=eqPending_yes (A k) (D k)
   clear hc hc' hb
   go_wp2_with fail
   go_region_with (go_at_call 29; refine (EP.out _).mono ?_; rintro e w' ⟨rfl,hb⟩)
   all_goals
    have B1:Hid (Below w.heap.size w w'):=HB.out.drew.trans (hb.mono HB.out.size)
    clear hb HB EP c1 c2 c3 c4
    dsimp only [Act.put]
    go_wp2
    go_roundw
    case rel => exact ⟨k + 1,by omega,by go_num,B1.out⟩
    case measure => simp [intOf]; omega
  ·go_wp2
   go_ret
   exact ⟨rfl,HB.out⟩
set_option maxRecDepth 100000 in
set_option maxHeartbeats 1000000 in
theorem eqDisk_yes (x y:Dk) (a0 a1 a2 b0 b1 b2:Option Addr) (c0 c1 c2 d0 d1 d2:Nat) (w:World) (h:DiskV w x a0 a1 a2) (h':DiskV w y b0 b1 b2) (e0:x.nb = y.nb) (e1:x.nc = y.nc) (e2:x.ns = y.ns) (eB:∀ i,i < x.nb→x.B i = y.B i) (eC:∀ i,i < x.nc→x.A i = y.A i∧x.D i = y.D i) (eS:∀ i,i < x.ns→x.S i = y.S i) (l0:x.nb≤1048576) (l1:x.nc≤1048576) (l2:x.ns≤1048576) :
  Calls Tryz.prog 6 #[.agg #[.slice a0 x.nb c0,.slice a1 x.nc c1,.slice a2 x.ns c2],.agg #[.slice b0 y.nb d0,.slice b1 y.nc d1,.slice b2 y.ns d2]] w fun e w' => e = .returned (.bool true)∧Below w.heap.size w w':=by
 have Q0:Hid (∀ w:World,Strs w a0 x.nb x.B→Strs w b0 y.nb y.B→Calls Tryz.prog 14 #[.slice a0 x.nb c0,.slice b0 y.nb d0] w fun e w' => e = .returned (.bool true)∧∃ q,w' = w.drewN q):=fun w k k' => by rw [← e0] at k' ⊢; exact eqStringS_yes a0 b0 x.nb c0 d0 x.B y.B w k k' eB l0
 have Q1:Hid (∀ w:World,Pens w a1 x.nc x.A x.D→Pens w b1 y.nc y.A y.D→Calls Tryz.prog 15 #[.slice a1 x.nc c1,.slice b1 y.nc d1] w fun e w' => e = .returned (.bool true)∧Below w.heap.size w w'):=fun w k k' => by rw [← e1] at k' ⊢; exact eqPendingS_yes a1 b1 x.nc c1 d1 x.A x.D y.A y.D w k k' eC l1
 have Q2:Hid (∀ w:World,Strs w a2 x.ns x.S→Strs w b2 y.ns y.S→Calls Tryz.prog 14 #[.slice a2 x.ns c2,.slice b2 y.ns d2] w fun e w' => e = .returned (.bool true)∧∃ q,w' = w.drewN q):=fun w k k' => by rw [← e2] at k' ⊢; exact eqStringS_yes a2 b2 x.ns c2 d2 x.S y.S w k k' eS l2
 have HX:Hid (DiskV w x a0 a1 a2):=h
 have HY:Hid (DiskV w y b0 b1 b2):=h'
 clear h h' e0 e1 e2 eB eC eS l0 l1 l2
 have A1:Hid (Below w.heap.size w ((w.alloc (.cells #[.slice a0 x.nb c0,.slice a1 x.nc c1,.slice a2 x.ns c2] 25)).alloc (.cells #[.slice b0 y.nb d0,.slice b1 y.nc d1,.slice b2 y.ns d2] 25))):=((Below.refl w.heap.size w).alloc (Nat.le_refl _) _).alloc (by simp) _
 have RA:Hid (Box3 ((w.alloc (.cells #[.slice a0 x.nb c0,.slice a1 x.nc c1,.slice a2 x.ns c2] 25)).alloc (.cells #[.slice b0 y.nb d0,.slice b1 y.nc d1,.slice b2 y.ns d2] 25)) w.heap.size 25 (.slice a0 x.nb c0) (.slice a1 x.nc c1) (.slice a2 x.ns c2)):=(Box3.made w _ _ _ _).alloc _
 have RB:Hid (Box3 ((w.alloc (.cells #[.slice a0 x.nb c0,.slice a1 x.nc c1,.slice a2 x.ns c2] 25)).alloc (.cells #[.slice b0 y.nb d0,.slice b1 y.nc d1,.slice b2 y.ns d2] 25)) (w.heap.size + 1) 25 (.slice b0 y.nb d0) (.slice b1 y.nc d1) (.slice b2 y.ns d2)):=Box3.madeAt (by simp) _ _ _ _
 go_enter Tryz.func6,Tryz.ntmps6
 go_wp2_with fail
 generalize ((w.alloc (.cells #[.slice a0 x.nb c0,.slice a1 x.nc c1,.slice a2 x.ns c2] 25)).alloc (.cells #[.slice b0 y.nb d0,.slice b1 y.nc d1,.slice b2 y.ns d2] 25)) = v at *
 refine (Q0.out _ (HX.out.1.below A1.out) (HY.out.1.below A1.out)).mono ?_
 rintro e w1 ⟨rfl,q,rfl⟩
 have hb:Below v.heap.size v (v.drewN q):=⟨rfl,rfl,rfl,Nat.le_refl _,fun _ _ => rfl⟩
 generalize v.drewN q = v1 at *
 replace A1:Hid (Below w.heap.size w v1):=A1.out.trans (hb.mono A1.out.size)
 replace RA:Hid (Box3 v1 w.heap.size 25 (.slice a0 x.nb c0) (.slice a1 x.nc c1) (.slice a2 x.ns c2)):=RA.out.below hb
 replace RB:Hid (Box3 v1 (w.heap.size + 1) 25 (.slice b0 y.nb d0) (.slice b1 y.nc d1) (.slice b2 y.ns d2)):=RB.out.below hb
 have k1:=RA.out.c1
 have k2:=RB.out.c1
 clear hb Q0
 go_wp2_with fail
 refine (Q1.out _ (HX.out.2.1.below A1.out) (HY.out.2.1.below A1.out)).mono ?_
 rintro e v2 ⟨rfl,hb⟩
 replace A1:Hid (Below w.heap.size w v2):=A1.out.trans (hb.mono A1.out.size)
 replace RA:Hid (Box3 v2 w.heap.size 25 (.slice a0 x.nb c0) (.slice a1 x.nc c1) (.slice a2 x.ns c2)):=RA.out.below hb
 replace RB:Hid (Box3 v2 (w.heap.size + 1) 25 (.slice b0 y.nb d0) (.slice b1 y.nc d1) (.slice b2 y.ns d2)):=RB.out.below hb
 clear hb Q1 k1 k2
 have k1:=RA.out.c2
 have k2:=RB.out.c2
 go_wp2_with fail
 refine (Q2.out _ (HX.out.2.2.below A1.out) (HY.out.2.2.below A1.out)).mono ?_
 rintro e w1 ⟨rfl,q,rfl⟩
 have hb:Below v2.heap.size v2 (v2.drewN q):=⟨rfl,rfl,rfl,Nat.le_refl _,fun _ _ => rfl⟩
 generalize v2.drewN q = v3 at *
 replace A1:Hid (Below w.heap.size w v3):=A1.out.trans (hb.mono A1.out.size)
 clear hb Q2 k1 k2 RA RB
 go_wp2
 go_ret
 exact ⟨rfl,A1.out⟩
set_option maxRecDepth 100000 in
theorem placeFault_ok (n m k:Nat) (a0 a1 a2:Option Addr) (c0 c1 c2:Nat) (x:Int) (s:ByteArray) (hx:0≤x) (hx':x < n) (hs:s.size≤200) (w:World) :
  Calls Tryz.prog 109 #[.agg #[.slice a0 n c0,.slice a1 m c1,.slice a2 k c2],.int .i64 x,.string s] w fun e w' => e = .returned .nilIface∧Below w.heap.size w w':=by
 have e1:¬ x < 0:=by omega
 have e2:¬ (n:Int)≤x:=by omega
 have e3:¬ (200:Int) < s.size:=by omega
 go_enter Tryz.func109,Tryz.ntmps109
 go_wp2
 go_ret
 exact ⟨rfl,(Below.refl w.heap.size w).alloc (Nat.le_refl _) _⟩
set_option maxRecDepth 100000 in
theorem placeFault_range (n m k:Nat) (a0 a1 a2:Option Addr) (c0 c1 c2:Nat) (x:Int) (s:ByteArray) (hx:¬ (0≤x∧x < n)) (p:Addr) (w:World) (hp:ErrAt w 4 p) :
  Calls Tryz.prog 109 #[.agg #[.slice a0 n c0,.slice a1 m c1,.slice a2 k c2],.int .i64 x,.string s] w fun e w' => e = .returned (.iface 290 (.pointer (some p)))∧Below w.heap.size w w':=by
 have HB:Hid (Below w.heap.size w (w.alloc (.cells #[.slice a0 n c0,.slice a1 m c1,.slice a2 k c2] 25))):=(Below.refl w.heap.size w).alloc (Nat.le_refl _) _
 have hp1:(w.alloc (.cells #[.slice a0 n c0,.slice a1 m c1,.slice a2 k c2] 25)).cell? ⟨4,0,none⟩ = some (.iface 290 (.pointer (some p))):=hp.below HB.out
 by_cases e1:x < 0
 ·go_enter Tryz.func109,Tryz.ntmps109
  go_wp2
  go_ret
  exact ⟨rfl,HB.out⟩
 ·have e2:(n:Int)≤x:=by omega
  go_enter Tryz.func109,Tryz.ntmps109
  go_wp2
  go_ret
  exact ⟨rfl,HB.out⟩
set_option maxRecDepth 100000 in
theorem placeFault_long (n m k:Nat) (a0 a1 a2:Option Addr) (c0 c1 c2:Nat) (x:Int) (s:ByteArray) (hx:0≤x) (hx':x < n) (hs:200 < s.size) (p:Addr) (w:World) (hp:ErrAt w 5 p) :
  Calls Tryz.prog 109 #[.agg #[.slice a0 n c0,.slice a1 m c1,.slice a2 k c2],.int .i64 x,.string s] w fun e w' => e = .returned (.iface 290 (.pointer (some p)))∧Below w.heap.size w w':=by
 have HB:Hid (Below w.heap.size w (w.alloc (.cells #[.slice a0 n c0,.slice a1 m c1,.slice a2 k c2] 25))):=(Below.refl w.heap.size w).alloc (Nat.le_refl _) _
 have hp1:(w.alloc (.cells #[.slice a0 n c0,.slice a1 m c1,.slice a2 k c2] 25)).cell? ⟨5,0,none⟩ = some (.iface 290 (.pointer (some p))):=hp.below HB.out
 have e1:¬ x < 0:=by omega
 have e2:¬ (n:Int)≤x:=by omega
 have e3:(200:Int) < s.size:=by omega
 go_enter Tryz.func109,Tryz.ntmps109
 go_wp2
 go_ret
 exact ⟨rfl,HB.out⟩
set_option maxRecDepth 100000 in
set_option maxHeartbeats 1000000 in
theorem blocksFit_any (a:Option Addr) (n c:Nat) (f:Nat→ByteArray) (r:Bool) (hr:r = true ↔ ∀ i,i < n→(f i).size≤200) (hn:n≤4096) (w:World) (h:Strs w a n f) :
  Calls Tryz.prog 125 #[.slice a n c] w fun e w' => e = .returned (.bool r)∧w = w':=by
 have HS:Hid (Strs w a n f):=h
 have HR:Hid (r = true ↔ ∀ i,i < n→(f i).size≤200):=hr
 clear h hr
 go_enter Tryz.func125,Tryz.ntmps125
 go_wp2
 go_loopw [7] (fun i wr => ∃ k:Nat,k≤n∧i = .int .i64 k∧(∀ j,j < k→(f j).size≤200)∧w = wr) (fun i _ => n - (intOf i).toNat)
 case atStart => exact ⟨0,by omega,rfl,fun j hj => absurd hj (by omega),rfl⟩
 case round =>
  obtain ⟨k,hk,rfl,hall,rfl⟩:=hrel
  have HL:Hid (∀ j,j < k→(f j).size≤200):=hall
  clear hall
  by_cases hlt:k < n
  ·obtain ⟨b,off,rfl,hc⟩:=HS.out.opened (by omega)
   have c1:=hc k hlt
   have hlt':(k:Int) < (n:Int):=by omega
   clear hc
   by_cases hs:200 < (f k).size
   ·obtain rfl:r = false:=by
     rcases Bool.eq_false_or_eq_true r with h | h
     ·have:=HR.out.1 h k hlt; omega
     ·exact h
    have hs':(200:Int) < ((f k).size:Int):=by omega
    generalize f k = V at *
    go_wp2
    go_ret
    exact ⟨rfl,rfl⟩
   ·have hs':¬ (200:Int) < ((f k).size:Int):=by omega
    have HS2:Hid ((f k).size≤200):=by show (f k).size≤200; omega
    clear hs
    go_wp2
    go_roundw
    case rel => exact ⟨k + 1,by omega,by go_num,fun j hj => by
     rcases (show j < k∨j = k by omega) with g | rfl
     ·exact HL.out j g
     ·exact HS2.out,trivial⟩
    case measure => simp [intOf]; omega
  ·obtain rfl:r = true:=HR.out.2 (fun i hi => HL.out i (by omega))
   have hlt':¬ (k:Int) < (n:Int):=by omega
   go_wp2
   go_ret
   exact ⟨rfl,rfl⟩
set_option maxRecDepth 100000 in
set_option maxHeartbeats 4000000 in
theorem implOK_any (d:Dk) (a0 a1 a2:Option Addr) (c0 c1 c2:Nat) (hd:d.nb≤1048576∧d.nc≤1048576∧d.ns≤1048576) (p0 p1:Addr) (w:World) (h:DiskV w d a0 a1 a2) (hE0:ErrAt w 4 p0) (hE1:ErrAt w 5 p1) :
  Calls Tryz.prog 89 #[.agg #[.slice a0 d.nb c0,.slice a1 d.nc c1,.slice a2 d.ns c2]] w fun e w' => e = .returned (.bool d.ok)∧Below w.heap.size w w':=by
 obtain ⟨hd0,hd1,hd2⟩:=hd
 have A1:Hid (Below w.heap.size w (w.alloc (.cells #[.slice a0 d.nb c0,.slice a1 d.nc c1,.slice a2 d.ns c2] 25))):=(Below.refl w.heap.size w).alloc (Nat.le_refl _) _
 have RA:Hid (Box3 (w.alloc (.cells #[.slice a0 d.nb c0,.slice a1 d.nc c1,.slice a2 d.ns c2] 25)) w.heap.size 25 (.slice a0 d.nb c0) (.slice a1 d.nc c1) (.slice a2 d.ns c2)):=Box3.made w _ _ _ _
 obtain ⟨r,hr⟩:∃ r,r = d.ok:=⟨_,rfl⟩
 rw [← hr]
 have RT:Hid (d.Ok→r = true):=fun q => by rw [hr]; exact Dk.ok_true q
 have RF:Hid (¬ d.Ok→r = false):=fun q => by rw [hr]; exact Dk.ok_false q
 have HD:Hid (DiskV w d a0 a1 a2):=h
 have E0:Hid (ErrAt w 4 p0):=hE0
 have E1:Hid (ErrAt w 5 p1):=hE1
 clear h hr hE0 hE1
 by_cases p1':1≤d.nb∧d.nb≤64∧d.nc≤4096
 ·obtain ⟨p1a,p1b,p2⟩:=p1'
  have x1:¬ (d.nb:Int) < 1:=by omega
  have x2:¬ (64:Int) < d.nb:=by omega
  have e2:¬ (4096:Int) < d.nc:=by omega
  by_cases p3:d.ns = 0∨d.ns = d.nb
  ·have OK0:Hid ((∀ i,i < d.nb→(d.B i).size≤200)→(∀ i,i < d.ns→(d.S i).size≤200)→(∀ i,i < d.nc→(0≤d.A i∧d.A i < d.nb)∧(d.D i).size≤200)→d.Ok):=fun q1 q2 q3 => ⟨p1a,p1b,p2,p3,q1,q3,q2⟩
   have e3:((d.ns:Int) != 0) = true∧((d.ns:Int) != (d.nb:Int)) = false∨((d.ns:Int) != 0) = false:=by
    rcases p3 with e | e
    ·right; simp; omega
    ·by_cases g:d.ns = 0
     ·right; simp; omega
     ·left; simp; omega
   have hns:d.ns≤64:=by omega
   clear p3
   go_enter Tryz.func89,Tryz.ntmps89
   rcases e3 with ⟨e3,e4⟩ | e3
   all_goals
    go_wp2
    generalize (w.alloc (.cells #[.slice a0 d.nb c0,.slice a1 d.nc c1,.slice a2 d.ns c2] 25)) = v at *
    go_loopw [37] (fun i wr => ∃ k:Nat,k≤d.nc∧i = .int .i64 k∧(∀ j,j < k→(0≤d.A j∧d.A j < d.nb)∧(d.D j).size≤200)∧Box3 wr w.heap.size 25 (.slice a0 d.nb c0) (.slice a1 d.nc c1) (.slice a2 d.ns c2)∧Below w.heap.size w wr) (fun i _ => d.nc - (intOf i).toNat)
    case atStart => exact ⟨0,by omega,rfl,fun j hj => absurd hj (by omega),RA.out,A1.out⟩
    case round =>
     clear RA A1
     obtain ⟨k,hk,rfl,hall,hbox,hb⟩:=hrel
     have HL:Hid (∀ j,j < k→(0≤d.A j∧d.A j < d.nb)∧(d.D j).size≤200):=hall
     have RA:Hid (Box3 wr w.heap.size 25 (.slice a0 d.nb c0) (.slice a1 d.nc c1) (.slice a2 d.ns c2)):=hbox
     have A1:Hid (Below w.heap.size w wr):=hb
     have k0:=RA.out.c0
     have k1:=RA.out.c1
     have k2:=RA.out.c2
     clear hall hbox
     by_cases hlt:k < d.nc
     ·obtain ⟨b,off,rfl,hc⟩:=(HD.out.2.1.below hb).opened (by omega)
      obtain ⟨cc,cd⟩:=hc k hlt
      have hlt':(k:Int) < (d.nc:Int):=by omega
      have hsz:=hb.size
      have hkl:=RA.out.lt
      clear hc hb
      have B2:Hid (Below wr.heap.size wr (wr.alloc (.cells #[.int .i64 (d.A k),.string (d.D k)] 60))):=(Below.refl wr.heap.size wr).alloc (Nat.le_refl _) _
      by_cases g:0≤d.A k∧d.A k < d.nb
      ·by_cases hs:200 < (d.D k).size
       ·have PF:Hid (∀ w:World,ErrAt w 5 p1→Calls Tryz.prog 109 #[.agg #[.slice a0 d.nb c0,.slice (some ⟨b,off,none⟩) d.nc c1,.slice a2 d.ns c2],.int .i64 (d.A k),.string (d.D k)] w fun e w' => e = .returned (.iface 290 (.pointer (some p1)))∧Below w.heap.size w w'):=fun w he => placeFault_long _ _ _ _ _ _ _ _ _ _ _ g.1 g.2 hs p1 w he
        obtain rfl:r = false:=RF.out (fun q => by have:=(q.C k hlt).2; omega)
        clear g hs
        go_wp2_with fail
        refine (PF.out _ ((E1.out.below A1.out).below B2.out)).mono ?_
        rintro e w1 ⟨rfl,hb⟩
        have B3:Hid (Below w.heap.size w w1):=A1.out.trans ((B2.out.trans (hb.mono B2.out.size)).mono A1.out.size)
        clear hb B2 A1 RA k0 k1 k2 cc cd PF
        go_wp2
        go_ret
        exact ⟨rfl,B3.out⟩
       ·have PF:Hid (∀ w:World,Calls Tryz.prog 109 #[.agg #[.slice a0 d.nb c0,.slice (some ⟨b,off,none⟩) d.nc c1,.slice a2 d.ns c2],.int .i64 (d.A k),.string (d.D k)] w fun e w' => e = .returned .nilIface∧Below w.heap.size w w'):=fun w => placeFault_ok _ _ _ _ _ _ _ _ _ _ _ g.1 g.2 (by omega) w
        have HG:Hid ((0≤d.A k∧d.A k < d.nb)∧(d.D k).size≤200):=⟨g,by omega⟩
        clear g hs
        go_wp2_with fail
        refine (PF.out _).mono ?_
        rintro e w1 ⟨rfl,hb⟩
        have B3:Hid (Below w.heap.size w w1):=A1.out.trans ((B2.out.trans (hb.mono B2.out.size)).mono A1.out.size)
        have R3:Hid (Box3 w1 w.heap.size 25 (.slice a0 d.nb c0) (.slice (some ⟨b,off,none⟩) d.nc c1) (.slice a2 d.ns c2)):=(RA.out.below B2.out).below hb
        clear hb B2 A1 RA k0 k1 k2 cc cd PF
        go_wp2
        go_roundw
        case rel => exact ⟨k + 1,by omega,by go_num,fun j hj => by
         rcases (show j < k∨j = k by omega) with g | rfl
         ·exact HL.out j g
         ·exact HG.out,R3.out,B3.out⟩
        case measure => simp [intOf]; omega
      ·have PF:Hid (∀ w:World,ErrAt w 4 p0→Calls Tryz.prog 109 #[.agg #[.slice a0 d.nb c0,.slice (some ⟨b,off,none⟩) d.nc c1,.slice a2 d.ns c2],.int .i64 (d.A k),.string (d.D k)] w fun e w' => e = .returned (.iface 290 (.pointer (some p0)))∧Below w.heap.size w w'):=fun w he => placeFault_range _ _ _ _ _ _ _ _ _ _ _ g p0 w he
       obtain rfl:r = false:=RF.out (fun q => g (q.C k hlt).1)
       clear g
       go_wp2_with fail
       refine (PF.out _ ((E0.out.below A1.out).below B2.out)).mono ?_
       rintro e w1 ⟨rfl,hb⟩
       have B3:Hid (Below w.heap.size w w1):=A1.out.trans ((B2.out.trans (hb.mono B2.out.size)).mono A1.out.size)
       clear hb B2 A1 RA k0 k1 k2 cc cd PF
       go_wp2
       go_ret
       exact ⟨rfl,B3.out⟩
     ·have hlt':¬ (k:Int) < (d.nc:Int):=by omega
      have OK2:Hid ((∀ i,i < d.nb→(d.B i).size≤200)→(∀ i,i < d.ns→(d.S i).size≤200)→d.Ok):=fun q1 q2 => OK0.out q1 q2 (fun i hi => HL.out i (by omega))
      by_cases g:∀ i,i < d.nb→(d.B i).size≤200
      ·have F1:Hid (∀ w:World,Strs w a0 d.nb d.B→Calls Tryz.prog 125 #[.slice a0 d.nb c0] w fun e w' => e = .returned (.bool true)∧w = w'):=fun w h => blocksFit_any a0 d.nb c0 d.B true ⟨fun _ => g,fun _ => rfl⟩ (by omega) w h
       have HG:Hid (∀ i,i < d.nb→(d.B i).size≤200):=g
       have F2:Hid (∀ w:World,Strs w a2 d.ns d.S→Calls Tryz.prog 125 #[.slice a2 d.ns c2] w fun e w' => e = .returned (.bool r)∧w = w'):=fun w h => blocksFit_any a2 d.ns c2 d.S r ⟨fun hr i hi => (Classical.em d.Ok).elim (fun q => q.S i hi) (fun q => absurd (hr.symm.trans (RF.out q)) (by decide)),fun q2 => RT.out (OK2.out HG.out q2)⟩ (by omega) w h
       clear g hb HL OK2
       go_wp2_with fail
       refine (F1.out _ (HD.out.1.below A1.out)).mono ?_
       rintro e w1 ⟨rfl,rfl⟩
       clear F1
       go_wp2_with fail
       refine (F2.out _ (HD.out.2.2.below A1.out)).mono ?_
       rintro e w1 ⟨rfl,rfl⟩
       clear F2 RT RF
       go_wp2
       go_ret
       exact ⟨by cases r <;> rfl,A1.out⟩
      ·have F1:Hid (∀ w:World,Strs w a0 d.nb d.B→Calls Tryz.prog 125 #[.slice a0 d.nb c0] w fun e w' => e = .returned (.bool false)∧w = w'):=fun w h => blocksFit_any a0 d.nb c0 d.B false ⟨fun h => by (cases h),fun h => absurd h g⟩ (by omega) w h
       obtain rfl:r = false:=RF.out (fun q => g q.B)
       clear g hb HL OK2
       go_wp2_with fail
       refine (F1.out _ (HD.out.1.below A1.out)).mono ?_
       rintro e w1 ⟨rfl,rfl⟩
       clear F1
       go_wp2
       go_ret
       exact ⟨rfl,A1.out⟩
  ·obtain rfl:r = false:=RF.out (fun q => p3 q.ns)
   have e3:((d.ns:Int) != 0) = true:=by simp; omega
   have e4:((d.ns:Int) != (d.nb:Int)) = true:=by simp; omega
   go_enter Tryz.func89,Tryz.ntmps89
   go_wp2
   go_ret
   exact ⟨rfl,A1.out⟩
 ·obtain rfl:r = false:=RF.out (fun q => p1' ⟨q.nb1,q.nb2,q.nc⟩)
  by_cases x1:(d.nb:Int) < 1
  ·go_enter Tryz.func89,Tryz.ntmps89
   go_wp2
   go_ret
   exact ⟨rfl,A1.out⟩
  ·by_cases x2:(64:Int) < d.nb
   ·go_enter Tryz.func89,Tryz.ntmps89
    go_wp2
    go_ret
    exact ⟨rfl,A1.out⟩
   ·have x3:(4096:Int) < d.nc:=by omega
    go_enter Tryz.func89,Tryz.ntmps89
    go_wp2
    go_ret
    exact ⟨rfl,A1.out⟩
theorem zeroPen (w:World):(zeroValue 60).run Tryz.prog w = .ok (.agg #[.int .i64 0,.string ⟨#[]⟩]) w:=by kernel_rfl
set_option maxRecDepth 100000 in
set_option maxHeartbeats 2000000 in
theorem driveOf_any (d:Dk) (a0 a1 a2:Option Addr) (c0 c1 c2:Nat) (hn:d.nc≤4096) (w:World) (h:Pens w a1 d.nc d.A d.D) :
  Calls Tryz.prog 45 #[.agg #[.slice a0 d.nb c0,.slice a1 d.nc c1,.slice a2 d.ns c2]] w fun e w' => e = .returned (.pointer (some ⟨w.heap.size + 2,0,none⟩))∧Box4 w' (w.heap.size + 2) 57 (.slice a0 d.nb c0) (.slice a1 d.nc c1) (.slice a2 d.ns c2) (.map (some (w.heap.size + 1)))∧MapI w' (w.heap.size + 1) (lastM d.A d.D d.nc)∧Below w.heap.size w w':=by
 have HP:Hid (Pens w a1 d.nc d.A d.D):=h
 clear h
 have hmk:∀ w:World,(Instr.makeMap 55 none).run Tryz.prog w = .ok (.map (some w.heap.size)) (w.alloc (.map #[] 0)):=fun w => run_makeMap 55 w
 go_enter Tryz.func45,Tryz.ntmps45
 have B0:Hid (Below w.heap.size w (((w.alloc (.cells #[.slice a0 d.nb c0,.slice a1 d.nc c1,.slice a2 d.ns c2] 25)).alloc (.map #[] 0)).alloc (.cells #[.slice a0 d.nb c0,.slice a1 d.nc c1,.slice a2 d.ns c2,.map (some (w.heap.size + 1))] 57))):=(((Below.refl w.heap.size w).alloc (Nat.le_refl _) _).alloc (by simp) _).alloc (by simp; omega) _
 have X0:Hid (Box4 (((w.alloc (.cells #[.slice a0 d.nb c0,.slice a1 d.nc c1,.slice a2 d.ns c2] 25)).alloc (.map #[] 0)).alloc (.cells #[.slice a0 d.nb c0,.slice a1 d.nc c1,.slice a2 d.ns c2,.map (some (w.heap.size + 1))] 57)) (w.heap.size + 1 + 1) 57 (.slice a0 d.nb c0) (.slice a1 d.nc c1) (.slice a2 d.ns c2) (.map (some (w.heap.size + 1)))):=Box4.madeAt (by simp) _ _ _ _ _
 have M0:Hid (MapI (((w.alloc (.cells #[.slice a0 d.nb c0,.slice a1 d.nc c1,.slice a2 d.ns c2] 25)).alloc (.map #[] 0)).alloc (.cells #[.slice a0 d.nb c0,.slice a1 d.nc c1,.slice a2 d.ns c2,.map (some (w.heap.size + 1))] 57)) (w.heap.size + 1) (lastM d.A d.D 0)):=by
  have:=MapI.made (w.alloc (.cells #[.slice a0 d.nb c0,.slice a1 d.nc c1,.slice a2 d.ns c2] 25))
  rw [show (w.alloc (.cells #[.slice a0 d.nb c0,.slice a1 d.nc c1,.slice a2 d.ns c2] 25)).heap.size = w.heap.size + 1 from by simp] at this
  exact this.below ((Below.refl _ _).alloc (Nat.le_refl _) _)
 go_wp2
 generalize (((w.alloc (.cells #[.slice a0 d.nb c0,.slice a1 d.nc c1,.slice a2 d.ns c2] 25)).alloc (.map #[] 0)).alloc (.cells #[.slice a0 d.nb c0,.slice a1 d.nc c1,.slice a2 d.ns c2,.map (some (w.heap.size + 1))] 57)) = v at *
 clear hmk
 go_loopw [13] (fun i wr => ∃ k:Nat,k≤d.nc∧i = .int .i64 k∧Box4 wr (w.heap.size + 1 + 1) 57 (.slice a0 d.nb c0) (.slice a1 d.nc c1) (.slice a2 d.ns c2) (.map (some (w.heap.size + 1)))∧MapI wr (w.heap.size + 1) (lastM d.A d.D k)∧Below w.heap.size w wr) (fun i _ => d.nc - (intOf i).toNat)
 case atStart => exact ⟨0,by omega,rfl,X0.out,M0.out,B0.out⟩
 case round =>
  clear B0 X0 M0
  obtain ⟨k,hk,rfl,hx,hm,hb⟩:=hrel
  have B0:Hid (Below w.heap.size w wr):=hb
  have X0:Hid (Box4 wr (w.heap.size + 1 + 1) 57 (.slice a0 d.nb c0) (.slice a1 d.nc c1) (.slice a2 d.ns c2) (.map (some (w.heap.size + 1)))):=hx
  have M0:Hid (MapI wr (w.heap.size + 1) (lastM d.A d.D k)):=hm
  clear hx hm
  by_cases hlt:k < d.nc
  ·obtain ⟨b,off,rfl,hc⟩:=(HP.out.below hb).opened (by omega)
   obtain ⟨cc,cd⟩:=hc k hlt
   have hlt':(k:Int) < (d.nc:Int):=by omega
   have hq:=X0.out.lt
   have B2:Below wr.heap.size wr (wr.alloc (.cells #[.int .i64 (d.A k),.string (d.D k)] 60)):=(Below.refl wr.heap.size wr).alloc (Nat.le_refl _) _
   have X1:Box4 (wr.alloc (.cells #[.int .i64 (d.A k),.string (d.D k)] 60)) (w.heap.size + 1 + 1) 57 (.slice a0 d.nb c0) (.slice (some ⟨b,off,none⟩) d.nc c1) (.slice a2 d.ns c2) (.map (some (w.heap.size + 1))):=X0.out.below B2
   have e3:=X1.c3
   obtain ⟨wz,hmu,hM,hO,hsz⟩:=MapI.put (P:=Tryz.prog) (w:=(wr.alloc (.cells #[.int .i64 (d.A k),.string (d.D k)] 60)).drew) (M0.out.below B2.drew) Tryz.underlying55 Tryz.underlying3 (d.A k) (.agg #[.int .i64 (d.A k),.string (d.D k)])
   have HM:Hid (MapI wz (w.heap.size + 1) (lastM d.A d.D (k + 1))):=hM
   have HO:Hid (OnlyB (w.heap.size + 1) (wr.alloc (.cells #[.int .i64 (d.A k),.string (d.D k)] 60)).drew wz):=hO
   have HX:Hid (Box4 wz (w.heap.size + 1 + 1) 57 (.slice a0 d.nb c0) (.slice (some ⟨b,off,none⟩) d.nc c1) (.slice a2 d.ns c2) (.map (some (w.heap.size + 1)))):=Box4.onlyB (X0.out.below B2.drew) hO (by omega)
   have HB:Hid (Below w.heap.size w wz):=B0.out.trans ((B2.drew.mono B0.out.size).trans (hO.toBelow (by omega) (by have:=B0.out.size; have:=B2.drew.size; omega)))
   clear hM hO hsz hc hb B2 X1
   go_wp2_with fail
   go_region
   clear hmu e3 cc cd
   go_wp2
   go_roundw
   case rel => exact ⟨k + 1,by omega,by go_num,HX.out,HM.out,HB.out⟩
   case measure => simp [intOf]; omega
  ·have hlt':¬ (k:Int) < (d.nc:Int):=by omega
   obtain rfl:k = d.nc:=by omega
   clear hb
   go_wp2
   go_ret
   exact ⟨rfl,X0.out,M0.out,B0.out⟩
set_option maxRecDepth 100000 in
set_option maxHeartbeats 2000000 in
theorem stands_any (d:Dk) (a0:Option Addr) (c0 q b x:Nat) (y z:Value) (hx:x < d.nb) (hn:d.nb≤64) (w:World) (hq:Box4 w q 57 (.slice a0 d.nb c0) y z (.map (some b))) (hm:MapI w b (lastM d.A d.D d.nc)) (hB:Strs w a0 d.nb d.B) :
  Calls Tryz.prog 133 #[.pointer (some ⟨q,0,none⟩),.int .i64 (x:Int)] w fun e w' => e = .returned (.string (d.rd x))∧Below w.heap.size w w':=by
 have hl:=hm.look (P:=Tryz.prog) Tryz.underlying55 Tryz.underlying3 (zeroPen w) (x:Int)
 have k0:=hq.c0
 have k3:=hq.c3
 obtain ⟨b1,off,rfl,hc⟩:=hB.opened (by omega)
 have cx:=hc x hx
 have hx1:(x:Int) < (d.nb:Int):=by omega
 have hx0:(0:Int)≤(x:Int):=by omega
 rcases lastM_rd d.A d.D (d.B x) (x:Int) d.nc with ⟨e1,e2⟩ | e1
 ·have HR:Hid (d.rd x = d.B x):=e2
  rw [e1] at hl
  simp only [Option.getD_none,Option.isSome_none] at hl
  have B2:Hid (Below w.heap.size w (w.alloc (.cells #[.int .i64 0,.string ⟨#[]⟩] 60))):=(Below.refl w.heap.size w).alloc (Nat.le_refl _) _
  have hlt:=hq.lt
  clear hm hB hc hq e2 e1
  generalize d.rd x = R at *
  generalize d.B x = V at *
  have cx2:(w.alloc (.cells #[.int .i64 0,.string ⟨#[]⟩] 60)).cell? ⟨b1,off + x,none⟩ = some (.string V):=by rw [B2.out.cell (strBlock cx)]; exact cx
  go_enter Tryz.func133,Tryz.ntmps133
  go_wp2
  go_ret
  exact ⟨by rw [HR.out]; rfl,B2.out⟩
 ·have e3:lastM d.A d.D d.nc (x:Int) = some (.agg #[.int .i64 (x:Int),.string (d.rd x)]):=e1
  rw [e3] at hl
  simp only [Option.getD_some,Option.isSome_some] at hl
  clear hm hB hc hq e1 e3
  generalize d.rd x = R at *
  have B2:Hid (Below w.heap.size w (w.alloc (.cells #[.int .i64 (x:Int),.string R] 60))):=(Below.refl w.heap.size w).alloc (Nat.le_refl _) _
  go_enter Tryz.func133,Tryz.ntmps133
  go_wp2
  go_ret
  exact ⟨rfl,B2.out⟩
set_option maxRecDepth 100000 in
set_option maxHeartbeats 2000000 in
theorem l05Read_any (d:Dk) (a0 a1 a2:Option Addr) (c0 c1 c2 x:Nat) (hx:x < d.nb) (hn:d.nb≤64) (hc:d.nc≤4096) (w:World) (h:DiskV w d a0 a1 a2) :
  Calls Tryz.prog 35 #[.agg #[.slice a0 d.nb c0,.slice a1 d.nc c1,.slice a2 d.ns c2],.int .i64 (x:Int)] w fun e w' => e = .returned (.string (d.rd x))∧Below w.heap.size w w':=by
 have A1:Hid (Below w.heap.size w (w.alloc (.cells #[.slice a0 d.nb c0,.slice a1 d.nc c1,.slice a2 d.ns c2] 25))):=(Below.refl w.heap.size w).alloc (Nat.le_refl _) _
 have RA:Hid (Box3 (w.alloc (.cells #[.slice a0 d.nb c0,.slice a1 d.nc c1,.slice a2 d.ns c2] 25)) w.heap.size 25 (.slice a0 d.nb c0) (.slice a1 d.nc c1) (.slice a2 d.ns c2)):=Box3.made w _ _ _ _
 have HD:Hid (DiskV (w.alloc (.cells #[.slice a0 d.nb c0,.slice a1 d.nc c1,.slice a2 d.ns c2] 25)) d a0 a1 a2):=h.below A1.out
 have hx1:(x:Int) < (d.nb:Int):=by omega
 obtain ⟨R,hR⟩:∃ R,R = d.rd x:=⟨_,rfl⟩
 have HR:Hid (R = rdF d.A d.D (d.B x) (x:Int) d.nc):=hR
 rw [← hR]
 clear h hR
 go_enter Tryz.func35,Tryz.ntmps35
 go_wp2
 generalize (w.alloc (.cells #[.slice a0 d.nb c0,.slice a1 d.nc c1,.slice a2 d.ns c2] 25)) = v at *
 go_loopw [5] (fun i wr => ∃ k:Nat,k≤d.nc∧i = .int .i64 ((k:Int) - 1)∧R = rdF d.A d.D (d.B x) (x:Int) k∧v = wr) (fun i _ => (intOf i + 1).toNat)
 case atStart => exact ⟨d.nc,by omega,rfl,HR.out,rfl⟩
 case round =>
  clear HR
  obtain ⟨k,hk,rfl,hr,rfl⟩:=hrel
  have HR:Hid (R = rdF d.A d.D (d.B x) (x:Int) k):=hr
  have k0:=RA.out.c0
  have k1:=RA.out.c1
  clear hr
  rcases Nat.eq_zero_or_pos k with rfl | hpos
  ·obtain ⟨b,off,rfl,hb⟩:=HD.out.1.opened (by omega)
   have cx:=hb x hx
   have HV:Hid (R = d.B x):=HR.out
   clear hb HR
   generalize d.B x = V at *
   go_wp2
   go_ret
   exact ⟨by rw [HV.out]; rfl,A1.out⟩
  ·obtain ⟨k,rfl⟩:∃ j,k = j + 1:=⟨k - 1,by omega⟩
   obtain ⟨b,off,rfl,hb⟩:=HD.out.2.1.opened (by omega)
   obtain ⟨cc,cd⟩:=hb k (by omega)
   have e1:((k + 1:Nat):Int) - 1 = (k:Int):=by omega
   have hkk:(k:Int) < (d.nc:Int):=by omega
   have hk0:(0:Int)≤(k:Int):=by omega
   rw [e1]
   clear hb e1
   by_cases g:d.A k = (x:Int)
   ·have HV:Hid (R = d.D k):=by
     have:=HR.out
     unfold rdF at this
     rwa [if_pos g] at this
    have g1:(d.A k == (x:Int)) = true:=by simp [g]
    clear g HR
    go_wp2
    go_ret
    exact ⟨by rw [HV.out]; rfl,A1.out⟩
   ·have HV:Hid (R = rdF d.A d.D (d.B x) (x:Int) k):=by
     have:=HR.out
     unfold rdF at this
     rwa [if_neg g] at this
    have g1:(d.A k == (x:Int)) = false:=by simp [g]
    clear g HR
    go_wp2
    go_roundw
    case rel => exact ⟨k,by omega,rfl,HV.out,trivial⟩
    case measure => simp [intOf]
def TxR (w:World) (B:Nat) (v:Value) (n:Nat) (f:Nat→ByteArray):Prop:=w.ownsRow B 9 1 v n ((List.range n).map fun i => .string (f i))
def PnR (w:World) (B:Nat) (v:Value) (n:Nat) (A:Nat→Int) (D:Nat→ByteArray):Prop:=w.ownsRow B 60 2 v n ((List.range (n * 2)).map (penC A D))
def rowOf (v:Value):Nat:=match v.ownBlock with | some g => g | none => 0
theorem TxR.form {w:World} {B:Nat} {v:Value} {n:Nat} {f:Nat→ByteArray} (h:TxR w B v n f):∃ a c,v = .slice a n c∧RowS w a (rowOf v) n f∧(0 < n→B≤rowOf v)∧(v.ownBlock = none→n = 0)∧n≤c:=by
 obtain ⟨hl,⟨rfl,rfl⟩ | ⟨g,cap,cur,rfl,hB,hh,hn,hm,hs,ht⟩⟩:=h
 ·exact ⟨none,0,rfl,RowS.nil _ _ _ _,fun h => absurd h (by omega),fun _ => rfl,Nat.le_refl _⟩
 ·refine ⟨some ⟨g,0,none⟩,cap,rfl,⟨fun _ => rfl,fun i hi => ?_,fun i hi => ?_⟩,fun _ => hB,fun h => (by cases h),hn⟩
  ·have h1:(cur.toList.take (n * 1))[i]? = some (.string (f i)):=by rw [ht]; simp [hi]
   rw [List.getElem?_take,if_pos (by omega),Array.getElem?_toList] at h1
   show w.cell? ⟨g,i,none⟩ = _
   simp [World.cell?,hh,h1]
  ·show w.frozen? ⟨g,i,none⟩ = false
   simp [World.frozen?,hh]
theorem PnR.form {w:World} {B:Nat} {v:Value} {n:Nat} {A:Nat→Int} {D:Nat→ByteArray} (h:PnR w B v n A D):∃ a c,v = .slice a n c∧RowP w a (rowOf v) n A D∧(0 < n→B≤rowOf v)∧(v.ownBlock = none→n = 0)∧n≤c:=by
 obtain ⟨hl,⟨rfl,rfl⟩ | ⟨g,cap,cur,rfl,hB,hh,hn,hm,hs,ht⟩⟩:=h
 ·exact ⟨none,0,rfl,RowP.nil _ _ _ _ _,fun h => absurd h (by omega),fun _ => rfl,Nat.le_refl _⟩
 ·have each:∀ i,i < n * 2→w.cell? ⟨g,i,none⟩ = some (penC A D i):=fun i hi => by
   have h1:(cur.toList.take (n * 2))[i]? = some (penC A D i):=by rw [ht]; simp [hi]
   rw [List.getElem?_take,if_pos (by omega),Array.getElem?_toList] at h1
   simp [World.cell?,hh,h1]
  refine ⟨some ⟨g,0,none⟩,cap,rfl,⟨fun _ => rfl,fun i hi => ?_,fun i hi => ?_,fun i hi => ?_⟩,fun _ => hB,fun h => (by cases h),hn⟩
  ·exact (each (i * 2) (by omega)).trans (by rw [penC0])
  ·exact (each (i * 2 + 1) (by omega)).trans (by rw [penC1])
  ·show w.frozen? ⟨g,i,none⟩ = false
   simp [World.frozen?,hh]
theorem ownsRow_block {w w':World} {B:Nat} {e:TypeId} {size:Nat} {v:Value} {n:Nat} {xs:List Value} (h:w.ownsRow B e size v n xs) (hk:∀ g,v.ownBlock = some g→w'.heap[g]? = w.heap[g]?):w'.ownsRow B e size v n xs:=by
 obtain ⟨hl,h0 | ⟨g,cap,cur,rfl,hB,hh,hr⟩⟩:=h
 ·exact ⟨hl,.inl h0⟩
 ·exact ⟨hl,.inr ⟨g,cap,cur,rfl,hB,(hk g rfl).trans hh,hr⟩⟩
theorem ownsRow_belowD {w w':World} {B:Nat} {e:TypeId} {size:Nat} {v:Value} {n:Nat} {xs:List Value} (h:w.ownsRow B e size v n xs) (hb:Below w.heap.size w w'):w'.ownsRow B e size v n xs:=ownsRow_block h (fun g hg => hb.block g (h.lt g hg).2)
theorem ownsRow_onlyB {w w':World} {B b:Nat} {e:TypeId} {size:Nat} {v:Value} {n:Nat} {xs:List Value} (h:w.ownsRow B e size v n xs) (ho:OnlyB b w w') (hne:v.ownBlock≠some b):w'.ownsRow B e size v n xs:=ownsRow_block h (fun g hg => ho.block g (h.lt g hg).2 (fun e => hne (e ▸ hg)))
theorem TxR.below {w w':World} {B:Nat} {v:Value} {n:Nat} {f:Nat→ByteArray} (h:TxR w B v n f) (hb:Below w.heap.size w w'):TxR w' B v n f:=ownsRow_belowD h hb
theorem PnR.below {w w':World} {B:Nat} {v:Value} {n:Nat} {A:Nat→Int} {D:Nat→ByteArray} (h:PnR w B v n A D) (hb:Below w.heap.size w w'):PnR w' B v n A D:=ownsRow_belowD h hb
theorem TxR.onlyB {w w':World} {B b:Nat} {v:Value} {n:Nat} {f:Nat→ByteArray} (h:TxR w B v n f) (ho:OnlyB b w w') (hne:v.ownBlock≠some b):TxR w' B v n f:=ownsRow_onlyB h ho hne
theorem PnR.onlyB {w w':World} {B b:Nat} {v:Value} {n:Nat} {A:Nat→Int} {D:Nat→ByteArray} (h:PnR w B v n A D) (ho:OnlyB b w w') (hne:v.ownBlock≠some b):PnR w' B v n A D:=ownsRow_onlyB h ho hne
theorem TxR.nil (w:World) (B:Nat) (f:Nat→ByteArray):TxR w B (.slice none 0 0) 0 f:=World.ownsRow_nil w B _ _
theorem PnR.nil (w:World) (B:Nat) (A:Nat→Int) (D:Nat→ByteArray):PnR w B (.slice none 0 0) 0 A D:=World.ownsRow_nil w B _ _
theorem TxR.lit (w:World) (B:Nat) (hB:B≤w.heap.size) (f:Nat→ByteArray):TxR (w.alloc (.cells #[] 9)) B (.slice (some ⟨w.heap.size,0,none⟩) 0 0) 0 f:=World.ownsRow_made w #[] 0 hB (Nat.zero_le _) rfl
theorem PnR.lit (w:World) (B:Nat) (hB:B≤w.heap.size) (A:Nat→Int) (D:Nat→ByteArray):PnR (w.alloc (.cells #[] 60)) B (.slice (some ⟨w.heap.size,0,none⟩) 0 0) 0 A D:=World.ownsRow_made w #[] 0 hB (Nat.zero_le _) rfl
def catT (n:Nat) (f g:Nat→ByteArray) (i:Nat):ByteArray:=if i < n then f i else g (i - n)
def catI (n:Nat) (f g:Nat→Int) (i:Nat):Int:=if i < n then f i else g (i - n)
theorem grown_belowD {w w':World} (h:w.grownBy w' none):Below w.heap.size w w':=(Below.refl _ w).grown h (Nat.le_refl _) (fun k hk => by cases hk)
set_option maxRecDepth 100000 in
theorem appTx (w:World) (B:Nat) (v:Value) (n:Nat) (f:Nat→ByteArray) (a:Option Addr) (m c:Nat) (g:Nat→ByteArray) (ty:TypeId) (hB:B≤w.heap.size) (hn:n + m≤1048576) (h:TxR w B v n f) (hs:Strs w a m g) (ha:a = none→c = 0) :
  ∃ v' w',(Builtin.append_ #[22,22] ty #[v,.slice a m c]).run Tryz.prog w = .ok v' w'∧TxR w' B v' (n + m) (catT n f g)∧w.grownBy w' v.ownBlock∧(v'.ownBlock = v.ownBlock∨v'.ownBlock = some w.heap.size):=by
 obtain ⟨i,hi,hz,hsz,hby⟩:=info_parts Tryz.infoStrD
 have hcat:(List.range (n + m)).map (fun i => Value.string (catT n f g i)) = (List.range n).map (fun i => .string (f i)) ++ (List.range m).map (fun i => .string (g i)):=by
  rw [List.range_add,List.map_append,List.map_map]
  congr 1
  ·exact List.map_congr_left (fun j hj => by unfold catT; rw [if_pos (List.mem_range.1 hj)])
  ·exact List.map_congr_left (fun j _ => by show Value.string (catT n f g (n + j)) = _; unfold catT; rw [if_neg (by omega),Nat.add_sub_cancel_left])
 by_cases h0:m = 0
 ·subst h0
  have hcong:TxR w B v (n + 0) (catT n f g):=by
   unfold TxR
   rw [hcat]
   simpa [TxR] using h
  cases a with
  | none =>
   obtain rfl:=ha rfl
   exact ⟨v,w,run_append_owned_none w B 22 ty 9 i 1 Tryz.underlying22 hi v n _ h,hcong,⟨rfl,rfl,rfl,Nat.le_refl _,fun _ _ _ => rfl⟩,.inl rfl⟩
  | some ad =>
   obtain ⟨v',w',hr,ho,hg,_,hloc⟩:=run_append_own_at (P:=Tryz.prog) w B 22 ty 9 i (.string ⟨#[]⟩) 1 16 Tryz.underlying22 hi hz hsz hby rfl (by decide) v n _ h ad 0 c [] rfl (fun j u hj => by simp at hj) (fun u hu => by simp at hu) (by unfold maxLen; omega) (by omega) hB
   exact ⟨v',w',hr,by unfold TxR; rw [hcat]; simpa using ho,hg,hloc⟩
 ·obtain ⟨b,off,rfl,hc⟩:=hs.opened (by omega)
  obtain ⟨v',w',hr,ho,hg,_,hloc⟩:=run_append_own_at (P:=Tryz.prog) w B 22 ty 9 i (.string ⟨#[]⟩) 1 16 Tryz.underlying22 hi hz hsz hby rfl (by decide) v n _ h ⟨b,off,none⟩ m c ((List.range m).map fun i => .string (g i)) (by simp) (fun j u hj => by
   have hjm:j < m:=by have:=(List.getElem?_eq_some_iff.1 hj).1; simpa using this
   rw [show ((⟨b,off,none⟩:Addr).add j) = ⟨b,off + j,none⟩ from Go.WideShapes.add_plain _ _ _,hc j hjm]
   simpa [hjm] using hj) (fun u hu => by obtain ⟨j,_,rfl⟩:=List.mem_map.1 hu; rfl) (by unfold maxLen; omega) (by omega) hB
  exact ⟨v',w',hr,by unfold TxR; rw [hcat]; exact ho,hg,hloc⟩
theorem penC_cat (n:Nat) (A A':Nat→Int) (D D':Nat→ByteArray) (m:Nat):(List.range ((n + m) * 2)).map (penC (catI n A A') (catT n D D')) = (List.range (n * 2)).map (penC A D) ++ (List.range (m * 2)).map (penC A' D'):=by
 rw [Nat.add_mul,List.range_add,List.map_append,List.map_map]
 congr 1
 ·exact List.map_congr_left (fun j hj => by
   have:=List.mem_range.1 hj
   unfold penC catI catT
   rw [if_pos (show j / 2 < n by omega),if_pos (show j / 2 < n by omega)])
 ·exact List.map_congr_left (fun j _ => by
   show penC _ _ (n * 2 + j) = _
   unfold penC catI catT
   rw [if_neg (show ¬ (n * 2 + j) / 2 < n by omega),if_neg (show ¬ (n * 2 + j) / 2 < n by omega),show (n * 2 + j) / 2 - n = j / 2 from by omega,show (n * 2 + j) % 2 = j % 2 from by omega])
set_option maxRecDepth 100000 in
theorem appPn (w:World) (B:Nat) (v:Value) (n:Nat) (A:Nat→Int) (D:Nat→ByteArray) (a:Option Addr) (m c:Nat) (A':Nat→Int) (D':Nat→ByteArray) (ty:TypeId) (hB:B≤w.heap.size) (hn:n + m≤1048576) (h:PnR w B v n A D) (hs:Pens w a m A' D') (ha:a = none→c = 0) :
  ∃ v' w',(Builtin.append_ #[23,23] ty #[v,.slice a m c]).run Tryz.prog w = .ok v' w'∧PnR w' B v' (n + m) (catI n A A') (catT n D D')∧w.grownBy w' v.ownBlock∧(v'.ownBlock = v.ownBlock∨v'.ownBlock = some w.heap.size):=by
 obtain ⟨i,hi,hz,hsz,hby⟩:=info_parts Tryz.infoPen
 by_cases h0:m = 0
 ·subst h0
  have hcong:PnR w B v (n + 0) (catI n A A') (catT n D D'):=by
   unfold PnR
   rw [penC_cat]
   simpa [PnR] using h
  cases a with
  | none =>
   obtain rfl:=ha rfl
   exact ⟨v,w,run_append_owned_none w B 23 ty 60 i 2 Tryz.underlying23 hi v n _ h,hcong,⟨rfl,rfl,rfl,Nat.le_refl _,fun _ _ _ => rfl⟩,.inl rfl⟩
  | some ad =>
   obtain ⟨v',w',hr,ho,hg,_,hloc⟩:=run_append_own_at (P:=Tryz.prog) w B 23 ty 60 i _ 2 24 Tryz.underlying23 hi hz hsz hby rfl (by decide) v n _ h ad 0 c [] rfl (fun j u hj => by simp at hj) (fun u hu => by simp at hu) (by unfold maxLen; omega) (by omega) hB
   exact ⟨v',w',hr,by unfold PnR; rw [penC_cat]; simpa using ho,hg,hloc⟩
 ·obtain ⟨b,off,rfl,hc⟩:=hs.opened (by omega)
  obtain ⟨v',w',hr,ho,hg,_,hloc⟩:=run_append_own_at (P:=Tryz.prog) w B 23 ty 60 i _ 2 24 Tryz.underlying23 hi hz hsz hby rfl (by decide) v n _ h ⟨b,off,none⟩ m c ((List.range (m * 2)).map (penC A' D')) (by simp) (fun j u hj => by
   have hjm:j < m * 2:=by have:=(List.getElem?_eq_some_iff.1 hj).1; simpa using this
   have hu:u = penC A' D' j:=by simpa [hjm] using hj.symm
   rw [show ((⟨b,off,none⟩:Addr).add j) = ⟨b,off + j,none⟩ from Go.WideShapes.add_plain _ _ _,hu]
   obtain ⟨h1,h2⟩:=hc (j / 2) (by omega)
   rcases (show j % 2 = 0∨j % 2 = 1 by omega) with e | e
   ·rw [show off + j = off + j / 2 * 2 from by omega,h1]; unfold penC; rw [if_pos e]
   ·rw [show off + j = off + j / 2 * 2 + 1 from by omega,h2]; unfold penC; rw [if_neg (by omega)]) (fun u hu => by
   obtain ⟨j,_,rfl⟩:=List.mem_map.1 hu
   unfold penC
   split <;> rfl) (by unfold maxLen; omega) (by omega) hB
  exact ⟨v',w',hr,by unfold PnR; rw [penC_cat]; exact ho,hg,hloc⟩
theorem TxR.congr {w:World} {B:Nat} {v:Value} {n:Nat} {f f':Nat→ByteArray} (h:TxR w B v n f) (e:∀ i,i < n→f i = f' i):TxR w B v n f':=by
 unfold TxR at *
 rwa [List.map_congr_left (fun i hi => by rw [← e i (List.mem_range.1 hi)])]
theorem PnR.congr {w:World} {B:Nat} {v:Value} {n:Nat} {A A':Nat→Int} {D D':Nat→ByteArray} (h:PnR w B v n A D) (e:∀ i,i < n→A i = A' i∧D i = D' i):PnR w B v n A' D':=by
 unfold PnR at *
 rwa [List.map_congr_left (fun i hi => by
  unfold penC
  obtain ⟨h1,h2⟩:=e (i / 2) (by have:=List.mem_range.1 hi; omega)
  rw [← h1,← h2])]
set_option maxRecDepth 100000 in
theorem copiedBlocks_any (a:Option Addr) (n c:Nat) (f:Nat→ByteArray) (hn:n≤1048576) (ha:a = none→c = 0) (w:World) (h:Strs w a n f) :
  Calls Tryz.prog 46 #[.slice a n c] w fun e w' => (∃ v,e = .returned v∧TxR w' w.heap.size v n f)∧Below w.heap.size w w':=by
 obtain ⟨v',w',hr,ho,hg,-⟩:=appTx w w.heap.size (.slice none 0 0) 0 f a n c f 22 (Nat.le_refl _) (by omega) (TxR.nil _ _ _) h ha
 have HT:Hid (TxR w' w.heap.size v' n f):=by
  rw [Nat.zero_add] at ho
  exact ho.congr (fun i hi => by unfold catT; rw [if_neg (by omega),Nat.sub_zero])
 have HB:Hid (Below w.heap.size w w'):=grown_belowD hg
 have HR:Hid _:=hr
 clear ho hg h ha hr
 go_enter Tryz.func46,Tryz.ntmps46
 go_wp2_with (at_builtin; refine Lib.wpList_append_run _ rfl (.const (.slice none 0 0)) (.tmp 3) _ _ rfl _ _ rfl rfl _ _ HR.out ?_)
 go_ret
 exact ⟨⟨v',rfl,HT.out⟩,HB.out⟩
def newD (n:Nat):Dk:=⟨n,fun _ => ⟨#[]⟩,0,fun _ => 0,fun _ => ⟨#[]⟩,0,fun _ => ⟨#[]⟩⟩
def RetD (B:Nat) (w':World) (e:Ending) (d:Dk) (code:Int):Prop:=∃ (a0 a1 a2:Option Addr) (c0 c1 c2 g0 g1 g2:Nat),e = .returned (.tuple #[.agg #[.slice a0 d.nb c0,.slice a1 d.nc c1,.slice a2 d.ns c2],.int .i64 code])∧RowD w' d a0 a1 a2 g0 g1 g2∧(0 < d.nb→B≤g0)∧(0 < d.nc→B≤g1)∧(0 < d.ns→B≤g2)
theorem RowD.empty (w:World) (a0 a1 a2:Option Addr):RowD w (newD 0) a0 a1 a2 0 0 0:=⟨RowS.nil _ _ _ _,RowP.nil _ _ _ _ _,RowS.nil _ _ _ _,fun h => absurd h (by decide),fun h => absurd h (by decide),fun h => absurd h (by decide)⟩
theorem RowD.newD {w:World} {g n m:Nat} {t:TypeId} {F:Nat→Value} (h:w.rowIs g t m F) (hn:n≤m) (e:∀ i,i < n→F i = .string ⟨#[]⟩) (a1 a2:Option Addr):RowD w (newD n) (some ⟨g,0,none⟩) a1 a2 g 0 0:=⟨RowS.ofRow h hn e,RowP.nil _ _ _ _ _,RowS.nil _ _ _ _,fun _ h => absurd h (Nat.lt_irrefl 0),fun _ h => absurd h (Nat.lt_irrefl 0),fun h => absurd h (Nat.lt_irrefl 0)⟩
set_option maxRecDepth 100000 in
set_option maxHeartbeats 1000000 in
theorem implNew_any (x:Int) (d:Dk) (code:Int) (h:(1≤x∧x≤64∧d = newD x.toNat∧code = 0)∨(¬ (1≤x∧x≤64)∧d = newD 0∧code = 4)) (w:World) :
  Calls Tryz.prog 23 #[.int .i64 x] w fun e w' => RetD w.heap.size w' e d code∧Below w.heap.size w w':=by
 rcases h with ⟨x0,x1,rfl,rfl⟩ | ⟨hx,rfl,rfl⟩
 ·obtain ⟨n,rfl⟩:=Int.eq_ofNat_of_zero_le (a:=x) (by omega)
  rw [Int.toNat_natCast]
  have y0:¬ (n:Int) < 1:=by omega
  have y1:¬ (64:Int) < (n:Int):=by omega
  have hmk:=mkStrsD n (by omega)
  clear x0 x1
  go_enter Tryz.func23,Tryz.ntmps23
  go_wp2
  have RR:(((w.alloc (.cells #[.slice (some ⟨w.heap.size + 1,0,none⟩) n n,.slice none 0 0,.slice none 0 0] 25)).alloc (.cells (madeCells #[.string ⟨#[]⟩] n) 9))).rowIs (w.heap.size + 1) 9 n (fun _ => .string ⟨#[]⟩):=by
   have:=World.rowIs_made (w.alloc (.cells #[.slice (some ⟨w.heap.size + 1,0,none⟩) n n,.slice none 0 0,.slice none 0 0] 25)) (.string ⟨#[]⟩) n 9
   simpa using this
  exact ret_cell2 (b:=w.heap.size) (v:=.agg #[.slice (some ⟨w.heap.size + 1,0,none⟩) n n,.slice none 0 0,.slice none 0 0]) Tryz.results23 rfl rfl (by go_simp) ⟨⟨_,_,_,_,_,_,_,_,_,rfl,RowD.newD RR (Nat.le_refl _) (fun _ _ => rfl) none none,fun _ => by omega,fun h => absurd h (Nat.lt_irrefl 0),fun h => absurd h (Nat.lt_irrefl 0)⟩,((Below.refl w.heap.size w).alloc (Nat.le_refl _) _).alloc (by simp) _⟩
 ·by_cases y0:x < 1
  ·go_enter Tryz.func23,Tryz.ntmps23
   go_wp2
   exact ret_cell2 (b:=w.heap.size) (v:=.agg #[.slice none 0 0,.slice none 0 0,.slice none 0 0]) Tryz.results23 rfl rfl (by go_simp) ⟨⟨_,_,_,_,_,_,_,_,_,rfl,RowD.empty _ none none none,fun h => absurd h (Nat.lt_irrefl 0),fun h => absurd h (Nat.lt_irrefl 0),fun h => absurd h (Nat.lt_irrefl 0)⟩,(Below.refl w.heap.size w).alloc (Nat.le_refl _) _⟩
  ·have y1:(64:Int) < x:=by omega
   clear hx
   go_enter Tryz.func23,Tryz.ntmps23
   go_wp2
   exact ret_cell2 (b:=w.heap.size) (v:=.agg #[.slice none 0 0,.slice none 0 0,.slice none 0 0]) Tryz.results23 rfl rfl (by go_simp) ⟨⟨_,_,_,_,_,_,_,_,_,rfl,RowD.empty _ none none none,fun h => absurd h (Nat.lt_irrefl 0),fun h => absurd h (Nat.lt_irrefl 0),fun h => absurd h (Nat.lt_irrefl 0)⟩,(Below.refl w.heap.size w).alloc (Nat.le_refl _) _⟩
def SfAns (k s:ByteArray) (d:Dk) (code:Int):Prop:=(¬ (k.size≤65536∧s.size≤65536)∧code = 2)∨(k.size≤65536∧s.size≤65536∧(k.size≠32∨(k.size = 32∧¬ d.Ok))∧code = 1)∨(k.size = 32∧s.size≤65536∧d.Ok∧d.nb < 2∧code = 4)∨(k.size = 32∧s.size≤65536∧d.Ok∧2≤d.nb∧code = 0)
set_option maxRecDepth 100000 in
set_option maxHeartbeats 2000000 in
theorem slotsFault_any (k s:ByteArray) (d:Dk) (a0 a1 a2:Option Addr) (c0 c1 c2:Nat) (code:Int) (hr:SfAns k s d code) (hs:d.nb≤1048576∧d.nc≤1048576∧d.ns≤1048576) (p0 p1:Addr) (w:World) (h:DiskV w d a0 a1 a2) (hE0:ErrAt w 4 p0) (hE1:ErrAt w 5 p1) :
  Calls Tryz.prog 59 #[.string k,.string s,.agg #[.slice a0 d.nb c0,.slice a1 d.nc c1,.slice a2 d.ns c2]] w fun e w' => e = .returned (.int .i64 code)∧Below w.heap.size w w':=by
 have A0:Below w.heap.size w (w.alloc (.cells #[.slice a0 d.nb c0,.slice a1 d.nc c1,.slice a2 d.ns c2] 25)):=(Below.refl _ _).alloc (Nat.le_refl _) _
 have BX:Hid (Box3 (w.alloc (.cells #[.slice a0 d.nb c0,.slice a1 d.nc c1,.slice a2 d.ns c2] 25)) w.heap.size 25 (.slice a0 d.nb c0) (.slice a1 d.nc c1) (.slice a2 d.ns c2)):=Box3.made _ _ _ _ _
 have OK:Hid (Calls Tryz.prog 89 #[.agg #[.slice a0 d.nb c0,.slice a1 d.nc c1,.slice a2 d.ns c2]] (w.alloc (.cells #[.slice a0 d.nb c0,.slice a1 d.nc c1,.slice a2 d.ns c2] 25)) fun e w' => e = .returned (.bool d.ok)∧Below (w.alloc (.cells #[.slice a0 d.nb c0,.slice a1 d.nc c1,.slice a2 d.ns c2] 25)).heap.size (w.alloc (.cells #[.slice a0 d.nb c0,.slice a1 d.nc c1,.slice a2 d.ns c2] 25)) w'):=implOK_any d a0 a1 a2 c0 c1 c2 hs p0 p1 _ (h.below A0) (hE0.below A0) (hE1.below A0)
 have A1:Hid (Below w.heap.size w (w.alloc (.cells #[.slice a0 d.nb c0,.slice a1 d.nc c1,.slice a2 d.ns c2] 25))):=A0
 clear h hE0 hE1 hs A0
 rcases hr with ⟨h1,rfl⟩ | ⟨h1,h2,h3,rfl⟩ | ⟨h1,h2,h3,h4,rfl⟩ | ⟨h1,h2,h3,h4,rfl⟩
 ·by_cases hk:k.size≤65536
  ·have x1:¬ (65536:Int) < (k.size:Int):=by omega
   have x2:(65536:Int) < (s.size:Int):=by omega
   clear hk h1
   go_enter Tryz.func59,Tryz.ntmps59
   go_wp2
   go_ret
   exact ⟨rfl,A1.out⟩
  ·have x1:(65536:Int) < (k.size:Int):=by omega
   clear hk h1
   go_enter Tryz.func59,Tryz.ntmps59
   go_wp2
   go_ret
   exact ⟨rfl,A1.out⟩
 ·have x1:¬ (65536:Int) < (k.size:Int):=by omega
  have x2:¬ (65536:Int) < (s.size:Int):=by omega
  rcases h3 with h3 | ⟨h3,h4⟩
  ·have x3:((k.size:Int) != 32) = true:=by rw [bne_iff_ne]; omega
   clear h1 h2 h3
   go_enter Tryz.func59,Tryz.ntmps59
   go_wp2
   go_ret
   exact ⟨rfl,A1.out⟩
  ·have x3:((k.size:Int) != 32) = false:=by rw [h3]; rfl
   rw [Dk.ok_false h4] at OK
   have t0:=BX.out.c0
   have t1:=BX.out.c1
   have t2:=BX.out.c2
   clear h1 h2 h3 h4
   go_enter Tryz.func59,Tryz.ntmps59
   go_wp2_with fail
   refine OK.out.mono ?_
   rintro e v1 ⟨rfl,hb⟩
   replace A1:Hid (Below w.heap.size w v1):=A1.out.trans (hb.mono A1.out.size)
   clear hb t0 t1 t2 OK BX
   go_wp2
   go_ret
   exact ⟨rfl,A1.out⟩
 all_goals
  have x1:¬ (65536:Int) < (k.size:Int):=by omega
  have x2:¬ (65536:Int) < (s.size:Int):=by omega
  have x3:((k.size:Int) != 32) = false:=by rw [h1]; rfl
  rw [Dk.ok_true h3] at OK
  have t0:=BX.out.c0
  have t1:=BX.out.c1
  have t2:=BX.out.c2
 ·have x4:(d.nb:Int) < 2:=by omega
  clear h1 h2 h3 h4
  go_enter Tryz.func59,Tryz.ntmps59
  go_wp2_with fail
  clear t0 t1 t2
  generalize (w.alloc (.cells #[.slice a0 d.nb c0,.slice a1 d.nc c1,.slice a2 d.ns c2] 25)) = v0 at *
  refine OK.out.mono ?_
  rintro e v1 ⟨rfl,hb⟩
  replace A1:Hid (Below w.heap.size w v1):=A1.out.trans (hb.mono A1.out.size)
  have t0:=(BX.out.below hb).c0
  clear hb OK BX
  go_wp2
  go_ret
  exact ⟨rfl,A1.out⟩
 ·have x4:¬ (d.nb:Int) < 2:=by omega
  clear h1 h2 h3 h4
  go_enter Tryz.func59,Tryz.ntmps59
  go_wp2_with fail
  clear t0 t1 t2
  generalize (w.alloc (.cells #[.slice a0 d.nb c0,.slice a1 d.nc c1,.slice a2 d.ns c2] 25)) = v0 at *
  refine OK.out.mono ?_
  rintro e v1 ⟨rfl,hb⟩
  replace A1:Hid (Below w.heap.size w v1):=A1.out.trans (hb.mono A1.out.size)
  have t0:=(BX.out.below hb).c0
  clear hb OK BX
  go_wp2
  go_ret
  exact ⟨rfl,A1.out⟩
end Go.Proofs.YtcpjeopnhgoonaaGreatDoor
