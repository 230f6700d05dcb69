/-
  Texts of the proof, joined.
-/
import Derived.Test.YtcpjeopnhgoonaaGreatDoorF33
namespace Go.Proofs.YtcpjeopnhgoonaaGreatDoor
open Go.ChangeShapes Go.WideShapes Go.ChangeAt Go.RowKit
set_option linter.unusedVariables false
structure Only2 (q b:Nat) (w w':World):Prop where
 os:w'.os = w.os
 tape:w'.tape = w.tape
 output:w'.output = w.output
 size:w.heap.size≤w'.heap.size
 block:∀ k,k < w.heap.size→k≠q→k≠b→w'.heap[k]? = w.heap[k]?
theorem Only2.refl (q b:Nat) (w:World):Only2 q b w w:=⟨rfl,rfl,rfl,Nat.le_refl _,fun _ _ _ _ => rfl⟩
theorem Only2.left {q b:Nat} {w w' w'':World} (h:Only2 q b w w') (ho:OnlyB q w' w''):Only2 q b w w'' :=
 ⟨ho.os.trans h.os,ho.tape.trans h.tape,ho.output.trans h.output,Nat.le_trans h.size ho.size,fun k hk h1 h2 => (ho.block k (Nat.lt_of_lt_of_le hk h.size) h1).trans (h.block k hk h1 h2)⟩
theorem Only2.right {q b:Nat} {w w' w'':World} (h:Only2 q b w w') (ho:OnlyB b w' w''):Only2 q b w w'' :=
 ⟨ho.os.trans h.os,ho.tape.trans h.tape,ho.output.trans h.output,Nat.le_trans h.size ho.size,fun k hk h1 h2 => (ho.block k (Nat.lt_of_lt_of_le hk h.size) h2).trans (h.block k hk h1 h2)⟩
theorem Only2.toBelow {q b B:Nat} {w w':World} (h:Only2 q b w w') (hq:B≤q) (hb:B≤b) (hw:B≤w.heap.size):Below B w w':=⟨h.os,h.tape,h.output,h.size,fun k hk => h.block k (by omega) (by omega) (by omega)⟩
theorem ownsRow_only2 {w w':World} {B q b:Nat} {e:TypeId} {size:Nat} {v:Value} {n:Nat} {xs:List Value} (h:w.ownsRow B e size v n xs) (ho:Only2 q b w w') (h1:v.ownBlock≠some q) (h2:v.ownBlock≠some b):w'.ownsRow B e size v n xs:=ownsRow_block h (fun g hg => ho.block g (h.lt g hg).2 (fun e => h1 (e ▸ hg)) (fun e => h2 (e ▸ hg)))
set_option maxRecDepth 100000 in
set_option maxHeartbeats 1000000 in
theorem emptyCache_any (q b:Nat) (v0 v1 v2:Value) (M:Int→Option Value) (hqb:q≠b) (w:World) (hq:Box4 w q 57 v0 v1 v2 (.map (some b))) (hm:MapI w b M) :
  Calls Tryz.prog 110 #[.pointer (some ⟨q,0,none⟩)] w fun e w' => e = .returned (.tuple #[])∧Box4 w' q 57 v0 (.slice none 0 0) v2 (.map (some b))∧MapI w' b (fun _ => none)∧Only2 q b w w':=by
 have k1:=hq.c1
 have f1:=hq.fr 1
 have O1:OnlyB q w (w.setCell ⟨q,1,none⟩ (.slice none 0 0)):=(OnlyB.refl q w).setCell 1 _
 have Q1:=hq.set1 (.slice none 0 0)
 have k3:=Q1.c3
 obtain ⟨wz,hcl,hM,hO,hsz⟩:=MapI.cleared (P:=Tryz.prog) (w:=w.setCell ⟨q,1,none⟩ (.slice none 0 0)) (hm.onlyB O1 (Ne.symm hqb)) Tryz.underlying55 0
 have HM:Hid (MapI wz b (fun _ => none)):=hM
 have HQ:Hid (Box4 wz q 57 v0 (.slice none 0 0) v2 (.map (some b))):=Q1.onlyB hO hqb
 have HO:Hid (Only2 q b w wz):=((Only2.refl q b w).left O1).right hO
 clear hM hO hsz Q1 O1 hm hq
 go_enter Tryz.func110,Tryz.ntmps110
 go_wp2
 go_end0
 exact ⟨rfl,HQ.out,HM.out,HO.out⟩
structure Drv (w:World) (B q b:Nat) (d:Dk) (v0 v1 v2:Value):Prop where
 box:Box4 w q 57 v0 v1 v2 (.map (some b))
 t0:TxR w B v0 d.nb d.B
 t1:PnR w B v1 d.nc d.A d.D
 t2:TxR w B v2 d.ns d.S
 m:MapI w b (lastM d.A d.D d.nc)
 s0:v0.ownBlock≠some q∧v0.ownBlock≠some b
 s1:v1.ownBlock≠some q∧v1.ownBlock≠some b
 s2:v2.ownBlock≠some q∧v2.ownBlock≠some b
 qb:q≠b
 n01:∀ g,v0.ownBlock = some g→v1.ownBlock≠some g
 n02:∀ g,v0.ownBlock = some g→v2.ownBlock≠some g
 n12:∀ g,v1.ownBlock = some g→v2.ownBlock≠some g
 hq:B≤q
 hb:B≤b
theorem Drv.below {w w':World} {B q b:Nat} {d:Dk} {v0 v1 v2:Value} (h:Drv w B q b d v0 v1 v2) (hb:Below w.heap.size w w'):Drv w' B q b d v0 v1 v2 :=
 ⟨h.box.below hb,h.t0.below hb,h.t1.below hb,h.t2.below hb,h.m.below hb,h.s0,h.s1,h.s2,h.qb,h.n01,h.n02,h.n12,h.hq,h.hb⟩
theorem TxR.put {w:World} {B g n c:Nat} {f:Nat→ByteArray} (h:TxR w B (.slice (some ⟨g,0,none⟩) n c) n f) (x:Nat) (s:ByteArray):TxR (w.setCell ⟨g,x,none⟩ (.string s)) B (.slice (some ⟨g,0,none⟩) n c) n (fun i => if i = x then s else f i):=by
 have:=(World.ownsRow.stored h x (.string s)).1
 unfold TxR
 have e:(List.range n).map (fun i => Value.string (if i = x then s else f i)) = ((List.range n).map fun i => Value.string (f i)).set x (.string s):=by
  apply List.ext_getElem
  ·simp
  ·intro i h1 h2
   rw [List.getElem_set]
   simp only [List.getElem_map,List.getElem_range]
   by_cases e:x = i
   ·subst e; simp
   ·rw [if_neg e,if_neg (fun q => e q.symm)]
 rw [e]
 exact this
theorem TxR.pos {w:World} {B:Nat} {v:Value} {n:Nat} {f:Nat→ByteArray} (h:TxR w B v n f) (hn:0 < n):∃ g c,v = .slice (some ⟨g,0,none⟩) n c∧RowS w (some ⟨g,0,none⟩) g n f∧B≤g∧n≤c∧g < w.heap.size:=by
 obtain ⟨a,c,rfl,r,hB,-,hc⟩:=h.form
 have e:=r.a hn
 have hlt:=r.lt hn
 cases a with
 | none => cases e
 | some ad =>
  have e2:ad = ⟨ad.block,0,none⟩:=by
   have h1:ad = ⟨rowOf (.slice (some ad) n c),0,none⟩:=Option.some.inj e
   exact h1
  obtain ⟨g,rfl⟩:∃ g,ad = ⟨g,0,none⟩:=⟨_,e2⟩
  exact ⟨g,c,rfl,r,hB hn,hc,hlt⟩
def Dk.tampered (d:Dk) (x:Nat) (s:ByteArray):Dk:=⟨d.nb,fun i => if i = x then s else d.B i,d.nc,d.A,d.D,d.ns,d.S⟩
def NotD (C q b:Nat) (v0 v1 v2:Value):Prop:=C≠q∧C≠b∧v0.ownBlock≠some C∧v1.ownBlock≠some C∧v2.ownBlock≠some C
def KpD (q b:Nat) (v0 v1 v2 u0 u1 u2:Value) (w w':World):Prop:=∀ C,C < w.heap.size→NotD C q b v0 v1 v2→w'.heap[C]? = w.heap[C]?∧NotD C q b u0 u1 u2
theorem KpD.same {q b:Nat} {v0 v1 v2:Value} {w w':World} (h:Below w.heap.size w w'):KpD q b v0 v1 v2 v0 v1 v2 w w':=fun C hC hn => ⟨h.block C hC,hn⟩
theorem KpD.trans {q b:Nat} {v0 v1 v2 u0 u1 u2 t0 t1 t2:Value} {w w' w'':World} (h:KpD q b v0 v1 v2 u0 u1 u2 w w') (hs:w.heap.size≤w'.heap.size) (k:KpD q b u0 u1 u2 t0 t1 t2 w' w''):KpD q b v0 v1 v2 t0 t1 t2 w w'':=fun C hC hn => by
 obtain ⟨h1,h2⟩:=h C hC hn
 obtain ⟨h3,h4⟩:=k C (Nat.lt_of_lt_of_le hC hs) h2
 exact ⟨h3.trans h1,h4⟩
def Dk.rolled (d:Dk):Dk:=⟨d.ns,d.S,0,d.A,d.D,d.ns,d.S⟩
def Dk.written (d:Dk) (x:Int) (s:ByteArray):Dk:=⟨d.nb,d.B,d.nc + 1,catI d.nc d.A (fun _ => x),catT d.nc d.D (fun _ => s),d.ns,d.S⟩
theorem lastM_cat (n:Nat) (A:Nat→Int) (D:Nat→ByteArray) (A':Nat→Int) (D':Nat→ByteArray) (z:Int):∀ k,k≤n→lastM (catI n A A') (catT n D D') k z = lastM A D k z
 | 0,_ => rfl
 | k + 1,hk => by
  unfold lastM
  have e1:catI n A A' k = A k:=by unfold catI; rw [if_pos (by omega)]
  have e2:catT n D D' k = D k:=by unfold catT; rw [if_pos (by omega)]
  rw [e1,e2,lastM_cat n A D A' D' z k (by omega)]
theorem lastM_written (d:Dk) (x:Int) (s:ByteArray) (z:Int):(if z = x then some (Value.agg #[.int .i64 x,.string s]) else lastM d.A d.D d.nc z) = lastM (d.written x s).A (d.written x s).D (d.written x s).nc z:=by
 show _ = (if z = catI d.nc d.A (fun _ => x) d.nc then some (Value.agg #[.int .i64 (catI d.nc d.A (fun _ => x) d.nc),.string (catT d.nc d.D (fun _ => s) d.nc)]) else lastM (catI d.nc d.A (fun _ => x)) (catT d.nc d.D (fun _ => s)) d.nc z)
 rw [lastM_cat d.nc d.A d.D _ _ z d.nc (Nat.le_refl _)]
 have e1:catI d.nc d.A (fun _ => x) d.nc = x:=by unfold catI; rw [if_neg (by omega)]
 have e2:catT d.nc d.D (fun _ => s) d.nc = s:=by unfold catT; rw [if_neg (by omega)]
 rw [e1,e2]
set_option maxRecDepth 100000 in
set_option maxHeartbeats 4000000 in
theorem write_yesK (B q b:Nat) (d:Dk) (v0 v1 v2:Value) (x:Nat) (s:ByteArray) (hx:x < d.nb) (hs:s.size≤200) (hc:d.nc < 4096) (w:World) (hBw:B≤w.heap.size) (h:Drv w B q b d v0 v1 v2) :
  Calls Tryz.prog 72 #[.pointer (some ⟨q,0,none⟩),.int .i64 (x:Int),.string s] w fun e w' => e = .returned .nilIface∧(∃ v,Drv w' B q b (d.written x s) v0 v v2∧KpD q b v0 v1 v2 v0 v v2 w w')∧Below B w w':=by
 obtain ⟨a0,c0,rfl,-⟩:=h.t0.form
 obtain ⟨a1,c1,rfl,-⟩:=h.t1.form
 obtain ⟨a2,c2,rfl,-⟩:=h.t2.form
 have PF:Hid (∀ w:World,Calls Tryz.prog 109 #[.agg #[.slice a0 d.nb c0,.slice a1 d.nc c1,.slice a2 d.ns c2],.int .i64 (x:Int),.string s] w fun e w' => e = .returned .nilIface∧Below w.heap.size w w'):=fun w => placeFault_ok _ _ _ _ _ _ _ _ _ _ _ (by omega) (by omega) hs w
 have HD:Hid (Drv w B q b d (.slice a0 d.nb c0) (.slice a1 d.nc c1) (.slice a2 d.ns c2)):=h
 have k0:=h.box.c0
 have k1:=h.box.c1
 have k2:=h.box.c2
 clear h
 go_enter Tryz.func72,Tryz.ntmps72
 go_wp2_with fail
 refine (PF.out _).mono ?_
 rintro e w1 ⟨rfl,hb⟩
 have H1:Hid (Drv w1 B q b d (.slice a0 d.nb c0) (.slice a1 d.nc c1) (.slice a2 d.ns c2)):=HD.out.below hb
 have B1:Hid (Below w.heap.size w w1):=hb
 clear k0 k1 k2 hb HD PF
 have k1:=H1.out.box.c1
 have y0:¬ (4096:Int)≤(d.nc:Int):=by omega
 have hql:=H1.out.box.lt
 have hbl:=H1.out.m.lt
 have hzl:∀ g,(Value.slice a1 d.nc c1).ownBlock = some g→g < w1.heap.size:=fun g e => (World.ownsRow.lt H1.out.t1 g e).2
 have hb:Below w1.heap.size w1 (w1.alloc (.cells #[.int .i64 (x:Int),.string s] 60)):=(Below.refl _ _).alloc (Nat.le_refl _) _
 have H2:Hid (Drv (w1.alloc (.cells #[.int .i64 (x:Int),.string s] 60)) B q b d (.slice a0 d.nb c0) (.slice a1 d.nc c1) (.slice a2 d.ns c2)):=H1.out.below hb
 have P2:Hid ((w1.alloc (.cells #[.int .i64 (x:Int),.string s] 60)).cell? ⟨w1.heap.size,0,none⟩ = some (.int .i64 (x:Int))∧(w1.alloc (.cells #[.int .i64 (x:Int),.string s] 60)).cell? ⟨w1.heap.size,1,none⟩ = some (.string s)):=by
  constructor <;> simp
 have B2:Hid (Below w.heap.size w (w1.alloc (.cells #[.int .i64 (x:Int),.string s] 60))):=B1.out.trans (hb.mono B1.out.size)
 clear hb H1 B1
 go_wp2_with fail
 generalize (w1.alloc (.cells #[.int .i64 (x:Int),.string s] 60)) = u0 at *
 generalize w1.heap.size = z at *
 clear k1
 replace H2:Hid (Drv u0.drew B q b d (.slice a0 d.nb c0) (.slice a1 d.nc c1) (.slice a2 d.ns c2)):=H2.out.below (Below.refl _ _).drew
 replace P2:Hid (u0.drew.cell? ⟨z,0,none⟩ = some (.int .i64 (x:Int))∧u0.drew.cell? ⟨z,1,none⟩ = some (.string s)):=P2.out
 replace B2:Hid (Below w.heap.size w u0.drew):=B2.out.drew
 have H:u0.drew.cell? ⟨z,0,none⟩ = some (.int .i64 (x:Int))∧u0.drew.cell? ⟨z,1,none⟩ = some (.string s):=P2.out
 refine wp_region_noPanic ?_
 refine wp_region_held_drew (S:=fun w' => w'.cell? ⟨z,0,none⟩ = some (.int .i64 (x:Int))∧w'.cell? ⟨z,1,none⟩ = some (.string s)) (by kernel_rfl) H (fun _ => ?_)
 generalize u0.drew = u1 at *
 refine tkH (i:=0) (v:=.pointer (some ⟨q,0,none⟩)) rfl (by kernel_rfl) (by rfl) ?_ H ?_
 ·intro w' hSw; go_simp
 refine ch48 ?_
 refine tkH (i:=1) (v:=.pointer (some ⟨q,0,none⟩)) rfl (by kernel_rfl) (by rfl) ?_ H ?_
 ·intro w' hSw; go_simp
 refine ch48 ?_
 refine tkH (i:=2) (v:=.pointer (some ⟨q,0,none⟩)) rfl (by kernel_rfl) (by rfl) ?_ H ?_
 ·intro w' hSw; go_simp
 refine ch48 ?_
 refine tkH (i:=3) (v:=.pointer (some ⟨q,0,none⟩)) rfl (by kernel_rfl) (by rfl) ?_ H ?_
 ·intro w' hSw; go_simp
 refine ch48 ?_
 refine tkH (i:=4) (v:=.pointer (some ⟨q,1,none⟩)) rfl (by kernel_rfl) (by rfl) ?_ H ?_
 ·intro w' hSw; go_simp
 refine ch48 ?_
 refine tkH (i:=6) (v:=.agg #[.int .i64 (x:Int),.string s]) rfl (by kernel_rfl) (by rfl) ?_ H ?_
 ·intro w' hSw; have t0:=hSw.1; have t1:=hSw.2; clear hSw; go_simp
 refine ch48 ?_
 refine wpAnyH_ready (rs:=[5,7]) (by kernel_rfl) (by simp) ?_
 refine AllReadyH.cons rfl (fun KK hK => ?_) (AllReadyH.cons rfl (fun KK hK => ?_) AllReadyH.nil)
 ·skip
  have k1:=H2.out.box.c1
  go_simp
  refine hK.out _ _ H (fun _ => ?_)
  clear hK KK k1
  refine ch48 ?_
  refine wpAnyH_ready (rs:=[7]) (by kernel_rfl) (by simp) ?_
  refine AllReadyH.cons rfl (fun KK hK => ?_) AllReadyH.nil
  have hb:Below u1.heap.size u1 (u1.alloc (.cells #[.int .i64 (x:Int),.string s] 60)):=(Below.refl _ _).alloc (Nat.le_refl _) _
  have PS:Hid (Pens (u1.alloc (.cells #[.int .i64 (x:Int),.string s] 60)) (some ⟨u1.heap.size,0,none⟩) 1 (fun _ => (x:Int)) (fun _ => s)):=fun i hi => ⟨u1.heap.size,0,rfl,by (obtain rfl:i = 0:=by omega); simp,by (obtain rfl:i = 0:=by omega); simp⟩
  have hul:z < u1.heap.size:=strBlock H.1
  go_simp
  replace H2:Hid (Drv (u1.alloc (.cells #[.int .i64 (x:Int),.string s] 60)) B q b d (.slice a0 d.nb c0) (.slice a1 d.nc c1) (.slice a2 d.ns c2)):=H2.out.below hb
  replace B2:Hid (Below w.heap.size w (u1.alloc (.cells #[.int .i64 (x:Int),.string s] 60))):=B2.out.trans (hb.mono B2.out.size)
  replace H:(u1.alloc (.cells #[.int .i64 (x:Int),.string s] 60)).cell? ⟨z,0,none⟩ = some (.int .i64 (x:Int))∧(u1.alloc (.cells #[.int .i64 (x:Int),.string s] 60)).cell? ⟨z,1,none⟩ = some (.string s):=⟨(hb.cell (strBlock H.1)).trans H.1,(hb.cell (strBlock H.2)).trans H.2⟩
  refine hK.out _ _ H (fun _ => ?_)
  clear hK KK hb
  have hz1:u1.heap.size≤(u1.alloc (.cells #[.int .i64 (x:Int),.string s] 60)).heap.size:=by simp
  generalize (u1.alloc (.cells #[.int .i64 (x:Int),.string s] 60)) = u2 at *
  generalize u1.heap.size = y1 at *
  refine ch48 ?_
  obtain ⟨v',wz,hr,ho,hg,hloc⟩:=appPn u2 B (.slice a1 d.nc c1) d.nc d.A d.D (some ⟨y1,0,none⟩) 1 1 (fun _ => (x:Int)) (fun _ => s) 23 (Nat.le_trans hBw B2.out.size) (by omega) H2.out.t1 PS.out (fun e => by cases e)
  refine wpAnyH_ready (rs:=[8]) (by kernel_rfl) (by simp) ?_
  refine AllReadyH.cons rfl (fun KK hK => ?_) AllReadyH.nil
  rw [if_pos (by rfl)]
  refine Lib.wp_append_run _ (.tmp 35) (.tmp 37) 23 23 rfl (.slice a1 d.nc c1) (.slice (some ⟨y1,0,none⟩) 1 1) rfl rfl v' wz hr ?_
  have D2:=H2.out
  have hql2:=D2.box.lt
  have hbl2:=D2.m.lt
  have blk:∀ g,g < u2.heap.size→(Value.slice a1 d.nc c1).ownBlock≠some g→wz.heap[g]? = u2.heap[g]?:=fun g hg' hne => hg.block g hg' (fun e => hne e.symm)
  have hv':∀ g,v'.ownBlock = some g→(Value.slice a1 d.nc c1).ownBlock = some g∨g = u2.heap.size:=fun g e => hloc.elim (fun q => .inl (q.symm.trans e)) (fun q => .inr (Option.some.inj (e.symm.trans q)))
  have X3:Box4 wz q 57 (.slice a0 d.nb c0) (.slice a1 d.nc c1) (.slice a2 d.ns c2) (.map (some b)):=D2.box.ofBlock (blk q hql2 D2.s1.1)
  have M3:MapI wz b (lastM d.A d.D d.nc):=D2.m.ofBlock (blk b hbl2 D2.s1.2)
  have T3:TxR wz B (.slice a0 d.nb c0) d.nb d.B:=ownsRow_block D2.t0 (fun g hg' => blk g (World.ownsRow.lt D2.t0 g hg').2 (D2.n01 g hg'))
  have U3:TxR wz B (.slice a2 d.ns c2) d.ns d.S:=ownsRow_block D2.t2 (fun g hg' => blk g (World.ownsRow.lt D2.t2 g hg').2 (fun e => D2.n12 g e hg'))
  have hzb:(Value.slice a1 d.nc c1).ownBlock≠some z:=fun e => Nat.lt_irrefl _ (hzl z e)
  have B3:Below B w wz:=(B2.out.mono hBw).trans ⟨hg.os,hg.tape,hg.output,hg.size,fun k hk => blk k (by have:=Nat.le_trans hBw B2.out.size; omega) (fun e => by have:=(World.ownsRow.lt D2.t1 k e).1; omega)⟩
  replace H:wz.cell? ⟨z,0,none⟩ = some (.int .i64 (x:Int))∧wz.cell? ⟨z,1,none⟩ = some (.string s):=⟨(cellOf (blk z (strBlock H.1) hzb)).trans H.1,(cellOf (blk z (strBlock H.1) hzb)).trans H.2⟩
  refine hK.out _ _ H (fun _ => ?_)
  clear hK KK
  refine ch48 ?_
  refine tkH (i:=9) (v:=.pointer (some ⟨q,0,none⟩)) rfl (by kernel_rfl) (by rfl) ?_ H ?_
  ·intro w' hSw; go_simp
  refine ch48 ?_
  refine tkH (i:=10) (v:=.pointer (some ⟨q,0,none⟩)) rfl (by kernel_rfl) (by rfl) ?_ H ?_
  ·intro w' hSw; go_simp
  refine ch48 ?_
  refine tkH (i:=11) (v:=.pointer (some ⟨q,1,none⟩)) rfl (by kernel_rfl) (by rfl) ?_ H ?_
  ·intro w' hSw; go_simp
  refine ch48 ?_
  refine wpAnyH_ready (rs:=[12]) (by kernel_rfl) (by simp) ?_
  refine AllReadyH.cons rfl (fun KK hK => ?_) AllReadyH.nil
  obtain ⟨a3,c3,rfl,-⟩:=ho.form
  have kq:=X3.c1
  have fq:=X3.fr 1
  have O4:OnlyB q wz (wz.setCell ⟨q,1,none⟩ (.slice a3 (d.nc + 1) c3)):=(OnlyB.refl q wz).setCell 1 _
  have nq:(Value.slice a3 (d.nc + 1) c3).ownBlock≠some q:=fun e => (hv' q e).elim D2.s1.1 (by omega)
  have nb':(Value.slice a3 (d.nc + 1) c3).ownBlock≠some b:=fun e => (hv' b e).elim D2.s1.2 (by omega)
  have X4:=X3.set1 (.slice a3 (d.nc + 1) c3)
  have T4:=T3.onlyB O4 D2.s0.1
  have P4:=ho.onlyB O4 nq
  have U4:=U3.onlyB O4 D2.s2.1
  have M4:=M3.onlyB O4 (Ne.symm D2.qb)
  have n01:∀ g,(Value.slice a0 d.nb c0).ownBlock = some g→(Value.slice a3 (d.nc + 1) c3).ownBlock≠some g:=fun g e1 e2 => (hv' g e2).elim (D2.n01 g e1) (fun e => by have:=(World.ownsRow.lt D2.t0 g e1).2; omega)
  have n12:∀ g,(Value.slice a3 (d.nc + 1) c3).ownBlock = some g→(Value.slice a2 d.ns c2).ownBlock≠some g:=fun g e2 e1 => (hv' g e2).elim (fun e => D2.n12 g e e1) (fun e => by have:=(World.ownsRow.lt D2.t2 g e1).2; omega)
  have E4:Hid (Below B w (wz.setCell ⟨q,1,none⟩ (.slice a3 (d.nc + 1) c3))∧PnR (wz.setCell ⟨q,1,none⟩ (.slice a3 (d.nc + 1) c3)) B (.slice a3 (d.nc + 1) c3) (d.nc + 1) (catI d.nc d.A (fun _ => (x:Int))) (catT d.nc d.D (fun _ => s))∧TxR (wz.setCell ⟨q,1,none⟩ (.slice a3 (d.nc + 1) c3)) B (.slice a0 d.nb c0) d.nb d.B∧TxR (wz.setCell ⟨q,1,none⟩ (.slice a3 (d.nc + 1) c3)) B (.slice a2 d.ns c2) d.ns d.S):=⟨B3.trans (O4.toBelow D2.hq (by have:=B3.size; omega)),P4,T4,U4⟩
  have N4:Hid (((Value.slice a0 d.nb c0).ownBlock≠some b∧(Value.slice a3 (d.nc + 1) c3).ownBlock≠some b∧(Value.slice a2 d.ns c2).ownBlock≠some b)∧q≠b∧B≤b):=⟨⟨D2.s0.2,nb',D2.s2.2⟩,D2.qb,D2.hb⟩
  have KX:Hid (∀ C,C < w.heap.size→NotD C q b (.slice a0 d.nb c0) (.slice a1 d.nc c1) (.slice a2 d.ns c2)→(wz.setCell ⟨q,1,none⟩ (.slice a3 (d.nc + 1) c3)).heap[C]? = w.heap[C]?∧C < (wz.setCell ⟨q,1,none⟩ (.slice a3 (d.nc + 1) c3)).heap.size∧(Value.slice a3 (d.nc + 1) c3).ownBlock≠some C):=fun C hC hN => by
   have l1:=Nat.lt_of_lt_of_le hC B2.out.size
   have l2:=Nat.lt_of_lt_of_le l1 hg.size
   exact ⟨(O4.block C l2 hN.1).trans ((blk C l1 hN.2.2.2.1).trans (B2.out.block C hC)),Nat.lt_of_lt_of_le l2 O4.size,fun e => (hv' C e).elim hN.2.2.2.1 (by omega)⟩
  have hzq:q≠z:=by omega
  replace H:(wz.setCell ⟨q,1,none⟩ (.slice a3 (d.nc + 1) c3)).cell? ⟨z,0,none⟩ = some (.int .i64 (x:Int))∧(wz.setCell ⟨q,1,none⟩ (.slice a3 (d.nc + 1) c3)).cell? ⟨z,1,none⟩ = some (.string s):=⟨(World.cell?_setCell_far wz ⟨q,1,none⟩ _ _ hzq).trans H.1,(World.cell?_setCell_far wz ⟨q,1,none⟩ _ _ hzq).trans H.2⟩
  clear O4 X3 M3 T3 U3 P4 T4 U4 ho hg hloc hv' blk B3 hzb
  go_simp
  refine hK.out _ _ H (fun _ => ?_)
  clear hK KK kq fq
  generalize (wz.setCell ⟨q,1,none⟩ (.slice a3 (d.nc + 1) c3)) = u4 at *
  refine wpAnyH_done (by kernel_rfl) ?_ _
  refine NoPanic.normal ?_
  obtain ⟨h0,h1⟩:=H
  obtain ⟨wy,hmu,hM,hO,hsz⟩:=MapI.put (P:=Tryz.prog) (w:=u4.drew) (M4.below (Below.refl _ _).drew) Tryz.underlying55 Tryz.underlying3 (x:Int) (.agg #[.int .i64 (x:Int),.string s])
  have e3:=X4.c3
  have bd:Below u4.heap.size u4 u4.drew:=(Below.refl _ _).drew
  have HF:Hid (Drv wy B q b (d.written x s) (.slice a0 d.nb c0) (.slice a3 (d.nc + 1) c3) (.slice a2 d.ns c2)):=⟨(X4.below bd).onlyB hO N4.out.2.1,(E4.out.2.2.1.below bd).onlyB hO N4.out.1.1,(E4.out.2.1.below bd).onlyB hO N4.out.1.2.1,(E4.out.2.2.2.below bd).onlyB hO N4.out.1.2.2,hM.congr (fun y => lastM_written d x s y),⟨D2.s0.1,N4.out.1.1⟩,⟨nq,N4.out.1.2.1⟩,⟨D2.s2.1,N4.out.1.2.2⟩,D2.qb,n01,D2.n02,n12,D2.hq,D2.hb⟩
  have HB:Hid (Below B w wy):=E4.out.1.trans ((bd.mono (Nat.le_trans hBw E4.out.1.size)).trans (hO.toBelow D2.hb (by have:=E4.out.1.size; have:=bd.size; omega)))
  have KF:Hid (KpD q b (.slice a0 d.nb c0) (.slice a1 d.nc c1) (.slice a2 d.ns c2) (.slice a0 d.nb c0) (.slice a3 (d.nc + 1) c3) (.slice a2 d.ns c2) w wy):=fun C hC hN => by
   obtain ⟨z1,z2,z3⟩:=KX.out C hC hN
   exact ⟨(hO.block C (Nat.lt_of_lt_of_le z2 bd.size) hN.2.1).trans ((bd.block C z2).trans z1),hN.1,hN.2.1,hN.2.2.1,z3,hN.2.2.2.2⟩
  clear KX hM hO hsz bd n01 n12 nq nb' E4 N4 D2 H2 B2 PS P2 X4 M4 hr
  go_wp2_with fail
  go_region
  clear hmu e3 h0 h1
  go_wp2
  go_ret
  exact ⟨rfl,⟨_,HF.out,KF.out⟩,HB.out⟩
 ·skip
  have hb:Below u1.heap.size u1 (u1.alloc (.cells #[.int .i64 (x:Int),.string s] 60)):=(Below.refl _ _).alloc (Nat.le_refl _) _
  have PS:Hid (Pens (u1.alloc (.cells #[.int .i64 (x:Int),.string s] 60)) (some ⟨u1.heap.size,0,none⟩) 1 (fun _ => (x:Int)) (fun _ => s)):=fun i hi => ⟨u1.heap.size,0,rfl,by (obtain rfl:i = 0:=by omega); simp,by (obtain rfl:i = 0:=by omega); simp⟩
  have hul:z < u1.heap.size:=strBlock H.1
  go_simp
  replace H2:Hid (Drv (u1.alloc (.cells #[.int .i64 (x:Int),.string s] 60)) B q b d (.slice a0 d.nb c0) (.slice a1 d.nc c1) (.slice a2 d.ns c2)):=H2.out.below hb
  replace B2:Hid (Below w.heap.size w (u1.alloc (.cells #[.int .i64 (x:Int),.string s] 60))):=B2.out.trans (hb.mono B2.out.size)
  replace H:(u1.alloc (.cells #[.int .i64 (x:Int),.string s] 60)).cell? ⟨z,0,none⟩ = some (.int .i64 (x:Int))∧(u1.alloc (.cells #[.int .i64 (x:Int),.string s] 60)).cell? ⟨z,1,none⟩ = some (.string s):=⟨(hb.cell (strBlock H.1)).trans H.1,(hb.cell (strBlock H.2)).trans H.2⟩
  refine hK.out _ _ H (fun _ => ?_)
  clear hK KK hb
  have hz1:u1.heap.size≤(u1.alloc (.cells #[.int .i64 (x:Int),.string s] 60)).heap.size:=by simp
  generalize (u1.alloc (.cells #[.int .i64 (x:Int),.string s] 60)) = u2 at *
  generalize u1.heap.size = y1 at *
  refine ch48 ?_
  refine wpAnyH_ready (rs:=[5]) (by kernel_rfl) (by simp) ?_
  refine AllReadyH.cons rfl (fun KK hK => ?_) AllReadyH.nil
  have k1:=H2.out.box.c1
  go_simp
  refine hK.out _ _ H (fun _ => ?_)
  clear hK KK k1
  refine ch48 ?_
  obtain ⟨v',wz,hr,ho,hg,hloc⟩:=appPn u2 B (.slice a1 d.nc c1) d.nc d.A d.D (some ⟨y1,0,none⟩) 1 1 (fun _ => (x:Int)) (fun _ => s) 23 (Nat.le_trans hBw B2.out.size) (by omega) H2.out.t1 PS.out (fun e => by cases e)
  refine wpAnyH_ready (rs:=[8]) (by kernel_rfl) (by simp) ?_
  refine AllReadyH.cons rfl (fun KK hK => ?_) AllReadyH.nil
  rw [if_pos (by rfl)]
  refine Lib.wp_append_run _ (.tmp 35) (.tmp 37) 23 23 rfl (.slice a1 d.nc c1) (.slice (some ⟨y1,0,none⟩) 1 1) rfl rfl v' wz hr ?_
  have D2:=H2.out
  have hql2:=D2.box.lt
  have hbl2:=D2.m.lt
  have blk:∀ g,g < u2.heap.size→(Value.slice a1 d.nc c1).ownBlock≠some g→wz.heap[g]? = u2.heap[g]?:=fun g hg' hne => hg.block g hg' (fun e => hne e.symm)
  have hv':∀ g,v'.ownBlock = some g→(Value.slice a1 d.nc c1).ownBlock = some g∨g = u2.heap.size:=fun g e => hloc.elim (fun q => .inl (q.symm.trans e)) (fun q => .inr (Option.some.inj (e.symm.trans q)))
  have X3:Box4 wz q 57 (.slice a0 d.nb c0) (.slice a1 d.nc c1) (.slice a2 d.ns c2) (.map (some b)):=D2.box.ofBlock (blk q hql2 D2.s1.1)
  have M3:MapI wz b (lastM d.A d.D d.nc):=D2.m.ofBlock (blk b hbl2 D2.s1.2)
  have T3:TxR wz B (.slice a0 d.nb c0) d.nb d.B:=ownsRow_block D2.t0 (fun g hg' => blk g (World.ownsRow.lt D2.t0 g hg').2 (D2.n01 g hg'))
  have U3:TxR wz B (.slice a2 d.ns c2) d.ns d.S:=ownsRow_block D2.t2 (fun g hg' => blk g (World.ownsRow.lt D2.t2 g hg').2 (fun e => D2.n12 g e hg'))
  have hzb:(Value.slice a1 d.nc c1).ownBlock≠some z:=fun e => Nat.lt_irrefl _ (hzl z e)
  have B3:Below B w wz:=(B2.out.mono hBw).trans ⟨hg.os,hg.tape,hg.output,hg.size,fun k hk => blk k (by have:=Nat.le_trans hBw B2.out.size; omega) (fun e => by have:=(World.ownsRow.lt D2.t1 k e).1; omega)⟩
  replace H:wz.cell? ⟨z,0,none⟩ = some (.int .i64 (x:Int))∧wz.cell? ⟨z,1,none⟩ = some (.string s):=⟨(cellOf (blk z (strBlock H.1) hzb)).trans H.1,(cellOf (blk z (strBlock H.1) hzb)).trans H.2⟩
  refine hK.out _ _ H (fun _ => ?_)
  clear hK KK
  refine ch48 ?_
  refine tkH (i:=9) (v:=.pointer (some ⟨q,0,none⟩)) rfl (by kernel_rfl) (by rfl) ?_ H ?_
  ·intro w' hSw; go_simp
  refine ch48 ?_
  refine tkH (i:=10) (v:=.pointer (some ⟨q,0,none⟩)) rfl (by kernel_rfl) (by rfl) ?_ H ?_
  ·intro w' hSw; go_simp
  refine ch48 ?_
  refine tkH (i:=11) (v:=.pointer (some ⟨q,1,none⟩)) rfl (by kernel_rfl) (by rfl) ?_ H ?_
  ·intro w' hSw; go_simp
  refine ch48 ?_
  refine wpAnyH_ready (rs:=[12]) (by kernel_rfl) (by simp) ?_
  refine AllReadyH.cons rfl (fun KK hK => ?_) AllReadyH.nil
  obtain ⟨a3,c3,rfl,-⟩:=ho.form
  have kq:=X3.c1
  have fq:=X3.fr 1
  have O4:OnlyB q wz (wz.setCell ⟨q,1,none⟩ (.slice a3 (d.nc + 1) c3)):=(OnlyB.refl q wz).setCell 1 _
  have nq:(Value.slice a3 (d.nc + 1) c3).ownBlock≠some q:=fun e => (hv' q e).elim D2.s1.1 (by omega)
  have nb':(Value.slice a3 (d.nc + 1) c3).ownBlock≠some b:=fun e => (hv' b e).elim D2.s1.2 (by omega)
  have X4:=X3.set1 (.slice a3 (d.nc + 1) c3)
  have T4:=T3.onlyB O4 D2.s0.1
  have P4:=ho.onlyB O4 nq
  have U4:=U3.onlyB O4 D2.s2.1
  have M4:=M3.onlyB O4 (Ne.symm D2.qb)
  have n01:∀ g,(Value.slice a0 d.nb c0).ownBlock = some g→(Value.slice a3 (d.nc + 1) c3).ownBlock≠some g:=fun g e1 e2 => (hv' g e2).elim (D2.n01 g e1) (fun e => by have:=(World.ownsRow.lt D2.t0 g e1).2; omega)
  have n12:∀ g,(Value.slice a3 (d.nc + 1) c3).ownBlock = some g→(Value.slice a2 d.ns c2).ownBlock≠some g:=fun g e2 e1 => (hv' g e2).elim (fun e => D2.n12 g e e1) (fun e => by have:=(World.ownsRow.lt D2.t2 g e1).2; omega)
  have E4:Hid (Below B w (wz.setCell ⟨q,1,none⟩ (.slice a3 (d.nc + 1) c3))∧PnR (wz.setCell ⟨q,1,none⟩ (.slice a3 (d.nc + 1) c3)) B (.slice a3 (d.nc + 1) c3) (d.nc + 1) (catI d.nc d.A (fun _ => (x:Int))) (catT d.nc d.D (fun _ => s))∧TxR (wz.setCell ⟨q,1,none⟩ (.slice a3 (d.nc + 1) c3)) B (.slice a0 d.nb c0) d.nb d.B∧TxR (wz.setCell ⟨q,1,none⟩ (.slice a3 (d.nc + 1) c3)) B (.slice a2 d.ns c2) d.ns d.S):=⟨B3.trans (O4.toBelow D2.hq (by have:=B3.size; omega)),P4,T4,U4⟩
  have N4:Hid (((Value.slice a0 d.nb c0).ownBlock≠some b∧(Value.slice a3 (d.nc + 1) c3).ownBlock≠some b∧(Value.slice a2 d.ns c2).ownBlock≠some b)∧q≠b∧B≤b):=⟨⟨D2.s0.2,nb',D2.s2.2⟩,D2.qb,D2.hb⟩
  have KX:Hid (∀ C,C < w.heap.size→NotD C q b (.slice a0 d.nb c0) (.slice a1 d.nc c1) (.slice a2 d.ns c2)→(wz.setCell ⟨q,1,none⟩ (.slice a3 (d.nc + 1) c3)).heap[C]? = w.heap[C]?∧C < (wz.setCell ⟨q,1,none⟩ (.slice a3 (d.nc + 1) c3)).heap.size∧(Value.slice a3 (d.nc + 1) c3).ownBlock≠some C):=fun C hC hN => by
   have l1:=Nat.lt_of_lt_of_le hC B2.out.size
   have l2:=Nat.lt_of_lt_of_le l1 hg.size
   exact ⟨(O4.block C l2 hN.1).trans ((blk C l1 hN.2.2.2.1).trans (B2.out.block C hC)),Nat.lt_of_lt_of_le l2 O4.size,fun e => (hv' C e).elim hN.2.2.2.1 (by omega)⟩
  have hzq:q≠z:=by omega
  replace H:(wz.setCell ⟨q,1,none⟩ (.slice a3 (d.nc + 1) c3)).cell? ⟨z,0,none⟩ = some (.int .i64 (x:Int))∧(wz.setCell ⟨q,1,none⟩ (.slice a3 (d.nc + 1) c3)).cell? ⟨z,1,none⟩ = some (.string s):=⟨(World.cell?_setCell_far wz ⟨q,1,none⟩ _ _ hzq).trans H.1,(World.cell?_setCell_far wz ⟨q,1,none⟩ _ _ hzq).trans H.2⟩
  clear O4 X3 M3 T3 U3 P4 T4 U4 ho hg hloc hv' blk B3 hzb
  go_simp
  refine hK.out _ _ H (fun _ => ?_)
  clear hK KK kq fq
  generalize (wz.setCell ⟨q,1,none⟩ (.slice a3 (d.nc + 1) c3)) = u4 at *
  refine wpAnyH_done (by kernel_rfl) ?_ _
  refine NoPanic.normal ?_
  obtain ⟨h0,h1⟩:=H
  obtain ⟨wy,hmu,hM,hO,hsz⟩:=MapI.put (P:=Tryz.prog) (w:=u4.drew) (M4.below (Below.refl _ _).drew) Tryz.underlying55 Tryz.underlying3 (x:Int) (.agg #[.int .i64 (x:Int),.string s])
  have e3:=X4.c3
  have bd:Below u4.heap.size u4 u4.drew:=(Below.refl _ _).drew
  have HF:Hid (Drv wy B q b (d.written x s) (.slice a0 d.nb c0) (.slice a3 (d.nc + 1) c3) (.slice a2 d.ns c2)):=⟨(X4.below bd).onlyB hO N4.out.2.1,(E4.out.2.2.1.below bd).onlyB hO N4.out.1.1,(E4.out.2.1.below bd).onlyB hO N4.out.1.2.1,(E4.out.2.2.2.below bd).onlyB hO N4.out.1.2.2,hM.congr (fun y => lastM_written d x s y),⟨D2.s0.1,N4.out.1.1⟩,⟨nq,N4.out.1.2.1⟩,⟨D2.s2.1,N4.out.1.2.2⟩,D2.qb,n01,D2.n02,n12,D2.hq,D2.hb⟩
  have HB:Hid (Below B w wy):=E4.out.1.trans ((bd.mono (Nat.le_trans hBw E4.out.1.size)).trans (hO.toBelow D2.hb (by have:=E4.out.1.size; have:=bd.size; omega)))
  have KF:Hid (KpD q b (.slice a0 d.nb c0) (.slice a1 d.nc c1) (.slice a2 d.ns c2) (.slice a0 d.nb c0) (.slice a3 (d.nc + 1) c3) (.slice a2 d.ns c2) w wy):=fun C hC hN => by
   obtain ⟨z1,z2,z3⟩:=KX.out C hC hN
   exact ⟨(hO.block C (Nat.lt_of_lt_of_le z2 bd.size) hN.2.1).trans ((bd.block C z2).trans z1),hN.1,hN.2.1,hN.2.2.1,z3,hN.2.2.2.2⟩
  clear KX hM hO hsz bd n01 n12 nq nb' E4 N4 D2 H2 B2 PS P2 X4 M4 hr
  go_wp2_with fail
  go_region
  clear hmu e3 h0 h1
  go_wp2
  go_ret
  exact ⟨rfl,⟨_,HF.out,KF.out⟩,HB.out⟩
set_option maxRecDepth 100000 in
set_option maxHeartbeats 2000000 in
theorem write_no (B q b:Nat) (d:Dk) (v0 v1 v2:Value) (x:Int) (s:ByteArray) (p:Addr) (w:World) (h:Drv w B q b d v0 v1 v2) (p0 p1:Addr) (hE0:ErrAt w 4 p0) (hE1:ErrAt w 5 p1) (hx:(¬ (0≤x∧x < d.nb)∧p = p0)∨(0≤x∧x < d.nb∧200 < s.size∧p = p1)) :
  Calls Tryz.prog 72 #[.pointer (some ⟨q,0,none⟩),.int .i64 x,.string s] w fun e w' => e = .returned (.iface 290 (.pointer (some p)))∧Below w.heap.size w w':=by
 obtain ⟨a0,c0,rfl,-⟩:=h.t0.form
 obtain ⟨a1,c1,rfl,-⟩:=h.t1.form
 obtain ⟨a2,c2,rfl,-⟩:=h.t2.form
 have PF:Hid (Calls Tryz.prog 109 #[.agg #[.slice a0 d.nb c0,.slice a1 d.nc c1,.slice a2 d.ns c2],.int .i64 x,.string s] w fun e w' => e = .returned (.iface 290 (.pointer (some p)))∧Below w.heap.size w w'):=by
  rcases hx with ⟨q1,rfl⟩ | ⟨q1,q2,q3,rfl⟩
  ·exact placeFault_range _ _ _ _ _ _ _ _ _ _ _ q1 p w hE0
  ·exact placeFault_long _ _ _ _ _ _ _ _ _ _ _ q1 q2 q3 p w hE1
 have k0:=h.box.c0
 have k1:=h.box.c1
 have k2:=h.box.c2
 clear h hE0 hE1 hx
 go_enter Tryz.func72,Tryz.ntmps72
 go_wp2_with fail
 refine (Calls.mono PF.out) ?_
 rintro e w1 ⟨rfl,hb⟩
 have B1:Hid (Below w.heap.size w w1):=hb
 clear k0 k1 k2 hb PF
 go_wp2
 go_ret
 exact ⟨rfl,B1.out⟩
set_option maxRecDepth 100000 in
set_option maxHeartbeats 2000000 in
theorem write_full (B q b:Nat) (d:Dk) (v0 v1 v2:Value) (x:Nat) (s:ByteArray) (hx:x < d.nb) (hs:s.size≤200) (hc:4096≤d.nc) (p:Addr) (w:World) (h:Drv w B q b d v0 v1 v2) (hE:ErrAt w 1 p) :
  Calls Tryz.prog 72 #[.pointer (some ⟨q,0,none⟩),.int .i64 (x:Int),.string s] w fun e w' => e = .returned (.iface 290 (.pointer (some p)))∧Below w.heap.size w w':=by
 obtain ⟨a0,c0,rfl,-⟩:=h.t0.form
 obtain ⟨a1,c1,rfl,-⟩:=h.t1.form
 obtain ⟨a2,c2,rfl,-⟩:=h.t2.form
 have PF:Hid (∀ w:World,Calls Tryz.prog 109 #[.agg #[.slice a0 d.nb c0,.slice a1 d.nc c1,.slice a2 d.ns c2],.int .i64 (x:Int),.string s] w fun e w' => e = .returned .nilIface∧Below w.heap.size w w'):=fun w => placeFault_ok _ _ _ _ _ _ _ _ _ _ _ (by omega) (by omega) hs w
 have HD:Hid (Drv w B q b d (.slice a0 d.nb c0) (.slice a1 d.nc c1) (.slice a2 d.ns c2)):=h
 have HE:Hid (ErrAt w 1 p):=hE
 have k0:=h.box.c0
 have k1:=h.box.c1
 have k2:=h.box.c2
 clear h hE
 go_enter Tryz.func72,Tryz.ntmps72
 go_wp2_with fail
 refine (PF.out _).mono ?_
 rintro e w1 ⟨rfl,hb⟩
 have H1:Hid (Drv w1 B q b d (.slice a0 d.nb c0) (.slice a1 d.nc c1) (.slice a2 d.ns c2)):=HD.out.below hb
 have B1:Hid (Below w.heap.size w w1):=hb
 have hE':w1.cell? _ = _:=HE.out.below hb
 clear k0 k1 k2 hb HD PF HE
 have k1:=H1.out.box.c1
 have y0:(4096:Int)≤(d.nc:Int):=by omega
 go_wp2
 go_ret
 exact ⟨rfl,B1.out⟩
theorem nodup_le:∀ (S T:List Int),S.Nodup→(∀ a ∈ S,a ∈ T)→S.length≤T.length
 | [],_,_,_ => Nat.zero_le _
 | a :: S,T,hn,h => by
  have ha:=h a (List.mem_cons_self)
  have hn':=List.nodup_cons.1 hn
  have:=nodup_le S (T.erase a) hn'.2 (fun x hx => (List.mem_erase_of_ne (fun e:x = a => hn'.1 (e ▸ hx))).2 (h x (List.mem_cons_of_mem _ hx)))
  rw [List.length_erase_of_mem ha] at this
  have:0 < T.length:=List.length_pos_of_mem ha
  show S.length + 1≤_
  omega
theorem RangeI.sub {w:World} {b r:Nat} {M:Int→Option Value} {S S':List Int} (h:RangeI w b r M S) (h':RangeI w b r M S'):∀ a ∈ S,a ∈ S':=by
 obtain ⟨es,clock,seen,c0,hb,h1,h2,h3,hr,hc,hs,hn,hm⟩:=h
 obtain ⟨es',clock',seen',c0',hb',h1',h2',h3',hr',hc',hs',hn',hm'⟩:=h'
 rw [hb] at hb'
 cases hb'
 rw [hr] at hr'
 cases hr'
 intro a ha
 have:=hm a ha
 obtain ⟨v,hv⟩:=Option.isSome_iff_exists.1 this
 obtain ⟨e,he,hk⟩:=h3 a v hv
 obtain ⟨a',ha',hk'⟩:=(hs' e he).1 ((hs e he).2 ⟨a,ha,hk⟩)
 rw [hk] at hk'
 cases hk'
 exact ha'
theorem RangeI.nodup {w:World} {b r:Nat} {M:Int→Option Value} {S:List Int} (h:RangeI w b r M S):S.Nodup:=by
 obtain ⟨es,clock,seen,c0,hb,h1,h2,h3,hr,hc,hs,hn,hm⟩:=h
 exact hn
theorem RangeI.mem {w:World} {b r:Nat} {M:Int→Option Value} {S:List Int} (h:RangeI w b r M S):∀ a ∈ S,(M a).isSome = true:=by
 obtain ⟨es,clock,seen,c0,hb,h1,h2,h3,hr,hc,hs,hn,hm⟩:=h
 exact hm
open Classical in
noncomputable def seenN (w:World) (b r:Nat) (M:Int→Option Value):Nat:=if h:∃ S,RangeI w b r M S then h.choose.length else 0
theorem RangeI.seenN {w:World} {b r:Nat} {M:Int→Option Value} {S:List Int} (h:RangeI w b r M S):seenN w b r M = S.length:=by
 have hex:∃ S,RangeI w b r M S:=⟨S,h⟩
 unfold Go.Proofs.YtcpjeopnhgoonaaGreatDoor.seenN
 rw [dif_pos hex]
 exact Nat.le_antisymm (nodup_le _ _ hex.choose_spec.nodup (hex.choose_spec.sub h)) (nodup_le _ _ h.nodup (h.sub hex.choose_spec))
theorem lastM_some (A:Nat→Int) (D:Nat→ByteArray) (x:Int):∀ (k:Nat) (v:Value),lastM A D k x = some v→∃ i,i < k∧A i = x
 | 0,_,h => by cases h
 | k + 1,v,h => by
  unfold lastM at h
  by_cases e:x = A k
  ·exact ⟨k,by omega,e.symm⟩
  ·rw [if_neg e] at h
   obtain ⟨i,hi,e'⟩:=lastM_some A D x k v h
   exact ⟨i,by omega,e'⟩
def Dk.synced (d:Dk):Dk:=⟨d.nb,d.rd,0,d.A,d.D,d.ns,d.S⟩
open Classical in
noncomputable def Dk.half (d:Dk) (S:List Int) (i:Nat):ByteArray:=if (i:Int) ∈ S then d.rd i else d.B i
theorem nodup_bound (n:Nat) (S:List Int) (hn:S.Nodup) (h:∀ a ∈ S,0≤a∧a < (n:Int)):S.length≤n:=by
 have:=nodup_le S ((List.range n).map (fun i:Nat => (i:Int))) hn (fun a ha => List.mem_map.2 ⟨a.toNat,List.mem_range.2 (by have:=h a ha; omega),by have:=h a ha; omega⟩)
 simpa using this
set_option maxRecDepth 100000 in
set_option maxHeartbeats 4000000 in
theorem sync_anyK (B q b:Nat) (d:Dk) (v0 v1 v2:Value) (hA:∀ i,i < d.nc→0≤d.A i∧d.A i < d.nb) (hn:d.nb≤64) (w:World) (hBw:B≤w.heap.size) (h:Drv w B q b d v0 v1 v2) :
  Calls Tryz.prog 73 #[.pointer (some ⟨q,0,none⟩)] w fun e w' => e = .returned (.tuple #[])∧Drv w' B q b d.synced v0 (.slice none 0 0) v2∧Below B w w'∧KpD q b v0 v1 v2 v0 (.slice none 0 0) v2 w w':=by
 have HD:Hid (Drv w B q b d v0 v1 v2):=h
 have EC:Hid (∀ (v0 v1 v2:Value) (M:Int→Option Value) (w:World),Box4 w q 57 v0 v1 v2 (.map (some b))→MapI w b M→Calls Tryz.prog 110 #[.pointer (some ⟨q,0,none⟩)] w fun e w' => e = .returned (.tuple #[])∧Box4 w' q 57 v0 (.slice none 0 0) v2 (.map (some b))∧MapI w' b (fun _ => none)∧Only2 q b w w'):=fun v0 v1 v2 M w h1 h2 => emptyCache_any q b v0 v1 v2 M h.qb w h1 h2
 obtain ⟨a0,c0,rfl,-⟩:=h.t0.form
 have k3:=h.box.c3
 have hql:=h.box.lt
 have hbl:=h.m.lt
 obtain ⟨wr0,hrg,hR,hbR,hsR⟩:=MapI.ranged (P:=Tryz.prog) h.m Tryz.underlying55
 have R0:Hid (RangeI wr0 b w.heap.size (lastM d.A d.D d.nc) []):=hR
 have D0:Hid (Drv wr0 B q b d (.slice a0 d.nb c0) v1 v2):=h.below hbR
 have B0:Hid (Below B w wr0):=hbR.mono hBw
 have KX0:Hid (∀ C,C < w.heap.size→NotD C q b (.slice a0 d.nb c0) v1 v2→wr0.heap[C]? = w.heap[C]?):=fun C hC _ => hbR.block C hC
 have hs0:w.heap.size < wr0.heap.size:=by omega
 have N0:Hid ((∀ g,(Value.slice a0 d.nb c0).ownBlock = some g→g < w.heap.size)∧(∀ g,v2.ownBlock = some g→g < w.heap.size)):=⟨fun g e => (World.ownsRow.lt h.t0 g e).2,fun g e => (World.ownsRow.lt h.t2 g e).2⟩
 clear h hR hbR hsR
 go_enter Tryz.func73,Tryz.ntmps73
 go_wp2_with fail
 go_loopw [] (fun wr => ∃ S,RangeI wr b w.heap.size (lastM d.A d.D d.nc) S∧Box4 wr q 57 (.slice a0 d.nb c0) v1 v2 (.map (some b))∧TxR wr B (.slice a0 d.nb c0) d.nb (d.half S)∧TxR wr B v2 d.ns d.S∧Below B w wr∧∀ C,C < w.heap.size→NotD C q b (.slice a0 d.nb c0) v1 v2→wr.heap[C]? = w.heap[C]?) (fun wr => d.nb - seenN wr b w.heap.size (lastM d.A d.D d.nc))
 case atStart => exact ⟨[],R0.out,D0.out.box,D0.out.t0.congr (fun i _ => by unfold Dk.half; rw [if_neg (by simp)]),D0.out.t2,B0.out,KX0.out⟩
 case round =>
  clear R0 D0 B0 k3 hrg hs0 KX0
  obtain ⟨S,hR,hX,hT,hU,hb,hkx⟩:=hrel
  have KX:Hid (∀ C,C < w.heap.size→NotD C q b (.slice a0 d.nb c0) v1 v2→wr.heap[C]? = w.heap[C]?):=hkx
  clear hkx
  have B0:Hid (Below B w wr):=hb
  have hsz0:=hb.size
  clear hb
  rcases hR.next (P:=Tryz.prog) 0 with ⟨hall,hnx⟩ | ⟨a,v,w',hM,hnot,hnx,hR',hO,hsz,hen⟩
  ·have HM:Hid (MapI wr b (lastM d.A d.D d.nc)):=hR.map
   have HX:Hid (Box4 wr q 57 (.slice a0 d.nb c0) v1 v2 (.map (some b))):=hX
   have HT:Hid (TxR wr B (.slice a0 d.nb c0) d.nb d.rd):=hT.congr (fun i _ => by
    unfold Dk.half
    by_cases e:(i:Int) ∈ S
    ·rw [if_pos e]
    ·rw [if_neg e]
     rcases lastM_rd d.A d.D (d.B i) (i:Int) d.nc with ⟨-,h2⟩ | h2
     ·exact h2.symm
     ·exact absurd (hall i (by rw [h2]; rfl)) e)
   have HU:Hid (TxR wr B v2 d.ns d.S):=hU
   clear hR hX hT hU hall
   go_wp2_with fail
   refine (EC.out _ _ _ _ _ HX.out HM.out).mono ?_
   rintro e w2 ⟨rfl,hX2,hM2,hO2⟩
   have HF:Hid (Drv w2 B q b d.synced (.slice a0 d.nb c0) (.slice none 0 0) v2):=⟨hX2,ownsRow_only2 HT.out hO2 HD.out.s0.1 HD.out.s0.2,PnR.nil _ _ _ _,ownsRow_only2 HU.out hO2 HD.out.s2.1 HD.out.s2.2,hM2,HD.out.s0,⟨by simp [Value.ownBlock],by simp [Value.ownBlock]⟩,HD.out.s2,HD.out.qb,fun g _ e => by simp [Value.ownBlock] at e,HD.out.n02,fun g e => by simp [Value.ownBlock] at e,HD.out.hq,HD.out.hb⟩
   have HB:Hid (Below B w w2):=B0.out.trans (hO2.toBelow HD.out.hq HD.out.hb (by omega))
   have KF:Hid (KpD q b (.slice a0 d.nb c0) v1 v2 (.slice a0 d.nb c0) (.slice none 0 0) v2 w w2):=fun C hC hN => ⟨(hO2.block C (by omega) hN.1 hN.2.1).trans (KX.out C hC hN),hN.1,hN.2.1,hN.2.2.1,(fun e => by cases e),hN.2.2.2.2⟩
   clear hX2 hM2 hO2 hnx
   go_wp2
   go_end0
   exact ⟨rfl,HF.out,HB.out,KF.out⟩
  ·obtain ⟨i0,hi0,hai⟩:=lastM_some _ _ _ _ _ hM
   have ha:=hA i0 hi0
   rw [hai] at ha
   obtain ⟨x,rfl⟩:∃ x:Nat,a = (x:Int):=⟨a.toNat,by omega⟩
   have hx:x < d.nb:=by omega
   have hv:v = .agg #[.int .i64 (x:Int),.string (d.rd x)]:=by
    rcases lastM_rd d.A d.D (d.B x) (x:Int) d.nc with ⟨h2,-⟩ | h2
    ·rw [h2] at hM; cases hM
    ·rw [h2] at hM; exact (Option.some.inj hM).symm
   subst hv
   have hgr:(Value.slice a0 d.nb c0).ownBlock≠some w.heap.size:=fun e => Nat.lt_irrefl _ (N0.out.1 _ e)
   have hur:v2.ownBlock≠some w.heap.size:=fun e => Nat.lt_irrefl _ (N0.out.2 _ e)
   have bA:Below w'.heap.size w' (w'.alloc (.cells #[.int .i64 (x:Int),.string (d.rd x)] 60)):=(Below.refl _ _).alloc (Nat.le_refl _) _
   have X2:=(hX.onlyB hO (by omega)).below bA
   have T2:=(hT.onlyB hO hgr).below bA
   have U2:=(hU.onlyB hO hur).below bA
   have R2:=hR'.ofBlocks (bA.block b hR'.map.lt) (bA.block w.heap.size hR'.ltr)
   have E2:Below B w (w'.alloc (.cells #[.int .i64 (x:Int),.string (d.rd x)] 60)):=B0.out.trans ((hO.toBelow hBw (by omega)).trans (bA.mono (by omega)))
   have hql3:q < w'.heap.size:=by omega
   obtain ⟨g,c0',hv0,r0,hBg,-,hgl⟩:=T2.pos (by omega)
   cases hv0
   have hg:g < w.heap.size:=N0.out.1 g rfl
   have O4:OnlyB g (w'.alloc (.cells #[.int .i64 (x:Int),.string (d.rd x)] 60)) ((w'.alloc (.cells #[.int .i64 (x:Int),.string (d.rd x)] 60)).setCell ⟨g,x,none⟩ (.string (d.rd x))):=(OnlyB.refl g _).setCell x _
   have k0:=X2.c0
   have cx:=r0.c x hx
   have fx:=r0.z x hx
   have hx':(x:Int) < (d.nb:Int):=by omega
   have R4:=R2.ofBlocks (O4.block b R2.map.lt (fun e => HD.out.s0.2 (by rw [e]; rfl))) (O4.block w.heap.size R2.ltr (by omega))
   have c5:(w'.alloc (.cells #[.int .i64 (x:Int),.string (d.rd x)] 60)).cell? ⟨w'.heap.size,1,none⟩ = some (.string (d.rd x)):=by simp
   have D4:Below ((w'.alloc (.cells #[.int .i64 (x:Int),.string (d.rd x)] 60)).setCell ⟨g,x,none⟩ (.string (d.rd x))).heap.size ((w'.alloc (.cells #[.int .i64 (x:Int),.string (d.rd x)] 60)).setCell ⟨g,x,none⟩ (.string (d.rd x))) ((w'.alloc (.cells #[.int .i64 (x:Int),.string (d.rd x)] 60)).setCell ⟨g,x,none⟩ (.string (d.rd x))).drew:=(Below.refl _ _).drew
   have HF:Hid (RangeI ((w'.alloc (.cells #[.int .i64 (x:Int),.string (d.rd x)] 60)).setCell ⟨g,x,none⟩ (.string (d.rd x))).drew b w.heap.size (lastM d.A d.D d.nc) ((x:Int) :: S)∧Box4 ((w'.alloc (.cells #[.int .i64 (x:Int),.string (d.rd x)] 60)).setCell ⟨g,x,none⟩ (.string (d.rd x))).drew q 57 (.slice (some ⟨g,0,none⟩) d.nb c0) v1 v2 (.map (some b))∧TxR ((w'.alloc (.cells #[.int .i64 (x:Int),.string (d.rd x)] 60)).setCell ⟨g,x,none⟩ (.string (d.rd x))).drew B (.slice (some ⟨g,0,none⟩) d.nb c0) d.nb (d.half ((x:Int) :: S))∧TxR ((w'.alloc (.cells #[.int .i64 (x:Int),.string (d.rd x)] 60)).setCell ⟨g,x,none⟩ (.string (d.rd x))).drew B v2 d.ns d.S∧Below B w ((w'.alloc (.cells #[.int .i64 (x:Int),.string (d.rd x)] 60)).setCell ⟨g,x,none⟩ (.string (d.rd x))).drew∧∀ C,C < w.heap.size→NotD C q b (.slice (some ⟨g,0,none⟩) d.nb c0) v1 v2→((w'.alloc (.cells #[.int .i64 (x:Int),.string (d.rd x)] 60)).setCell ⟨g,x,none⟩ (.string (d.rd x))).drew.heap[C]? = w.heap[C]?) :=
    ⟨R4.ofBlocks rfl rfl,(X2.onlyB O4 (fun e => HD.out.s0.1 (by rw [e]; rfl))).below D4,((T2.put x (d.rd x)).congr (fun i _ => by
     unfold Dk.half
     by_cases e:i = x
     ·subst e; rw [if_pos rfl,if_pos (by simp)]
     ·rw [if_neg e]
      have:((i:Int) ∈ (x:Int) :: S) ↔ ((i:Int) ∈ S):=by simp; omega
      by_cases e2:(i:Int) ∈ S
      ·rw [if_pos e2,if_pos (this.2 e2)]
      ·rw [if_neg e2,if_neg (fun q => e2 (this.1 q))])).below D4,(U2.onlyB O4 (HD.out.n02 g rfl)).below D4,(E2.trans (O4.toBelow hBg (by have:=E2.size; omega))).drew,fun C hC hN => (D4.block C (by have:=E2.size; have:=O4.size; omega)).trans ((O4.block C (by have:=E2.size; omega) (fun e => hN.2.2.1 (by rw [e]; rfl))).trans ((bA.block C (by omega)).trans ((hO.block C (by omega) (by omega)).trans (KX.out C hC hN))))⟩
   have HL:Hid (S.length + 1≤d.nb):=nodup_bound d.nb ((x:Int) :: S) R4.nodup (fun a ha => by
    obtain ⟨v,hv⟩:=Option.isSome_iff_exists.1 (R4.mem a ha)
    obtain ⟨i1,hi1,e1⟩:=lastM_some _ _ _ _ _ hv
    have:=hA i1 hi1
    omega)
   have HS:Hid (seenN wr b w.heap.size (lastM d.A d.D d.nc) = S.length):=hR.seenN
   have HS':Hid (seenN ((w'.alloc (.cells #[.int .i64 (x:Int),.string (d.rd x)] 60)).setCell ⟨g,x,none⟩ (.string (d.rd x))).drew b w.heap.size (lastM d.A d.D d.nc) = S.length + 1):=HF.out.1.seenN
   clear R4 R2 T2 U2 X2 E2 O4 D4 hR hX hT hU hM hR' hO bA r0 hA hsz
   go_wp2_with fail
   generalize (w'.alloc (.cells #[.int .i64 (x:Int),.string (d.rd x)] 60)) = u at *
   go_region
   go_wp2
   go_roundw
   case rel => exact ⟨_,HF.out⟩
   case measure => rw [HS.out,HS'.out]; have:=HL.out; omega
end Go.Proofs.YtcpjeopnhgoonaaGreatDoor
