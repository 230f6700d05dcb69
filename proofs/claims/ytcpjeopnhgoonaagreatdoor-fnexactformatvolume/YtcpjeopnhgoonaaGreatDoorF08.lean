/-
  Texts of the proof, joined.
-/
import Derived.Test.YtcpjeopnhgoonaaGreatDoorF02
import Derived.LaidEql
import Derived.Stop.Asserts
import Derived.RowKitTokens
import Derived.Maps.Own
import Derived.Maps.RangeRun
import Derived.Deep.RegionWith
namespace Go.Proofs.YtcpjeopnhgoonaaGreatDoor
open Go.ChangeShapes Go.WideShapes Go.ChangeAt Go.RowKit
set_option linter.unusedVariables false
def Box3 (w:World) (b:Nat) (t:TypeId) (x y z:Value):Prop:=w.rowIs b t 3 (fun i => if i = 0 then x else if i = 1 then y else z)
theorem Box3.c0 {w:World} {b:Nat} {t:TypeId} {x y z:Value} (h:Box3 w b t x y z):w.cell? ⟨b,0,none⟩ = some x:=World.rowIs.cell h (i:=0) (by omega)
theorem Box3.c1 {w:World} {b:Nat} {t:TypeId} {x y z:Value} (h:Box3 w b t x y z):w.cell? ⟨b,1,none⟩ = some y:=World.rowIs.cell h (i:=1) (by omega)
theorem Box3.c2 {w:World} {b:Nat} {t:TypeId} {x y z:Value} (h:Box3 w b t x y z):w.cell? ⟨b,2,none⟩ = some z:=World.rowIs.cell h (i:=2) (by omega)
theorem Box3.fr {w:World} {b:Nat} {t:TypeId} {x y z:Value} (h:Box3 w b t x y z) (i:Nat):w.frozen? ⟨b,i,none⟩ = false:=World.rowIs.frozen h i
theorem Box3.lt {w:World} {b:Nat} {t:TypeId} {x y z:Value} (h:Box3 w b t x y z):b < w.heap.size:=World.rowIs.lt h
theorem Box3.ofBlock {w w':World} {b:Nat} {t:TypeId} {x y z:Value} (h:Box3 w b t x y z) (e:w'.heap[b]? = w.heap[b]?):Box3 w' b t x y z:=World.rowIs.of_block h e
theorem Box3.below {w w':World} {b:Nat} {t:TypeId} {x y z:Value} (h:Box3 w b t x y z) (hb:Below w.heap.size w w'):Box3 w' b t x y z:=h.ofBlock (hb.block b h.lt)
theorem Box3.made (w:World) (t:TypeId) (x y z:Value):Box3 (w.alloc (.cells #[x,y,z] t)) w.heap.size t x y z:=World.rowIs_alloc w #[x,y,z] t _ (fun i hi => by
 rcases (show i = 0∨i = 1∨i = 2 by simp at hi; omega) with rfl | rfl | rfl <;> rfl)
theorem Box3.madeAt {w:World} {b:Nat} (hb:w.heap.size = b) (t:TypeId) (x y z:Value):Box3 (w.alloc (.cells #[x,y,z] t)) b t x y z:=by subst hb; exact Box3.made w t x y z
theorem Box3.alloc {w:World} {b:Nat} {t:TypeId} {x y z:Value} (h:Box3 w b t x y z) (o:Obj):Box3 (w.alloc o) b t x y z:=World.rowIs.alloc h o
theorem Box3.set0 {w:World} {b:Nat} {t:TypeId} {x y z:Value} (h:Box3 w b t x y z) (v:Value):Box3 (w.setCell ⟨b,0,none⟩ v) b t v y z:=World.rowIs.congr (World.rowIs.set h 0 v) (fun i hi => by
 rcases (show i = 0∨i = 1∨i = 2 by omega) with rfl | rfl | rfl <;> rfl)
theorem Box3.set1 {w:World} {b:Nat} {t:TypeId} {x y z:Value} (h:Box3 w b t x y z) (v:Value):Box3 (w.setCell ⟨b,1,none⟩ v) b t x v z:=World.rowIs.congr (World.rowIs.set h 1 v) (fun i hi => by
 rcases (show i = 0∨i = 1∨i = 2 by omega) with rfl | rfl | rfl <;> rfl)
theorem Box3.set2 {w:World} {b:Nat} {t:TypeId} {x y z:Value} (h:Box3 w b t x y z) (v:Value):Box3 (w.setCell ⟨b,2,none⟩ v) b t x y v:=World.rowIs.congr (World.rowIs.set h 2 v) (fun i hi => by
 rcases (show i = 0∨i = 1∨i = 2 by omega) with rfl | rfl | rfl <;> rfl)
def Pens (w:World) (a:Option Addr) (n:Nat) (A:Nat→Int) (D:Nat→ByteArray):Prop:=∀ i,i < n→∃ b off,a = some ⟨b,off,none⟩∧w.cell? ⟨b,off + i * 2,none⟩ = some (.int .i64 (A i))∧w.cell? ⟨b,off + i * 2 + 1,none⟩ = some (.string (D i))
theorem Pens.opened {w:World} {a:Option Addr} {n:Nat} {A:Nat→Int} {D:Nat→ByteArray} (h:Pens w a n A D) (hn:0 < n) :
  ∃ b off,a = some ⟨b,off,none⟩∧∀ i,i < n→w.cell? ⟨b,off + i * 2,none⟩ = some (.int .i64 (A i))∧w.cell? ⟨b,off + i * 2 + 1,none⟩ = some (.string (D i)):=by
 obtain ⟨b,off,rfl,_⟩:=h 0 hn
 refine ⟨b,off,rfl,fun i hi => ?_⟩
 obtain ⟨b',off',hab,hc⟩:=h i hi
 cases hab
 exact hc
theorem Pens.below {w w':World} {a:Option Addr} {n:Nat} {A:Nat→Int} {D:Nat→ByteArray} (h:Pens w a n A D) (hb:Below w.heap.size w w'):Pens w' a n A D:=fun i hi => by
 obtain ⟨b,off,ha,hc,hd⟩:=h i hi
 exact ⟨b,off,ha,by rw [hb.cell (strBlock hc)]; exact hc,by rw [hb.cell (strBlock hd)]; exact hd⟩
structure Dk where
 nb:Nat
 B:Nat→ByteArray
 nc:Nat
 A:Nat→Int
 D:Nat→ByteArray
 ns:Nat
 S:Nat→ByteArray
structure Dk.Ok (d:Dk):Prop where
 nb1:1≤d.nb
 nb2:d.nb≤64
 nc:d.nc≤4096
 ns:d.ns = 0∨d.ns = d.nb
 B:∀ i,i < d.nb→(d.B i).size≤200
 C:∀ i,i < d.nc→(0≤d.A i∧d.A i < d.nb)∧(d.D i).size≤200
 S:∀ i,i < d.ns→(d.S i).size≤200
open Classical in
noncomputable def Dk.ok (d:Dk):Bool:=decide d.Ok
theorem Dk.ok_true {d:Dk} (h:d.Ok):d.ok = true:=by unfold Dk.ok; simp [h]
theorem Dk.ok_false {d:Dk} (h:¬ d.Ok):d.ok = false:=by unfold Dk.ok; simp [h]
def rdF (A:Nat→Int) (D:Nat→ByteArray) (b:ByteArray) (x:Int):Nat→ByteArray
 | 0 => b
 | k + 1 => if A k = x then D k else rdF A D b x k
def Dk.rd (d:Dk) (x:Nat):ByteArray:=rdF d.A d.D (d.B x) (x:Int) d.nc
def lastM (A:Nat→Int) (D:Nat→ByteArray):Nat→Int→Option Value
 | 0,_ => none
 | k + 1,x => if x = A k then some (.agg #[.int .i64 (A k),.string (D k)]) else lastM A D k x
theorem lastM_rd (A:Nat→Int) (D:Nat→ByteArray) (b:ByteArray) (x:Int) (k:Nat):(lastM A D k x = none∧rdF A D b x k = b)∨lastM A D k x = some (.agg #[.int .i64 x,.string (rdF A D b x k)]):=by
 induction k with
 | zero => exact .inl ⟨rfl,rfl⟩
 | succ k ih =>
  unfold lastM rdF
  by_cases h:A k = x
  ·right
   rw [if_pos h.symm,if_pos h,h]
  ·rw [if_neg (fun e => h e.symm),if_neg h]
   exact ih
def DiskV (w:World) (d:Dk) (a0 a1 a2:Option Addr):Prop:=Strs w a0 d.nb d.B∧Pens w a1 d.nc d.A d.D∧Strs w a2 d.ns d.S
theorem DiskV.below {w w':World} {d:Dk} {a0 a1 a2:Option Addr} (h:DiskV w d a0 a1 a2) (hb:Below w.heap.size w w'):DiskV w' d a0 a1 a2:=⟨h.1.below hb,h.2.1.below hb,h.2.2.below hb⟩
def ErrAt (w:World) (g:Nat) (p:Addr):Prop:=w.cell? ⟨g,0,none⟩ = some (.iface 290 (.pointer (some p)))
theorem ErrAt.below {w w':World} {g:Nat} {p:Addr} (h:ErrAt w g p) (hb:Below w.heap.size w w'):ErrAt w' g p:=by
 unfold ErrAt at *
 rw [hb.cell (strBlock h)]; exact h
def ErrRow (w:World) (p:Addr):Prop:=∃ c t,w.heap[p.block]? = some (.cells c t (0,0))
theorem ErrRow.below {w w':World} {p:Addr} (h:ErrRow w p) (hb:Below w.heap.size w w'):ErrRow w' p:=by
 obtain ⟨c,t,hc⟩:=h
 exact ⟨c,t,(hb.block _ (Array.getElem?_eq_some_iff.1 hc).1).trans hc⟩
end Go.Proofs.YtcpjeopnhgoonaaGreatDoor
namespace Go.Proofs.YtcpjeopnhgoonaaGreatDoor
open Go.ChangeShapes Go.WideShapes Go.ChangeAt Go.RowKit Go.Extern.Stop Go.Stop Go.Extern
structure Errs (w:World) (p0 p1 p2 p3 p4:Addr):Prop where
 e0:ErrAt w 4 p0
 e1:ErrAt w 5 p1
 e2:ErrAt w 1 p2
 e3:ErrAt w 2 p3
 e4:ErrAt w 0 p4
 r0:ErrRow w p0
 r1:ErrRow w p1
 r2:ErrRow w p2
 r3:ErrRow w p3
 r4:ErrRow w p4
 n:p0≠p1∧p0≠p2∧p0≠p3∧p0≠p4∧p1≠p2∧p1≠p3∧p1≠p4∧p2≠p3∧p2≠p4∧p3≠p4
theorem Errs.below {w w':World} {p0 p1 p2 p3 p4:Addr} (h:Errs w p0 p1 p2 p3 p4) (hb:Below w.heap.size w w'):Errs w' p0 p1 p2 p3 p4 :=
 ⟨h.e0.below hb,h.e1.below hb,h.e2.below hb,h.e3.below hb,h.e4.below hb,h.r0.below hb,h.r1.below hb,h.r2.below hb,h.r3.below hb,h.r4.below hb,h.n⟩
end Go.Proofs.YtcpjeopnhgoonaaGreatDoor
namespace Go.Proofs.YtcpjeopnhgoonaaGreatDoor
open Go.ChangeShapes Go.WideShapes Go.ChangeAt Go.RowKit
set_option linter.unusedVariables false
def Box4 (w:World) (q:Nat) (t:TypeId) (x y z m:Value):Prop:=w.rowIs q t 4 (fun i => if i = 0 then x else if i = 1 then y else if i = 2 then z else m)
theorem Box4.c0 {w:World} {b:Nat} {t:TypeId} {x y z m:Value} (h:Box4 w b t x y z m):w.cell? ⟨b,0,none⟩ = some x:=World.rowIs.cell h (i:=0) (by omega)
theorem Box4.c1 {w:World} {b:Nat} {t:TypeId} {x y z m:Value} (h:Box4 w b t x y z m):w.cell? ⟨b,1,none⟩ = some y:=World.rowIs.cell h (i:=1) (by omega)
theorem Box4.c2 {w:World} {b:Nat} {t:TypeId} {x y z m:Value} (h:Box4 w b t x y z m):w.cell? ⟨b,2,none⟩ = some z:=World.rowIs.cell h (i:=2) (by omega)
theorem Box4.c3 {w:World} {b:Nat} {t:TypeId} {x y z m:Value} (h:Box4 w b t x y z m):w.cell? ⟨b,3,none⟩ = some m:=World.rowIs.cell h (i:=3) (by omega)
theorem Box4.fr {w:World} {b:Nat} {t:TypeId} {x y z m:Value} (h:Box4 w b t x y z m) (i:Nat):w.frozen? ⟨b,i,none⟩ = false:=World.rowIs.frozen h i
theorem Box4.lt {w:World} {b:Nat} {t:TypeId} {x y z m:Value} (h:Box4 w b t x y z m):b < w.heap.size:=World.rowIs.lt h
theorem Box4.ofBlock {w w':World} {b:Nat} {t:TypeId} {x y z m:Value} (h:Box4 w b t x y z m) (e:w'.heap[b]? = w.heap[b]?):Box4 w' b t x y z m:=World.rowIs.of_block h e
theorem Box4.below {w w':World} {b:Nat} {t:TypeId} {x y z m:Value} (h:Box4 w b t x y z m) (hb:Below w.heap.size w w'):Box4 w' b t x y z m:=h.ofBlock (hb.block b h.lt)
theorem Box4.onlyB {w w':World} {b g:Nat} {t:TypeId} {x y z m:Value} (h:Box4 w b t x y z m) (ho:OnlyB g w w') (hne:b≠g):Box4 w' b t x y z m:=h.ofBlock (ho.block b h.lt hne)
theorem Box4.madeAt {w:World} {b:Nat} (hb:w.heap.size = b) (t:TypeId) (x y z m:Value):Box4 (w.alloc (.cells #[x,y,z,m] t)) b t x y z m:=by
 subst hb
 exact World.rowIs_alloc w #[x,y,z,m] t _ (fun i hi => by
  rcases (show i = 0∨i = 1∨i = 2∨i = 3 by simp at hi; omega) with rfl | rfl | rfl | rfl <;> rfl)
theorem Box4.set1 {w:World} {b:Nat} {t:TypeId} {x y z m:Value} (h:Box4 w b t x y z m) (v:Value):Box4 (w.setCell ⟨b,1,none⟩ v) b t x v z m:=World.rowIs.congr (World.rowIs.set h 1 v) (fun i hi => by
 rcases (show i = 0∨i = 1∨i = 2∨i = 3 by omega) with rfl | rfl | rfl | rfl <;> rfl)
end Go.Proofs.YtcpjeopnhgoonaaGreatDoor
namespace Go.Proofs.YtcpjeopnhgoonaaGreatDoor
open Go.ChangeShapes Go.WideShapes Go.ChangeAt Go.RowKit
open Go.MapKept Go.ChangeMaps
def MapI (w:World) (b:Nat) (M:Int→Option Value):Prop:=∃ es clock,w.heap[b]? = some (.map es clock)∧Stamped es clock∧(∀ e ∈ es.toList,∃ a,e.key = .int .i64 a∧M a = some e.val)∧(∀ a v,M a = some v→∃ e ∈ es.toList,e.key = .int .i64 a)
theorem MapI.lt {w:World} {b:Nat} {M:Int→Option Value} (h:MapI w b M):b < w.heap.size:=by
 obtain ⟨es,clock,hb,_⟩:=h
 exact (Array.getElem?_eq_some_iff.1 hb).1
theorem MapI.ofBlock {w w':World} {b:Nat} {M:Int→Option Value} (h:MapI w b M) (e:w'.heap[b]? = w.heap[b]?):MapI w' b M:=by
 obtain ⟨es,clock,hb,r⟩:=h
 exact ⟨es,clock,e.trans hb,r⟩
theorem MapI.below {w w':World} {b:Nat} {M:Int→Option Value} (h:MapI w b M) (hb:Below w.heap.size w w'):MapI w' b M:=h.ofBlock (hb.block b h.lt)
theorem MapI.onlyB {w w':World} {b g:Nat} {M:Int→Option Value} (h:MapI w b M) (ho:OnlyB g w w') (hne:b≠g):MapI w' b M:=h.ofBlock (ho.block b h.lt hne)
theorem MapI.congr {w:World} {b:Nat} {M N:Int→Option Value} (h:MapI w b M) (e:∀ a,M a = N a):MapI w b N:=by
 obtain rfl:M = N:=funext e
 exact h
theorem MapI.made (w:World):MapI (w.alloc (.map #[] 0)) w.heap.size (fun _ => none):=⟨#[],0,(MapKept.heap_alloc w _).1,stamped_empty 0,by simp,by simp⟩
theorem isKeyI (a:Int):IsKey (.int .i64) (.int .i64 a):=rfl
theorem MapI.keys {es:Array MapEntry} {M:Int→Option Value} (h:∀ e ∈ es.toList,∃ a,e.key = .int .i64 a∧M a = some e.val):∀ x ∈ es.toList,IsKey (.int .i64) x.key:=fun x hx => by
 obtain ⟨a,ha,_⟩:=h x hx
 rw [ha]
 exact isKeyI a
theorem MapI.look {P:Program} {w:World} {b:Nat} {M:Int→Option Value} {t k e:TypeId} (h:MapI w b M) (ht:P.underlying t = some (.map k e)) (hk:P.underlying k = some (.int .i64)) {z:Value} (hz:(zeroValue e).run P w = .ok z w) (a:Int) :
  (Instr.lookup t (.map (some b)) (.int .i64 a) true).run P w = .ok (.tuple #[(M a).getD z,.bool (M a).isSome]) w:=by
 obtain ⟨es,clock,hb,hs,h1,h2⟩:=h
 rcases findNow_spec (isKeyI a) es.toList 0 (MapI.keys h1) with ⟨f1,f2⟩ | ⟨j,e0,f1,f2,f3⟩
 ·have hM:M a = none:=by
   cases hMa:M a with
   | none => rfl
   | some v =>
    obtain ⟨x,hx,hxa⟩:=h2 a v hMa
    exact absurd hxa (f2 x hx)
  simp [Instr.lookup,run_underlying ht,MapKept.run_getObj_map hb,run_checkKey hk (isKeyI a) _ 9999,run_findKey hk f1,hz,Result.andThen,hM]
 ·obtain ⟨a',ha',hv⟩:=h1 e0 (List.mem_of_getElem? f2)
  rw [f3] at ha'
  cases ha'
  simp [Instr.lookup,run_underlying ht,MapKept.run_getObj_map hb,run_checkKey hk (isKeyI a) _ 9999,run_findKey hk f1,Result.andThen,hv]
theorem onlyB_setBlock (w:World) (b:Nat) (o':Obj):OnlyB b w (setBlock w b o') :=
 ⟨rfl,rfl,rfl,by simp [setBlock],fun k _ hn => by simp [setBlock,Ne.symm hn]⟩
theorem MapI.put {P:Program} {w:World} {b:Nat} {M:Int→Option Value} {t k e:TypeId} (h:MapI w b M) (ht:P.underlying t = some (.map k e)) (hk:P.underlying k = some (.int .i64)) (a:Int) (v:Value) :
  ∃ w',(Instr.mapUpdate t (.map (some b)) (.int .i64 a) v).run P w = .ok () w'∧MapI w' b (fun x => if x = a then some v else M x)∧OnlyB b w w'∧w'.heap.size = w.heap.size:=by
 obtain ⟨es,clock,hb,hs,h1,h2⟩:=h
 have hp:=((stamped_iff es clock).1 hs).2.2
 rcases findNow_spec (isKeyI a) es.toList 0 (MapI.keys h1) with ⟨f1,f2⟩ | ⟨j,e0,f1,f2,f3⟩
 ·refine ⟨setBlock w b (.map (es.push ⟨.int .i64 a,v,clock⟩) (clock + 1)),?_,⟨_,_,heap_setBlock_same hb _,stamped_push hs f2,?_,?_⟩,onlyB_setBlock _ _ _,by simp [setBlock]⟩
  ·simp [Instr.mapUpdate,run_underlying ht,MapKept.run_getObj_map hb,run_checkKey hk (isKeyI a) _ 9999,run_findKey hk f1,MapKept.run_setObj_map _ hb,Result.andThen,setBlock]
  ·intro x hx
   simp only [Array.toList_push,List.mem_append,List.mem_singleton] at hx
   rcases hx with hx | rfl
   ·obtain ⟨a',ha',hv⟩:=h1 x hx
    refine ⟨a',ha',?_⟩
    dsimp only
    rw [if_neg (fun e => f2 x hx (by rw [ha',e]))]
    exact hv
   ·exact ⟨a,rfl,if_pos rfl⟩
  ·intro x v' hx
   by_cases e:x = a
   ·subst e
    exact ⟨⟨.int .i64 x,v,clock⟩,by simp,rfl⟩
   ·dsimp only at hx
    rw [if_neg e] at hx
    obtain ⟨y,hy,hya⟩:=h2 x v' hx
    exact ⟨y,by simp only [Array.toList_push,List.mem_append]; exact .inl hy,hya⟩
 ·have hj:es[j]? = some e0:=by simpa using f2
  have hjl:j < es.toList.length:=(List.getElem?_eq_some_iff.1 f2).1
  have hlist:(es.modify j (fun e' => { e' with key:=.int .i64 a,val:=v })).toList = es.toList.set j { e0 with key:=.int .i64 a,val:=v }:=by rw [Array.toList_modify,modify_eq_set _ _ _ _ f2]
  refine ⟨setBlock w b (.map (es.modify j (fun e' => { e' with key:=.int .i64 a,val:=v })) clock),?_,⟨_,_,heap_setBlock_same hb _,stamped_modify hs _ _ (fun _ _ => rfl) (fun e' _ he' => by rw [hj] at he'; cases he'; exact f3.symm),?_,?_⟩,onlyB_setBlock _ _ _,by simp [setBlock]⟩
  ·simp [Instr.mapUpdate,run_underlying ht,MapKept.run_getObj_map hb,run_checkKey hk (isKeyI a) _ 9999,run_findKey hk f1,hj,f3,run_keyThatStays (isKeyI a),MapKept.run_setObj_map _ hb,Result.andThen,setBlock]
  ·intro x hx
   rw [hlist] at hx
   obtain ⟨i,hi,ex⟩:=List.getElem_of_mem hx
   rw [List.getElem_set] at ex
   split at ex
   ·subst ex
    exact ⟨a,rfl,if_pos rfl⟩
   ·rename_i hne
    have hi':i < es.toList.length:=by simpa using hi
    have hm:x ∈ es.toList:=ex ▸ List.getElem_mem hi'
    obtain ⟨a',ha',hv⟩:=h1 x hm
    refine ⟨a',ha',?_⟩
    have hpi:=List.pairwise_iff_getElem.1 hp
    have:x.key≠e0.key:=by
     have e0':es.toList[j] = e0:=by
      have:=f2
      rw [List.getElem?_eq_getElem hjl] at this
      exact Option.some.inj this
     rcases Nat.lt_or_gt_of_ne hne with g | g
     ·have:=hpi j i hjl hi' g
      rw [e0',ex] at this
      exact fun q => this q.symm
     ·have:=hpi i j hi' hjl g
      rw [e0',ex] at this
      exact this
    dsimp only
    rw [if_neg (fun e => this (by rw [ha',f3,e]))]
    exact hv
  ·intro x v' hx
   by_cases e:x = a
   ·subst e
    refine ⟨{ e0 with key:=.int .i64 x,val:=v },?_,rfl⟩
    rw [hlist]
    exact List.mem_iff_getElem.2 ⟨j,by simpa using hjl,by simp⟩
   ·dsimp only at hx
    rw [if_neg e] at hx
    obtain ⟨y,hy,hya⟩:=h2 x v' hx
    refine ⟨y,?_,hya⟩
    rw [hlist]
    obtain ⟨i,hi,ey⟩:=List.getElem_of_mem hy
    refine List.mem_iff_getElem.2 ⟨i,by simpa using hi,?_⟩
    rw [List.getElem_set,if_neg,ey]
    intro ej
    subst ej
    rw [List.getElem?_eq_getElem hi,ey] at f2
    cases f2
    rw [f3] at hya
    cases hya
    exact e rfl
theorem MapI.cleared {P:Program} {w:World} {b:Nat} {M:Int→Option Value} {t k e:TypeId} (h:MapI w b M) (ht:P.underlying t = some (.map k e)) (ty:TypeId) :
  ∃ w',(Builtin.clear_ #[t] ty #[.map (some b)]).run P w = .ok (.tuple #[]) w'∧MapI w' b (fun _ => none)∧OnlyB b w w'∧w'.heap.size = w.heap.size:=by
 obtain ⟨es,clock,hb,hs,h1,h2⟩:=h
 refine ⟨setBlock w b (.map #[] clock),?_,⟨_,_,heap_setBlock_same hb _,stamped_empty _,by simp,by simp⟩,onlyB_setBlock _ _ _,by simp [setBlock]⟩
 simp [Builtin.clear_,run_underlying ht,MapKept.run_getObj_map hb,MapKept.run_setObj_map _ hb,Result.andThen,setBlock]
def RangeI (w:World) (b r:Nat) (M:Int→Option Value) (S:List Int):Prop:=∃ es clock seen c0,w.heap[b]? = some (.map es clock)∧Stamped es clock∧(∀ e ∈ es.toList,∃ a,e.key = .int .i64 a∧M a = some e.val)∧(∀ a v,M a = some v→∃ e ∈ es.toList,e.key = .int .i64 a)∧w.heap[r]? = some (.mapIter (some b) clock seen c0)∧clock≤c0∧(∀ e ∈ es.toList,e.born ∈ seen.toList ↔ ∃ a ∈ S,e.key = .int .i64 a)∧S.Nodup∧(∀ a ∈ S,(M a).isSome = true)
theorem RangeI.ofBlocks {w w':World} {b r:Nat} {M:Int→Option Value} {S:List Int} (h:RangeI w b r M S) (e:w'.heap[b]? = w.heap[b]?) (e':w'.heap[r]? = w.heap[r]?):RangeI w' b r M S:=by
 obtain ⟨es,clock,seen,c0,hb,h1,h2,h3,hr,rest⟩:=h
 exact ⟨es,clock,seen,c0,e.trans hb,h1,h2,h3,e'.trans hr,rest⟩
theorem RangeI.map {w:World} {b r:Nat} {M:Int→Option Value} {S:List Int} (h:RangeI w b r M S):MapI w b M:=by
 obtain ⟨es,clock,seen,c0,hb,h1,h2,h3,hr,rest⟩:=h
 exact ⟨es,clock,hb,h1,h2,h3⟩
theorem RangeI.ltr {w:World} {b r:Nat} {M:Int→Option Value} {S:List Int} (h:RangeI w b r M S):r < w.heap.size:=by
 obtain ⟨es,clock,seen,c0,hb,h1,h2,h3,hr,rest⟩:=h
 exact (Array.getElem?_eq_some_iff.1 hr).1
theorem RangeI.ne {w:World} {b r:Nat} {M:Int→Option Value} {S:List Int} (h:RangeI w b r M S):b≠r:=by
 obtain ⟨es,clock,seen,c0,hb,h1,h2,h3,hr,rest⟩:=h
 rintro rfl
 rw [hb] at hr
 cases hr
theorem MapI.ranged {P:Program} {w:World} {b:Nat} {M:Int→Option Value} {t k e:TypeId} (h:MapI w b M) (ht:P.underlying t = some (.map k e)) :
  ∃ w',(Instr.range t (.map (some b))).run P w = .ok (.pointer (some ⟨w.heap.size,0,none⟩)) w'∧RangeI w' b w.heap.size M []∧Below w.heap.size w w'∧w'.heap.size = w.heap.size + 1:=by
 have hlt:=h.lt
 obtain ⟨es,clock,hb,hs,h1,h2⟩:=h
 have hB:Below w.heap.size w (w.alloc (.mapIter (some b) clock #[] clock)):=(Below.refl _ _).alloc (Nat.le_refl _) _
 refine ⟨w.alloc (.mapIter (some b) clock #[] clock),?_,⟨es,clock,#[],clock,(hB.block b hlt).trans hb,hs,h1,h2,(MapKept.heap_alloc w _).1,Nat.le_refl _,fun e _ => by simp,by simp,by simp⟩,hB,by simp⟩
 simp [Instr.range,run_underlying ht,MapKept.run_getObj_map hb,Result.andThen]
theorem RangeI.next {P:Program} {w:World} {b r:Nat} {M:Int→Option Value} {S:List Int} (h:RangeI w b r M S) (ty:TypeId) :
  ((∀ a,(M a).isSome = true→a ∈ S)∧(Instr.next (.pointer (some ⟨r,0,none⟩)) false ty).run P w = .ok (.tuple #[.bool false]) w) ∨
  ∃ (a:Int) (v:Value) (w':World),M a = some v∧a ∉ S∧(Instr.next (.pointer (some ⟨r,0,none⟩)) false ty).run P w = .ok (.tuple #[.bool true,.int .i64 a,v]) w'∧RangeI w' b r M (a :: S)∧OnlyB r w w'∧w'.heap.size = w.heap.size ∧
   (Instr.entry (.pointer (some ⟨r,0,none⟩))).run P w' = .ok (.tuple #[.int .i64 a,v]) w':=by
 have hne:=h.ne
 obtain ⟨es,clock,seen,c0,hb,hs,h1,h2,hr,hc,hseen,hnd,hS⟩:=h
 obtain ⟨s1,s2,s3⟩:=(stamped_iff es clock).1 hs
 rcases run_next_at (P:=P) w ty r b clock c0 seen es clock hr hb s1 hc with ⟨h0,hrun⟩ | ⟨e,he,w1,hw1,hrun⟩
 ·left
  refine ⟨fun a ha => ?_,hrun⟩
  obtain ⟨v,hv⟩:=Option.isSome_iff_exists.1 ha
  obtain ⟨x,hx,hxa⟩:=h2 a v hv
  have hin:x.born ∈ seen.toList:=by
   rcases Classical.em (x.born ∈ seen.toList) with g | g
   ·exact g
   ·exfalso
    have:x ∈ (leftOf es seen).toList:=by
     unfold leftOf
     simp only [Array.toList_filter,List.mem_filter]
     exact ⟨hx,by simpa using g⟩
    rw [Array.eq_empty_of_size_eq_zero h0] at this
    simp at this
  obtain ⟨a',ha',hk⟩:=(hseen x hx).1 hin
  rw [hxa] at hk
  cases hk
  exact ha'
 ·right
  have hle:e ∈ es.toList∧e.born ∉ seen.toList:=by
   unfold leftOf at he
   simp only [Array.toList_filter,List.mem_filter] at he
   exact ⟨he.1,by simpa using he.2⟩
  obtain ⟨a,hka,hMa⟩:=h1 e hle.1
  have hnS:a ∉ S:=fun hin => hle.2 ((hseen e hle.1).2 ⟨a,hin,hka⟩)
  have hh:w1.heap = w.heap:=by rcases hw1 with rfl | rfl <;> rfl
  have hr1:w1.heap[r]? = some (.mapIter (some b) clock seen c0):=by rw [hh]; exact hr
  have hrlt:r < w1.heap.size:=(Array.getElem?_eq_some_iff.1 hr1).1
  have hsame:(setBlock w1 r (.mapIter (some b) clock (seen.push e.born) clock)).heap[r]? = some (.mapIter (some b) clock (seen.push e.born) clock):=by simp [setBlock,hrlt]
  have hoth:∀ k,k≠r→(setBlock w1 r (.mapIter (some b) clock (seen.push e.born) clock)).heap[k]? = w.heap[k]?:=fun k hk => by rw [← hh]; simp [setBlock,Ne.symm hk]
  have hb1:=(hoth b hne).trans hb
  refine ⟨a,e.val,setBlock w1 r (.mapIter (some b) clock (seen.push e.born) clock),hMa,hnS,by rw [hrun,hka],⟨es,clock,seen.push e.born,clock,hb1,hs,h1,h2,hsame,Nat.le_refl _,?_,List.nodup_cons.2 ⟨hnS,hnd⟩,?_⟩,⟨?_,?_,?_,by simp [setBlock,hh],fun k _ hk => hoth k hk⟩,by simp [setBlock,hh],?_⟩
  ·intro x hx
   simp only [Array.toList_push,List.mem_append,List.mem_singleton]
   constructor
   ·rintro (g | g)
    ·obtain ⟨a',ha',hk⟩:=(hseen x hx).1 g
     exact ⟨a',List.mem_cons_of_mem _ ha',hk⟩
    ·have:x = e:=by
      have f1:=find_born x es.toList s2 hx
      have f2:=find_born e es.toList s2 hle.1
      rw [g] at f1
      exact Option.some.inj (f1.symm.trans f2)
     subst this
     exact ⟨a,List.mem_cons_self,hka⟩
   ·rintro ⟨a',ha',hk⟩
    rcases List.mem_cons.1 ha' with rfl | ha'
    ·right
     have:x = e:=by
      rcases Classical.em (x = e) with g | g
      ·exact g
      ·exfalso
       obtain ⟨i,hi,ei⟩:=List.getElem_of_mem hx
       obtain ⟨j,hj,ej⟩:=List.getElem_of_mem hle.1
       have hpi:=List.pairwise_iff_getElem.1 s3
       rcases Nat.lt_trichotomy i j with l | l | l
       ·have:=hpi i j hi hj l
        rw [ei,ej] at this
        exact this (by rw [hk,hka])
       ·subst l
        exact g (ei.symm.trans ej)
       ·have:=hpi j i hj hi l
        rw [ei,ej] at this
        exact this (by rw [hk,hka])
     rw [this]
    ·exact .inl ((hseen x hx).2 ⟨a',ha',hk⟩)
  ·intro a' ha'
   rcases List.mem_cons.1 ha' with rfl | ha'
   ·rw [hMa]; rfl
   ·exact hS a' ha'
  ·rcases hw1 with rfl | rfl <;> rfl
  ·rcases hw1 with rfl | rfl <;> rfl
  ·rcases hw1 with rfl | rfl <;> rfl
  ·rw [run_entry_at (P:=P) _ r b clock seen es clock e hsame hb1 hle.1 s2,hka]
end Go.Proofs.YtcpjeopnhgoonaaGreatDoor
namespace Go.Proofs.YtcpjeopnhgoonaaGreatDoor
open Go.ChangeShapes Go.WideShapes Go.ChangeAt Go.RowKit
set_option linter.unusedVariables false
structure RowS (w:World) (a:Option Addr) (g n:Nat) (f:Nat→ByteArray):Prop where
 a:0 < n→a = some ⟨g,0,none⟩
 c:∀ i,i < n→w.cell? ⟨g,i,none⟩ = some (.string (f i))
 z:∀ i,i < n→w.frozen? ⟨g,i,none⟩ = false
structure RowP (w:World) (a:Option Addr) (g n:Nat) (A:Nat→Int) (D:Nat→ByteArray):Prop where
 a:0 < n→a = some ⟨g,0,none⟩
 c:∀ i,i < n→w.cell? ⟨g,i * 2,none⟩ = some (.int .i64 (A i))
 d:∀ i,i < n→w.cell? ⟨g,i * 2 + 1,none⟩ = some (.string (D i))
 z:∀ i,i < n * 2→w.frozen? ⟨g,i,none⟩ = false
theorem cellOf {w w':World} {g i:Nat} (e:w'.heap[g]? = w.heap[g]?):w'.cell? ⟨g,i,none⟩ = w.cell? ⟨g,i,none⟩:=by simp [World.cell?,e]
theorem frozenOf {w w':World} {g i:Nat} (e:w'.heap[g]? = w.heap[g]?):w'.frozen? ⟨g,i,none⟩ = w.frozen? ⟨g,i,none⟩:=by simp [World.frozen?,e]
theorem RowS.ofBlock {w w':World} {a:Option Addr} {g n:Nat} {f:Nat→ByteArray} (h:RowS w a g n f) (e:0 < n→w'.heap[g]? = w.heap[g]?):RowS w' a g n f :=
 ⟨h.a,fun i hi => by rw [cellOf (e (by omega))]; exact h.c i hi,fun i hi => by rw [frozenOf (e (by omega))]; exact h.z i hi⟩
theorem RowS.lt {w:World} {a:Option Addr} {g n:Nat} {f:Nat→ByteArray} (h:RowS w a g n f) (hn:0 < n):g < w.heap.size:=strBlock (h.c 0 hn)
theorem RowS.below {w w':World} {a:Option Addr} {g n:Nat} {f:Nat→ByteArray} (h:RowS w a g n f) (hb:Below w.heap.size w w'):RowS w' a g n f:=h.ofBlock (fun hn => hb.block g (h.lt hn))
theorem RowS.onlyB {w w':World} {a:Option Addr} {g b n:Nat} {f:Nat→ByteArray} (h:RowS w a g n f) (ho:OnlyB b w w') (hne:0 < n→g≠b):RowS w' a g n f:=h.ofBlock (fun hn => ho.block g (h.lt hn) (hne hn))
theorem RowS.congr {w:World} {a:Option Addr} {g n:Nat} {f f':Nat→ByteArray} (h:RowS w a g n f) (e:∀ i,i < n→f i = f' i):RowS w a g n f':=⟨h.a,fun i hi => by rw [← e i hi]; exact h.c i hi,h.z⟩
theorem RowS.strs {w:World} {a:Option Addr} {g n:Nat} {f:Nat→ByteArray} (h:RowS w a g n f):Strs w a n f:=fun i hi => ⟨g,0,h.a (by omega),by rw [Nat.zero_add]; exact h.c i hi⟩
theorem RowS.nil (w:World) (a:Option Addr) (g:Nat) (f:Nat→ByteArray):RowS w a g 0 f:=⟨fun h => absurd h (by omega),fun i hi => absurd hi (by omega),fun i hi => absurd hi (by omega)⟩
theorem RowS.ofRow {w:World} {g m n:Nat} {t:TypeId} {f:Nat→ByteArray} {F:Nat→Value} (h:w.rowIs g t m F) (hn:n≤m) (e:∀ i,i < n→F i = .string (f i)):RowS w (some ⟨g,0,none⟩) g n f:=⟨fun _ => rfl,fun i hi => by rw [h.cell (by omega),e i hi],fun i _ => h.frozen i⟩
theorem RowS.set {w:World} {a:Option Addr} {g n:Nat} {f:Nat→ByteArray} (h:RowS w a g n f) (k:Nat) (s:ByteArray):RowS (w.setCell ⟨g,k,none⟩ (.string s)) a g n (fun i => if i = k then s else f i) :=
 ⟨h.a,fun i hi => by
  by_cases e:i = k
  ·subst e
   rw [if_pos rfl]
   exact World.cell?_setCell_same _ _ _ (h.c i hi)
  ·rw [if_neg e]
   exact (World.cell?_setCell_other _ ⟨g,k,none⟩ ⟨g,i,none⟩ _ (fun q => e (congrArg Addr.off q).symm)).trans (h.c i hi),fun i hi => by rw [World.frozen?_setCell]; exact h.z i hi⟩
theorem RowP.ofBlock {w w':World} {a:Option Addr} {g n:Nat} {A:Nat→Int} {D:Nat→ByteArray} (h:RowP w a g n A D) (e:0 < n→w'.heap[g]? = w.heap[g]?):RowP w' a g n A D :=
 ⟨h.a,fun i hi => by rw [cellOf (e (by omega))]; exact h.c i hi,fun i hi => by rw [cellOf (e (by omega))]; exact h.d i hi,fun i hi => by rw [frozenOf (e (by omega))]; exact h.z i hi⟩
theorem RowP.lt {w:World} {a:Option Addr} {g n:Nat} {A:Nat→Int} {D:Nat→ByteArray} (h:RowP w a g n A D) (hn:0 < n):g < w.heap.size:=strBlock (h.c 0 hn)
theorem RowP.below {w w':World} {a:Option Addr} {g n:Nat} {A:Nat→Int} {D:Nat→ByteArray} (h:RowP w a g n A D) (hb:Below w.heap.size w w'):RowP w' a g n A D:=h.ofBlock (fun hn => hb.block g (h.lt hn))
theorem RowP.onlyB {w w':World} {a:Option Addr} {g b n:Nat} {A:Nat→Int} {D:Nat→ByteArray} (h:RowP w a g n A D) (ho:OnlyB b w w') (hne:0 < n→g≠b):RowP w' a g n A D:=h.ofBlock (fun hn => ho.block g (h.lt hn) (hne hn))
theorem RowP.congr {w:World} {a:Option Addr} {g n:Nat} {A A':Nat→Int} {D D':Nat→ByteArray} (h:RowP w a g n A D) (e:∀ i,i < n→A i = A' i∧D i = D' i):RowP w a g n A' D':=⟨h.a,fun i hi => by rw [← (e i hi).1]; exact h.c i hi,fun i hi => by rw [← (e i hi).2]; exact h.d i hi,h.z⟩
theorem RowP.pens {w:World} {a:Option Addr} {g n:Nat} {A:Nat→Int} {D:Nat→ByteArray} (h:RowP w a g n A D):Pens w a n A D:=fun i hi => ⟨g,0,h.a (by omega),by rw [Nat.zero_add]; exact h.c i hi,by rw [Nat.zero_add]; exact h.d i hi⟩
theorem RowP.nil (w:World) (a:Option Addr) (g:Nat) (A:Nat→Int) (D:Nat→ByteArray):RowP w a g 0 A D:=⟨fun h => absurd h (by omega),fun i hi => absurd hi (by omega),fun i hi => absurd hi (by omega),fun i hi => absurd hi (by omega)⟩
structure RowD (w:World) (d:Dk) (a0 a1 a2:Option Addr) (g0 g1 g2:Nat):Prop where
 s0:RowS w a0 g0 d.nb d.B
 s1:RowP w a1 g1 d.nc d.A d.D
 s2:RowS w a2 g2 d.ns d.S
 n01:0 < d.nb→0 < d.nc→g0≠g1
 n02:0 < d.nb→0 < d.ns→g0≠g2
 n12:0 < d.nc→0 < d.ns→g1≠g2
theorem RowD.diskV {w:World} {d:Dk} {a0 a1 a2:Option Addr} {g0 g1 g2:Nat} (h:RowD w d a0 a1 a2 g0 g1 g2):DiskV w d a0 a1 a2:=⟨h.s0.strs,h.s1.pens,h.s2.strs⟩
theorem RowD.below {w w':World} {d:Dk} {a0 a1 a2:Option Addr} {g0 g1 g2:Nat} (h:RowD w d a0 a1 a2 g0 g1 g2) (hb:Below w.heap.size w w'):RowD w' d a0 a1 a2 g0 g1 g2:=⟨h.s0.below hb,h.s1.below hb,h.s2.below hb,h.n01,h.n02,h.n12⟩
def Turned (g n:Nat) (w w':World):Prop:=OnlyB g w w'∧(n = 0→Below w.heap.size w w')
theorem Turned.block {g n b:Nat} {w w':World} (h:Turned g n w w') (hb:b < w.heap.size) (hne:0 < n→b≠g):w'.heap[b]? = w.heap[b]?:=by
 rcases Nat.eq_zero_or_pos n with z | z
 ·exact (h.2 z).block b hb
 ·exact h.1.block b hb (hne z)
theorem Turned.toBelow {g n B:Nat} {w w':World} (h:Turned g n w w') (hB:0 < n→B≤g) (hw:B≤w.heap.size):Below B w w':=by
 rcases Nat.eq_zero_or_pos n with z | z
 ·exact (h.2 z).mono hw
 ·exact h.1.toBelow (hB z) hw
theorem RowS.turned {w w':World} {a:Option Addr} {g n b m:Nat} {f:Nat→ByteArray} (h:RowS w a g n f) (ho:Turned b m w w') (hne:0 < n→0 < m→g≠b):RowS w' a g n f:=h.ofBlock (fun hn => ho.block (h.lt hn) (hne hn))
theorem RowP.turned {w w':World} {a:Option Addr} {g n b m:Nat} {A:Nat→Int} {D:Nat→ByteArray} (h:RowP w a g n A D) (ho:Turned b m w w') (hne:0 < n→0 < m→g≠b):RowP w' a g n A D:=h.ofBlock (fun hn => ho.block (h.lt hn) (hne hn))
theorem Box3.turned {w w':World} {b g n:Nat} {t:TypeId} {x y z:Value} (h:Box3 w b t x y z) (ho:Turned g n w w') (hne:0 < n→b≠g):Box3 w' b t x y z:=h.ofBlock (ho.block h.lt hne)
def markK (d:Dk) (k:Nat):Dk:=⟨d.nb,fun i => mt (k + i),d.nc,fun i => ((k + d.nb + 2 * i:Nat):Int),fun i => mt (k + d.nb + 2 * i + 1),d.ns,fun i => mt (k + d.nb + 2 * d.nc + i)⟩
set_option maxRecDepth 100000 in
set_option maxHeartbeats 1000000 in
theorem markStrK (a:Option Addr) (g n c k:Nat) (f:Nat→ByteArray) (hk:1≤k) (hn:k + n≤10000000) (w:World) (h:RowS w a g n f) :
  Calls Tryz.prog 16 #[.slice a n c,.int .i64 (k:Int)] w fun e w' => e = .returned (.int .i64 ((k + n:Nat):Int))∧RowS w' a g n (fun i => mt (k + i))∧Turned g n w w':=by
 have H:Hid (RowS w a g n f):=h
 clear h
 go_enter Tryz.func16,Tryz.ntmps16
 go_wp2
 go_loopw [1,5] (fun kv i wr => ∃ q:Nat,q≤n∧i = .int .i64 q∧kv = .int .i64 ((k + q:Nat):Int)∧RowS wr a g n (fun i => if i < q then mt (k + i) else f i)∧Turned g n w wr) (fun _ i _ => n - (intOf i).toNat)
 case atStart => exact ⟨0,by omega,rfl,rfl,H.out.congr (fun j hj => by rw [if_neg (by omega)]),OnlyB.refl _ _,fun _ => Below.refl _ _⟩
 case round =>
  obtain ⟨q,hq,rfl,rfl,hrow,ho⟩:=hrel
  by_cases hlt:q < n
  ·have MT:Hid (∀ w:World,Calls Tryz.prog 30 #[.int .i64 ((k + q:Nat):Int)] w fun e w' => e = .returned (.string (mt (k + q)))∧Below w.heap.size w w'):=markText_any (k + q) (by omega) (by omega)
   have HRW:Hid (RowS wr a g n (fun i => if i < q then mt (k + i) else f i)):=hrow
   have HO:Hid (OnlyB g w wr):=ho.1
   have hlt':(q:Int) < (n:Int):=by omega
   obtain rfl:=hrow.a (by omega)
   clear hrow ho
   go_wp2_with fail
   refine (MT.out _).mono ?_
   rintro e w1 ⟨rfl,hb⟩
   have hrow:=HRW.out.below hb
   have g1:=hrow.c q hlt
   rw [if_neg (by omega)] at g1
   have f1:=hrow.z q hlt
   have HR1:Hid (RowS w1 (some ⟨g,0,none⟩) g n (fun i => if i < q then mt (k + i) else f i)):=hrow
   have HO1:Hid (OnlyB g w w1):=HO.out.below hb
   clear hrow hb HRW HO MT
   go_wp2
   go_roundw
   case rel =>
    refine ⟨q + 1,by omega,by go_num,by go_num,?_,HO1.out.setCell _ _,fun z => absurd z (by omega)⟩
    exact (HR1.out.set q _).congr (fun j hj => by
     by_cases e:j = q
     ·subst e; rw [if_pos rfl,if_pos (by omega)]
     ·rw [if_neg e]
      by_cases h1:j < q
      ·rw [if_pos h1,if_pos (by omega)]
      ·rw [if_neg h1,if_neg (by omega)])
   case measure => simp [intOf]; omega
  ·obtain rfl:q = n:=by omega
   have HF:Hid (RowS wr a g q (fun i => mt (k + i))):=hrow.congr (fun j hj => by rw [if_pos hj])
   have HO:Hid (Turned g q w wr):=ho
   clear hrow ho
   go_wp2
   go_ret
   exact ⟨rfl,HF.out,HO.out⟩
set_option maxRecDepth 100000 in
set_option maxHeartbeats 1000000 in
theorem heldStrK (a:Option Addr) (n c k:Nat) (hk:1≤k) (hn:k + n≤10000000) (w:World) (h:Strs w a n (fun i => mt (k + i))) :
  Calls Tryz.prog 18 #[.slice a n c,.int .i64 (k:Int)] w fun e w' => e = .returned (.int .i64 ((k + n:Nat):Int))∧Below w.heap.size w w':=by
 have H:Hid (Strs w a n (fun i => mt (k + i))):=h
 clear h
 go_enter Tryz.func18,Tryz.ntmps18
 go_wp2
 go_loopw [1,5] (fun kv i wr => ∃ q:Nat,q≤n∧i = .int .i64 q∧kv = .int .i64 ((k + q:Nat):Int)∧Below w.heap.size w wr) (fun _ i _ => n - (intOf i).toNat)
 case atStart => exact ⟨0,by omega,rfl,rfl,Below.refl _ _⟩
 case round =>
  obtain ⟨q,hq,rfl,rfl,hb⟩:=hrel
  have HB:Hid (Below w.heap.size w wr):=hb
  by_cases hlt:q < n
  ·obtain ⟨b,off,rfl,hc⟩:=(H.out.below hb).opened (by omega)
   have c1:=hc q hlt
   have hlt':(q:Int) < (n:Int):=by omega
   have MT:Hid (∀ w:World,Calls Tryz.prog 30 #[.int .i64 ((k + q:Nat):Int)] w fun e w' => e = .returned (.string (mt (k + q)))∧Below w.heap.size w w'):=markText_any (k + q) (by omega) (by omega)
   generalize mt (k + q) = V at *
   have c1d:Hid (wr.drew.cell? ⟨b,off + q,none⟩ = some (.string V)):=c1
   clear hc hb
   go_wp2_with fail
   go_region_with (go_at_call 30; refine (MT.out _).mono ?_; rintro e w' ⟨rfl,hb⟩; have c2:w'.cell? ⟨b,off + q,none⟩ = some (.string V):=(hb.cell (strBlock c1d.out)).trans c1d.out)
   all_goals
    have B1:Hid (Below w.heap.size w w'):=HB.out.drew.trans (hb.mono HB.out.size)
    clear hb HB MT c1 c1d
    dsimp only [Act.put]
    go_wp2
    go_roundw
    case rel => exact ⟨q + 1,by omega,by go_num,by go_num,B1.out⟩
    case measure => simp [intOf]; omega
  ·obtain rfl:q = n:=by omega
   clear hb
   go_wp2
   go_ret
   exact ⟨rfl,HB.out⟩
set_option maxRecDepth 100000 in
set_option maxHeartbeats 1000000 in
theorem markPenK (a:Option Addr) (g n c k:Nat) (A:Nat→Int) (D:Nat→ByteArray) (hk:1≤k) (hn:k + 2 * n≤10000000) (w:World) (h:RowP w a g n A D) :
  Calls Tryz.prog 17 #[.slice a n c,.int .i64 (k:Int)] w fun e w' => e = .returned (.int .i64 ((k + 2 * n:Nat):Int))∧RowP w' a g n (fun i => ((k + 2 * i:Nat):Int)) (fun i => mt (k + 2 * i + 1))∧Turned g n w w':=by
 have H:Hid (RowP w a g n A D):=h
 clear h
 go_enter Tryz.func17,Tryz.ntmps17
 go_wp2
 go_loopw [1,5] (fun kv i wr => ∃ q:Nat,q≤n∧i = .int .i64 q∧kv = .int .i64 ((k + 2 * q:Nat):Int)∧RowP wr a g n (fun i => if i < q then ((k + 2 * i:Nat):Int) else A i) (fun i => if i < q then mt (k + 2 * i + 1) else D i)∧Turned g n w wr) (fun _ i _ => n - (intOf i).toNat)
 case atStart => exact ⟨0,by omega,rfl,rfl,H.out.congr (fun j hj => by rw [if_neg (by omega),if_neg (by omega)]; exact ⟨rfl,rfl⟩),OnlyB.refl _ _,fun _ => Below.refl _ _⟩
 case round =>
  obtain ⟨q,hq,rfl,rfl,hrow,ho⟩:=hrel
  by_cases hlt:q < n
  ·obtain ⟨m,hm⟩:∃ m,m = k + 2 * q:=⟨_,rfl⟩
   have MT:Hid (∀ w:World,Calls Tryz.prog 30 #[.int .i64 ((m:Int) + 1)] w fun e w' => e = .returned (.string (mt (m + 1)))∧Below w.heap.size w w'):=fun w => by
    have:=markText_any (m + 1) (by omega) (by omega) w
    rwa [show ((m + 1:Nat):Int) = (m:Int) + 1 from by omega] at this
   rw [← hm]
   have hlt':(q:Int) < (n:Int):=by omega
   obtain rfl:=hrow.a (by omega)
   have c1:=hrow.c q hlt
   have d1:=hrow.d q hlt
   rw [if_neg (by omega)] at c1 d1
   have f0:=hrow.z (q * 2) (by omega)
   have f1:=hrow.z (q * 2 + 1) (by omega)
   have HRW:Hid (RowP wr (some ⟨g,0,none⟩) g n (fun i => if i < q then ((k + 2 * i:Nat):Int) else A i) (fun i => if i < q then mt (k + 2 * i + 1) else D i)):=hrow
   have HO:Hid (OnlyB g w wr):=ho.1
   have HM:Hid (m = k + 2 * q):=hm
   have m1:(m:Int)≤10000000:=by omega
   have m0:(0:Int)≤(m:Int):=by omega
   clear hrow ho hm
   go_wp2_with fail
   have c2:(wr.setCell ⟨g,q * 2,none⟩ (.int .i64 (m:Int))).cell? ⟨g,q * 2 + 1,none⟩ = some (.string (D q)):=(World.cell?_setCell_other _ ⟨g,q * 2,none⟩ ⟨g,q * 2 + 1,none⟩ _ (fun q => by have:=congrArg Addr.off q; simp at this)).trans d1
   have f2:(wr.setCell ⟨g,q * 2,none⟩ (.int .i64 (m:Int))).frozen? ⟨g,q * 2 + 1,none⟩ = false:=by rw [World.frozen?_setCell]; exact f1
   have SZ:(wr.setCell ⟨g,q * 2,none⟩ (.int .i64 (m:Int))).heap.size = wr.heap.size:=by simp
   refine (MT.out _).mono ?_
   rintro e w1 ⟨rfl,hb⟩
   have c3:w1.cell? ⟨g,q * 2 + 1,none⟩ = some (.string (D q)):=(hb.cell (strBlock c2)).trans c2
   have f3:w1.frozen? ⟨g,q * 2 + 1,none⟩ = false:=(hb.frozen (p:=⟨g,q * 2 + 1,none⟩) (strBlock c2)).trans f2
   have HO1:Hid (OnlyB g w w1):=(HO.out.setCell (q * 2) (.int .i64 (m:Int))).below hb
   have HR1:Hid (RowP (w1.setCell ⟨g,q * 2 + 1,none⟩ (.string (mt (m + 1)))) (some ⟨g,0,none⟩) g n (fun i => if i < q + 1 then ((k + 2 * i:Nat):Int) else A i) (fun i => if i < q + 1 then mt (k + 2 * i + 1) else D i)):=by
    have h1:RowP w1 (some ⟨g,0,none⟩) g n (fun i => if i = q then (m:Int) else (if i < q then ((k + 2 * i:Nat):Int) else A i)) (fun i => if i < q then mt (k + 2 * i + 1) else D i):=by
     have h0:=HRW.out
     refine RowP.below (w:=wr.setCell ⟨g,q * 2,none⟩ (.int .i64 (m:Int))) ⟨h0.a,fun i hi => ?_,fun i hi => ?_,fun i hi => by rw [World.frozen?_setCell]; exact h0.z i hi⟩ hb
     ·by_cases e:i = q
      ·subst e
       rw [if_pos rfl]
       exact World.cell?_setCell_same _ _ _ (h0.c i hi)
      ·rw [if_neg e]
       exact (World.cell?_setCell_other _ ⟨g,q * 2,none⟩ ⟨g,i * 2,none⟩ _ (fun q => by have:=congrArg Addr.off q; simp at this; omega)).trans (h0.c i hi)
     ·exact (World.cell?_setCell_other _ ⟨g,q * 2,none⟩ ⟨g,i * 2 + 1,none⟩ _ (fun q => by have:=congrArg Addr.off q; simp at this; omega)).trans (h0.d i hi)
    refine ⟨h1.a,fun i hi => ?_,fun i hi => ?_,fun i hi => by rw [World.frozen?_setCell]; exact h1.z i hi⟩
    ·refine (World.cell?_setCell_other _ ⟨g,q * 2 + 1,none⟩ ⟨g,i * 2,none⟩ _ (fun q => by have:=congrArg Addr.off q; simp at this; omega)).trans ((h1.c i hi).trans ?_)
     have:=HM.out
     by_cases e:i = q
     ·subst e; rw [if_pos rfl,if_pos (by omega),this]
     ·rw [if_neg e]
      by_cases l:i < q
      ·rw [if_pos l,if_pos (by omega)]
      ·rw [if_neg l,if_neg (by omega)]
    ·by_cases e:i = q
     ·subst e
      rw [if_pos (by omega)]
      have:=World.cell?_setCell_same w1 ⟨g,i * 2 + 1,none⟩ (.string (mt (m + 1))) (h1.d i hi)
      rw [this,HM.out]
     ·refine (World.cell?_setCell_other _ ⟨g,q * 2 + 1,none⟩ ⟨g,i * 2 + 1,none⟩ _ (fun q => by have:=congrArg Addr.off q; simp at this; omega)).trans ((h1.d i hi).trans ?_)
      by_cases l:i < q
      ·rw [if_pos l,if_pos (by omega)]
      ·rw [if_neg l,if_neg (by omega)]
   have HO2:Hid (OnlyB g w (w1.setCell ⟨g,q * 2 + 1,none⟩ (.string (mt (m + 1))))):=HO1.out.setCell _ _
   generalize mt (m + 1) = V at *
   clear hb c1 d1 c2 f0 f1 f2 SZ HRW HO HO1 MT
   go_wp2
   go_roundw
   case rel =>
    have:=HM.out
    refine ⟨q + 1,by omega,by go_num,numEqS (by omega),HR1.out,HO2.out,fun z => absurd z (by omega)⟩
   case measure => simp [intOf]; omega
  ·obtain rfl:q = n:=by omega
   have HF:Hid (RowP wr a g q (fun i => ((k + 2 * i:Nat):Int)) (fun i => mt (k + 2 * i + 1))):=hrow.congr (fun j hj => by rw [if_pos hj,if_pos hj]; exact ⟨rfl,rfl⟩)
   have HO:Hid (Turned g q w wr):=ho
   clear hrow ho
   go_wp2
   go_ret
   exact ⟨rfl,HF.out,HO.out⟩
set_option maxRecDepth 100000 in
set_option maxHeartbeats 1000000 in
theorem heldPenK (a:Option Addr) (n c k:Nat) (hk:1≤k) (hn:k + 2 * n≤10000000) (w:World) (h:Pens w a n (fun i => ((k + 2 * i:Nat):Int)) (fun i => mt (k + 2 * i + 1))) :
  Calls Tryz.prog 19 #[.slice a n c,.int .i64 (k:Int)] w fun e w' => e = .returned (.int .i64 ((k + 2 * n:Nat):Int))∧Below w.heap.size w w':=by
 have H:Hid (Pens w a n (fun i => ((k + 2 * i:Nat):Int)) (fun i => mt (k + 2 * i + 1))):=h
 clear h
 go_enter Tryz.func19,Tryz.ntmps19
 go_wp2
 go_loopw [1,5] (fun kv i wr => ∃ q:Nat,q≤n∧i = .int .i64 q∧kv = .int .i64 ((k + 2 * q:Nat):Int)∧Below w.heap.size w wr) (fun _ i _ => n - (intOf i).toNat)
 case atStart => exact ⟨0,by omega,rfl,rfl,Below.refl _ _⟩
 case round =>
  obtain ⟨q,hq,rfl,rfl,hb⟩:=hrel
  have HB:Hid (Below w.heap.size w wr):=hb
  by_cases hlt:q < n
  ·obtain ⟨b,off,rfl,hc⟩:=(H.out.below hb).opened (by omega)
   obtain ⟨c1,d1⟩:=hc q hlt
   have hlt':(q:Int) < (n:Int):=by omega
   obtain ⟨m,hm⟩:∃ m,m = k + 2 * q:=⟨_,rfl⟩
   have MT:Hid (∀ w:World,Calls Tryz.prog 30 #[.int .i64 ((m:Int) + 1)] w fun e w' => e = .returned (.string (mt (m + 1)))∧Below w.heap.size w w'):=fun w => by
    have:=markText_any (m + 1) (by omega) (by omega) w
    rwa [show ((m + 1:Nat):Int) = (m:Int) + 1 from by omega] at this
   rw [← hm] at c1 d1 ⊢
   generalize mt (m + 1) = V at *
   have HM:Hid (m = k + 2 * q):=hm
   have m1:(m:Int)≤10000000:=by omega
   have m0:(0:Int)≤(m:Int):=by omega
   have er:((m:Int) != (m:Int)) = false:=by simp
   have c1d:Hid (wr.drew.cell? ⟨b,off + q * 2 + 1,none⟩ = some (.string V)):=d1
   clear hc hb hm
   go_wp2_with fail
   go_region_with (go_at_call 30; refine (MT.out _).mono ?_; rintro e w' ⟨rfl,hb⟩; have c2:w'.cell? ⟨b,off + q * 2 + 1,none⟩ = some (.string V):=(hb.cell (strBlock c1d.out)).trans c1d.out)
   all_goals
    have B1:Hid (Below w.heap.size w w'):=HB.out.drew.trans (hb.mono HB.out.size)
    clear hb HB MT c1 d1 c1d
    dsimp only [Act.put]
    go_wp2
    go_roundw
    case rel =>
     have:=HM.out
     exact ⟨q + 1,by omega,by go_num,numEqS (by omega),B1.out⟩
    case measure => simp [intOf]; omega
  ·obtain rfl:q = n:=by omega
   clear hb
   go_wp2
   go_ret
   exact ⟨rfl,HB.out⟩
def KeepG (w w':World) (d:Dk) (g0 g1 g2:Nat):Prop:=∀ b,b < w.heap.size→(0 < d.nb→b≠g0)→(0 < d.nc→b≠g1)→(0 < d.ns→b≠g2)→w'.heap[b]? = w.heap[b]?
set_option maxRecDepth 100000 in
set_option maxHeartbeats 2000000 in
theorem markDisk_any (B:Nat) (d:Dk) (a0 a1 a2:Option Addr) (c0 c1 c2 g0 g1 g2 k:Nat) (hk:1≤k) (hn:k + d.nb + 2 * d.nc + d.ns≤10000000) (hB:(0 < d.nb→B≤g0)∧(0 < d.nc→B≤g1)∧(0 < d.ns→B≤g2)) (w:World) (hw:B≤w.heap.size) (h:RowD w d a0 a1 a2 g0 g1 g2) :
  Calls Tryz.prog 7 #[.agg #[.slice a0 d.nb c0,.slice a1 d.nc c1,.slice a2 d.ns c2],.int .i64 (k:Int)] w fun e w' => e = .returned (.int .i64 ((k + d.nb + 2 * d.nc + d.ns:Nat):Int))∧RowD w' (markK d k) a0 a1 a2 g0 g1 g2∧KeepG w w' d g0 g1 g2∧Below B w w':=by
 have HBB:Hid ((0 < d.nb→B≤g0)∧(0 < d.nc→B≤g1)∧(0 < d.ns→B≤g2)):=hB
 have S0:Hid (∀ w:World,RowS w a0 g0 d.nb d.B→Calls Tryz.prog 16 #[.slice a0 d.nb c0,.int .i64 (k:Int)] w fun e w' => e = .returned (.int .i64 ((k + d.nb:Nat):Int))∧RowS w' a0 g0 d.nb (fun i => mt (k + i))∧Turned g0 d.nb w w'):=fun w h => markStrK a0 g0 d.nb c0 k d.B hk (by omega) w h
 have S1:Hid (∀ w:World,RowP w a1 g1 d.nc d.A d.D→Calls Tryz.prog 17 #[.slice a1 d.nc c1,.int .i64 ((k + d.nb:Nat):Int)] w fun e w' => e = .returned (.int .i64 ((k + d.nb + 2 * d.nc:Nat):Int))∧RowP w' a1 g1 d.nc (fun i => ((k + d.nb + 2 * i:Nat):Int)) (fun i => mt (k + d.nb + 2 * i + 1))∧Turned g1 d.nc w w'):=fun w h => markPenK a1 g1 d.nc c1 (k + d.nb) d.A d.D (by omega) (by omega) w h
 have S2:Hid (∀ w:World,RowS w a2 g2 d.ns d.S→Calls Tryz.prog 16 #[.slice a2 d.ns c2,.int .i64 ((k + d.nb + 2 * d.nc:Nat):Int)] w fun e w' => e = .returned (.int .i64 ((k + d.nb + 2 * d.nc + d.ns:Nat):Int))∧RowS w' a2 g2 d.ns (fun i => mt (k + d.nb + 2 * d.nc + i))∧Turned g2 d.ns w w'):=fun w h => markStrK a2 g2 d.ns c2 (k + d.nb + 2 * d.nc) d.S (by omega) (by omega) w h
 have A1:Hid (Below w.heap.size w (w.alloc (.cells #[.slice a0 d.nb c0,.slice a1 d.nc c1,.slice a2 d.ns c2] 25))):=(Below.refl w.heap.size w).alloc (Nat.le_refl _) _
 have RA:Hid (Box3 (w.alloc (.cells #[.slice a0 d.nb c0,.slice a1 d.nc c1,.slice a2 d.ns c2] 25)) w.heap.size 25 (.slice a0 d.nb c0) (.slice a1 d.nc c1) (.slice a2 d.ns c2)):=Box3.made w _ _ _ _
 have H0:=h.below A1.out
 have HN:Hid ((0 < d.nb→0 < d.nc→g0≠g1)∧(0 < d.nb→0 < d.ns→g0≠g2)∧(0 < d.nc→0 < d.ns→g1≠g2)):=⟨h.n01,h.n02,h.n12⟩
 have hx0:0 < d.nb→g0 < w.heap.size:=fun q => h.s0.lt q
 have hx1:0 < d.nc→g1 < w.heap.size:=fun q => h.s1.lt q
 have hx2:0 < d.ns→g2 < w.heap.size:=fun q => h.s2.lt q
 have HXX:Hid ((0 < d.nb→g0 < w.heap.size)∧(0 < d.nc→g1 < w.heap.size)∧(0 < d.ns→g2 < w.heap.size)):=⟨hx0,hx1,hx2⟩
 have T0:Hid (RowS (w.alloc (.cells #[.slice a0 d.nb c0,.slice a1 d.nc c1,.slice a2 d.ns c2] 25)) a0 g0 d.nb d.B):=H0.s0
 have T1:Hid (RowP (w.alloc (.cells #[.slice a0 d.nb c0,.slice a1 d.nc c1,.slice a2 d.ns c2] 25)) a1 g1 d.nc d.A d.D):=H0.s1
 have T2:Hid (RowS (w.alloc (.cells #[.slice a0 d.nb c0,.slice a1 d.nc c1,.slice a2 d.ns c2] 25)) a2 g2 d.ns d.S):=H0.s2
 have BB:Hid (Below B w (w.alloc (.cells #[.slice a0 d.nb c0,.slice a1 d.nc c1,.slice a2 d.ns c2] 25))):=A1.out.mono hw
 have SZ:w.heap.size≤(w.alloc (.cells #[.slice a0 d.nb c0,.slice a1 d.nc c1,.slice a2 d.ns c2] 25)).heap.size:=A1.out.size
 have KG:Hid (KeepG w (w.alloc (.cells #[.slice a0 d.nb c0,.slice a1 d.nc c1,.slice a2 d.ns c2] 25)) d g0 g1 g2):=fun b hb _ _ _ => A1.out.block b hb
 clear h H0 A1 hx0 hx1 hx2 hB
 go_enter Tryz.func7,Tryz.ntmps7
 go_wp2_with fail
 generalize (w.alloc (.cells #[.slice a0 d.nb c0,.slice a1 d.nc c1,.slice a2 d.ns c2] 25)) = v at *
 refine (S0.out _ T0.out).mono ?_
 rintro e w1 ⟨rfl,hr,ho⟩
 have F0:Hid (RowS w1 a0 g0 d.nb (fun i => mt (k + i))):=hr
 replace T1:Hid (RowP w1 a1 g1 d.nc d.A d.D):=T1.out.turned ho (fun q z e => HN.out.1 z q e.symm)
 replace T2:Hid (RowS w1 a2 g2 d.ns d.S):=T2.out.turned ho (fun q z e => HN.out.2.1 z q e.symm)
 replace RA:Hid (Box3 w1 w.heap.size 25 (.slice a0 d.nb c0) (.slice a1 d.nc c1) (.slice a2 d.ns c2)):=RA.out.turned ho (fun z e => by have:=HXX.out.1 z; omega)
 replace KG:Hid (KeepG w w1 d g0 g1 g2):=fun b hb q0 q1 q2 => (ho.block (Nat.lt_of_lt_of_le hb SZ) q0).trans (KG.out b hb q0 q1 q2)
 replace BB:Hid (Below B w w1):=BB.out.trans (ho.toBelow HBB.out.1 (Nat.le_trans hw SZ))
 replace SZ:w.heap.size≤w1.heap.size:=Nat.le_trans SZ ho.1.size
 have k1:=RA.out.c1
 clear hr ho S0 T0
 generalize hx:k + d.nb = K1 at *
 go_wp2_with fail
 refine (S1.out _ T1.out).mono ?_
 rintro e w2 ⟨rfl,hr,ho⟩
 have F1:Hid (RowP w2 a1 g1 d.nc (fun i => ((K1 + 2 * i:Nat):Int)) (fun i => mt (K1 + 2 * i + 1))):=hr
 replace F0:Hid (RowS w2 a0 g0 d.nb (fun i => mt (k + i))):=F0.out.turned ho (fun q z e => HN.out.1 q z e)
 replace T2:Hid (RowS w2 a2 g2 d.ns d.S):=T2.out.turned ho (fun q z e => HN.out.2.2 z q e.symm)
 replace RA:Hid (Box3 w2 w.heap.size 25 (.slice a0 d.nb c0) (.slice a1 d.nc c1) (.slice a2 d.ns c2)):=RA.out.turned ho (fun z e => by have:=HXX.out.2.1 z; omega)
 replace KG:Hid (KeepG w w2 d g0 g1 g2):=fun b hb q0 q1 q2 => (ho.block (Nat.lt_of_lt_of_le hb SZ) q1).trans (KG.out b hb q0 q1 q2)
 replace BB:Hid (Below B w w2):=BB.out.trans (ho.toBelow HBB.out.2.1 (Nat.le_trans hw SZ))
 replace SZ:w.heap.size≤w2.heap.size:=Nat.le_trans SZ ho.1.size
 have k2:=RA.out.c2
 clear hr ho S1 T1 k1
 generalize hy:K1 + 2 * d.nc = K2 at *
 go_wp2_with fail
 refine (S2.out _ T2.out).mono ?_
 rintro e w3 ⟨rfl,hr,ho⟩
 have F2:RowS w3 a2 g2 d.ns (fun i => mt (K2 + i)):=hr
 have F1':=F1.out.turned ho (fun q z e => HN.out.2.2 q z e)
 have F0':=F0.out.turned ho (fun q z e => HN.out.2.1 q z e)
 replace KG:Hid (KeepG w w3 d g0 g1 g2):=fun b hb q0 q1 q2 => (ho.block (Nat.lt_of_lt_of_le hb SZ) q2).trans (KG.out b hb q0 q1 q2)
 replace BB:Hid (Below B w w3):=BB.out.trans (ho.toBelow HBB.out.2.2 (Nat.le_trans hw SZ))
 have FD:Hid (RowD w3 (markK d k) a0 a1 a2 g0 g1 g2):=by
  subst hy
  subst hx
  exact ⟨F0',F1',F2,HN.out.1,HN.out.2.1,HN.out.2.2⟩
 clear hr ho S2 T2 k2 F0 F1 F2 F0' F1' RA
 generalize hz:K2 + d.ns = K3 at *
 go_wp2
 go_ret
 exact ⟨by rw [← hz,← hy,← hx]; rfl,FD.out,KG.out,BB.out⟩
set_option maxRecDepth 100000 in
set_option maxHeartbeats 2000000 in
theorem heldDisk_yes (d:Dk) (a0 a1 a2:Option Addr) (c0 c1 c2 k:Nat) (hk:1≤k) (hn:k + d.nb + 2 * d.nc + d.ns≤10000000) (w:World) (h:DiskV w (markK d k) a0 a1 a2) :
  Calls Tryz.prog 8 #[.agg #[.slice a0 d.nb c0,.slice a1 d.nc c1,.slice a2 d.ns c2],.int .i64 (k:Int)] w fun e w' => e = .returned (.int .i64 ((k + d.nb + 2 * d.nc + d.ns:Nat):Int))∧Below w.heap.size w w':=by
 have S0:Hid (∀ w:World,Strs w a0 d.nb (fun i => mt (k + i))→Calls Tryz.prog 18 #[.slice a0 d.nb c0,.int .i64 (k:Int)] w fun e w' => e = .returned (.int .i64 ((k + d.nb:Nat):Int))∧Below w.heap.size w w'):=fun w h => heldStrK a0 d.nb c0 k hk (by omega) w h
 have S1:Hid (∀ w:World,Pens w a1 d.nc (fun i => ((k + d.nb + 2 * i:Nat):Int)) (fun i => mt (k + d.nb + 2 * i + 1))→Calls Tryz.prog 19 #[.slice a1 d.nc c1,.int .i64 ((k + d.nb:Nat):Int)] w fun e w' => e = .returned (.int .i64 ((k + d.nb + 2 * d.nc:Nat):Int))∧Below w.heap.size w w'):=fun w h => heldPenK a1 d.nc c1 (k + d.nb) (by omega) (by omega) w h
 have S2:Hid (∀ w:World,Strs w a2 d.ns (fun i => mt (k + d.nb + 2 * d.nc + i))→Calls Tryz.prog 18 #[.slice a2 d.ns c2,.int .i64 ((k + d.nb + 2 * d.nc:Nat):Int)] w fun e w' => e = .returned (.int .i64 ((k + d.nb + 2 * d.nc + d.ns:Nat):Int))∧Below w.heap.size w w'):=fun w h => heldStrK a2 d.ns c2 (k + d.nb + 2 * d.nc) (by omega) (by omega) w h
 have A1:Hid (Below w.heap.size w (w.alloc (.cells #[.slice a0 d.nb c0,.slice a1 d.nc c1,.slice a2 d.ns c2] 25))):=(Below.refl w.heap.size w).alloc (Nat.le_refl _) _
 have RA:Hid (Box3 (w.alloc (.cells #[.slice a0 d.nb c0,.slice a1 d.nc c1,.slice a2 d.ns c2] 25)) w.heap.size 25 (.slice a0 d.nb c0) (.slice a1 d.nc c1) (.slice a2 d.ns c2)):=Box3.made w _ _ _ _
 have H0:Hid (Strs w a0 d.nb (fun i => mt (k + i))):=h.1
 have H1:Hid (Pens w a1 d.nc (fun i => ((k + d.nb + 2 * i:Nat):Int)) (fun i => mt (k + d.nb + 2 * i + 1))):=h.2.1
 have H2:Hid (Strs w a2 d.ns (fun i => mt (k + d.nb + 2 * d.nc + i))):=h.2.2
 clear h
 go_enter Tryz.func8,Tryz.ntmps8
 go_wp2_with fail
 generalize (w.alloc (.cells #[.slice a0 d.nb c0,.slice a1 d.nc c1,.slice a2 d.ns c2] 25)) = v at *
 refine (S0.out _ (H0.out.below A1.out)).mono ?_
 rintro e w1 ⟨rfl,hb⟩
 replace A1:Hid (Below w.heap.size w w1):=A1.out.trans (hb.mono A1.out.size)
 replace RA:Hid (Box3 w1 w.heap.size 25 (.slice a0 d.nb c0) (.slice a1 d.nc c1) (.slice a2 d.ns c2)):=RA.out.below hb
 have k1:=RA.out.c1
 clear hb S0 H0
 generalize hx:k + d.nb = K1 at *
 have q1:¬ (K1:Int) < 0:=by omega
 go_wp2_with fail
 refine (S1.out _ (H1.out.below A1.out)).mono ?_
 rintro e w2 ⟨rfl,hb⟩
 replace A1:Hid (Below w.heap.size w w2):=A1.out.trans (hb.mono A1.out.size)
 replace RA:Hid (Box3 w2 w.heap.size 25 (.slice a0 d.nb c0) (.slice a1 d.nc c1) (.slice a2 d.ns c2)):=RA.out.below hb
 have k2:=RA.out.c2
 clear hb S1 H1 k1
 generalize hy:K1 + 2 * d.nc = K2 at *
 have q2:¬ (K2:Int) < 0:=by omega
 go_wp2_with fail
 refine (S2.out _ (H2.out.below A1.out)).mono ?_
 rintro e w3 ⟨rfl,hb⟩
 replace A1:Hid (Below w.heap.size w w3):=A1.out.trans (hb.mono A1.out.size)
 clear hb S2 H2 k2 RA
 generalize hz:K2 + d.ns = K3 at *
 have q3:¬ (K3:Int) < 0:=by omega
 go_wp2
 go_ret
 exact ⟨by rw [← hz,← hy,← hx]; rfl,A1.out⟩
theorem RowD.ofBlocks {w w':World} {d:Dk} {a0 a1 a2:Option Addr} {g0 g1 g2:Nat} (h:RowD w d a0 a1 a2 g0 g1 g2) (e0:0 < d.nb→w'.heap[g0]? = w.heap[g0]?) (e1:0 < d.nc→w'.heap[g1]? = w.heap[g1]?) (e2:0 < d.ns→w'.heap[g2]? = w.heap[g2]?):RowD w' d a0 a1 a2 g0 g1 g2:=⟨h.s0.ofBlock e0,h.s1.ofBlock e1,h.s2.ofBlock e2,h.n01,h.n02,h.n12⟩
def LtD (d:Dk) (g0 g1 g2 n:Nat):Prop:=(0 < d.nb→g0 < n)∧(0 < d.nc→g1 < n)∧(0 < d.ns→g2 < n)
def GeD (d:Dk) (g0 g1 g2 n:Nat):Prop:=(0 < d.nb→n≤g0)∧(0 < d.nc→n≤g1)∧(0 < d.ns→n≤g2)
theorem RowD.ltD {w:World} {d:Dk} {a0 a1 a2:Option Addr} {g0 g1 g2:Nat} (h:RowD w d a0 a1 a2 g0 g1 g2):LtD d g0 g1 g2 w.heap.size:=⟨fun q => h.s0.lt q,fun q => h.s1.lt q,fun q => h.s2.lt q⟩
theorem RowD.keepG {w w':World} {d k:Dk} {a0 a1 a2:Option Addr} {g0 g1 g2 f0 f1 f2 n:Nat} (h:RowD w d a0 a1 a2 g0 g1 g2) (hk:KeepG w w' k f0 f1 f2) (hl:LtD d g0 g1 g2 n) (hg:GeD k f0 f1 f2 n):RowD w' d a0 a1 a2 g0 g1 g2 :=
 h.ofBlocks (fun q => hk g0 (h.s0.lt q) (fun z => by have:=hl.1 q; have:=hg.1 z; omega) (fun z => by have:=hl.1 q; have:=hg.2.1 z; omega) (fun z => by have:=hl.1 q; have:=hg.2.2 z; omega)) (fun q => hk g1 (h.s1.lt q) (fun z => by have:=hl.2.1 q; have:=hg.1 z; omega) (fun z => by have:=hl.2.1 q; have:=hg.2.1 z; omega) (fun z => by have:=hl.2.1 q; have:=hg.2.2 z; omega)) (fun q => hk g2 (h.s2.lt q) (fun z => by have:=hl.2.2 q; have:=hg.1 z; omega) (fun z => by have:=hl.2.2 q; have:=hg.2.1 z; omega) (fun z => by have:=hl.2.2 q; have:=hg.2.2 z; omega))
theorem Box3.keepLow {w w':World} {b n:Nat} {t:TypeId} {x y z:Value} {k:Dk} {f0 f1 f2:Nat} (h:Box3 w b t x y z) (hk:KeepG w w' k f0 f1 f2) (hb:b < n) (hg:GeD k f0 f1 f2 n):Box3 w' b t x y z:=h.ofBlock (hk b h.lt (fun z => by have:=hg.1 z; omega) (fun z => by have:=hg.2.1 z; omega) (fun z => by have:=hg.2.2 z; omega))
theorem Box3.keepHigh {w w':World} {b:Nat} {t:TypeId} {x y z:Value} {k:Dk} {f0 f1 f2:Nat} (h:Box3 w b t x y z) (hk:KeepG w w' k f0 f1 f2) (hg:LtD k f0 f1 f2 b):Box3 w' b t x y z:=h.ofBlock (hk b h.lt (fun z => by have:=hg.1 z; omega) (fun z => by have:=hg.2.1 z; omega) (fun z => by have:=hg.2.2 z; omega))
end Go.Proofs.YtcpjeopnhgoonaaGreatDoor
