/-
  Texts of the proof, joined.
-/
import Derived.Maps.AppendAt
import Derived.Test.YtcpjeopnhgoonaaGreatDoorF17
namespace Go.Proofs.YtcpjeopnhgoonaaGreatDoor
open Go.ChangeShapes Go.WideShapes Go.ChangeAt Go.RowKit
set_option linter.unusedVariables false
def lv (L:List Nat):List Value:=L.map fun b => .int .u8 ((b:Nat):Int)
theorem lv_append (L N:List Nat):lv (L ++ N) = lv L ++ lv N:=List.map_append
theorem lv_length (L:List Nat):(lv L).length = L.length:=List.length_map _
def RL (w:World) (B g c:Nat) (L:List Nat):Prop:=w.ownsRow B 5 1 (.slice (some ⟨g,0,none⟩) L.length c) L.length (lv L)
theorem RL.cell {w:World} {B g c:Nat} {L:List Nat} (h:RL w B g c L) (i:Nat) (hi:i < L.length):w.cell? ⟨g,i,none⟩ = some (.int .u8 ((L[i]:Nat):Int)):=by
 obtain ⟨hl,⟨h1,h2⟩ | ⟨g',cap,cur,hv,hB,hh,hn,hm,hs,ht⟩⟩:=h
 ·cases h1
 ·cases hv
  have h1:(cur.toList.take (L.length * 1))[i]? = some (.int .u8 ((L[i]:Nat):Int)):=by rw [ht]; simp [lv,hi]
  rw [List.getElem?_take,if_pos (by omega),Array.getElem?_toList] at h1
  simp [World.cell?,hh,h1]
theorem RL.made (w:World) (cs:Array Value) (L:List Nat) (n:Nat) (hn:L.length = n) (hm:n≤1000000) (e:cs.toList = lv L):RL (w.alloc (.cells cs 5)) w.heap.size w.heap.size n L:=by
 have hs:cs.size = L.length:=by rw [← Array.length_toList,e,lv_length]
 refine ⟨by rw [lv_length,Nat.mul_one],.inr ⟨w.heap.size,n,cs,rfl,Nat.le_refl _,(MapKept.heap_alloc w _).1,by omega,by unfold maxLen; omega,by omega,by rw [Nat.mul_one,e,List.take_of_length_le (by rw [lv_length]; omega)]⟩⟩
theorem Tryz.infoB8:(Tryz.prog.info? 5).map (fun i => (i.zero,i.size,i.bytes)) = some (some (.int .u8 0),1,1):=by kernel_rfl
def strL (s:ByteArray):List Nat:=s.data.toList.map UInt8.toNat
theorem strL_length (s:ByteArray):(strL s).length = s.size:=by unfold strL; rw [List.length_map,Array.length_toList]; rfl
def numP (sz x r:Nat):List Nat:=(List.range r).map fun j => x / 2 ^ (8 * (sz - 1 - j)) % 256
def numL (sz x:Nat):List Nat:=numP sz x sz
theorem numP_succ (sz x r:Nat):numP sz x (r + 1) = numP sz x r ++ [x / 2 ^ (8 * (sz - 1 - r)) % 256]:=by unfold numP; rw [List.range_succ,List.map_append]; rfl
theorem numP_length (sz x r:Nat):(numP sz x r).length = r:=by unfold numP; simp
theorem numL_length (sz x:Nat):(numL sz x).length = sz:=numP_length sz x sz
theorem numEqL {a b:Int} (h:a = b):Value.int .i64 a = .int .i64 b:=by rw [h]
def OL (w:World) (B:Nat) (v:Value) (L:List Nat):Prop:=w.ownsRow B 5 1 v L.length (lv L)
theorem OL.nil (w:World) (B:Nat):OL w B (.slice none 0 0) []:=⟨by simp [lv],.inl ⟨rfl,rfl⟩⟩
theorem OL.form {w:World} {B:Nat} {v:Value} {L:List Nat} (h:OL w B v L):∃ a c,v = .slice a L.length c:=by
 obtain ⟨hl,⟨h1,h2⟩ | ⟨g',cap,cur,hv,_⟩⟩:=h
 ·rw [h2]; exact ⟨_,_,h1⟩
 ·exact ⟨_,_,hv⟩
theorem OL.ge {w:World} {B:Nat} {v:Value} {L:List Nat} (h:OL w B v L) (g:Nat) (e:v.ownBlock = some g):B≤g∧g < w.heap.size:=World.ownsRow.lt h g e
theorem OL.keep {w w':World} {B:Nat} {v:Value} {L:List Nat} (h:OL w B v L) (e:∀ g,v.ownBlock = some g→w'.heap[g]? = w.heap[g]?):OL w' B v L:=by
 obtain ⟨hl,h0 | ⟨g',cap,cur,hv,hB,hh,hr⟩⟩:=h
 ·exact ⟨hl,.inl h0⟩
 ·subst hv
  exact ⟨hl,.inr ⟨g',cap,cur,rfl,hB,by rw [e g' rfl]; exact hh,hr⟩⟩
theorem OL.below {w w':World} {B:Nat} {v:Value} {L:List Nat} (h:OL w B v L) (hb:Below w.heap.size w w'):OL w' B v L:=h.keep (fun g e => hb.block g (h.ge g e).2)
theorem OL.mono {w:World} {B B':Nat} {v:Value} {L:List Nat} (h:OL w B v L) (hb:B'≤B):OL w B' v L:=by
 obtain ⟨hl,h0 | ⟨g',cap,cur,hv,hB,hr⟩⟩:=h
 ·exact ⟨hl,.inl h0⟩
 ·exact ⟨hl,.inr ⟨g',cap,cur,hv,Nat.le_trans hb hB,hr⟩⟩
theorem OL.grown {w w':World} {B:Nat} {v:Value} {L:List Nat} (h:OL w B v L) (hg:w.grownBy w' v.ownBlock) (hB:B≤w.heap.size):Below B w w' :=
 ⟨hg.os,hg.tape,hg.output,hg.size,fun b hb => hg.block b (by omega) (fun e => by have:=(h.ge b e.symm).1; omega)⟩
theorem RL.ol {w:World} {B g c:Nat} {L:List Nat} (h:RL w B g c L):OL w B (.slice (some ⟨g,0,none⟩) L.length c) L:=h
set_option maxRecDepth 100000 in
theorem OL.app (w:World) (B:Nat) (v:Value) (L N:List Nat) (q o cq m:Nat) (hm:m = N.length) (hB:B≤w.heap.size) (hl:L.length + N.length≤1000000) (h:OL w B v L) (hN:∀ j (hj:j < N.length),w.cell? ⟨q,o + j,none⟩ = some (.int .u8 ((N[j]:Nat):Int))) :
  ∃ v' w',(∀ ty,(Builtin.append_ #[68,68] ty #[v,.slice (some ⟨q,o,none⟩) m cq]).run Tryz.prog w = .ok v' w')∧OL w' B v' (L ++ N)∧Below B w w'∧w.grownBy w' v.ownBlock:=by
 subst hm
 obtain ⟨i,hi,hz,hsz,hby⟩:=info_parts Tryz.infoB8
 obtain ⟨v',w',hr,ho,hg,hne,hloc⟩:=run_append_own_at (P:=Tryz.prog) w B 68 68 5 i (.int .u8 0) 1 1 Tryz.underlying68 hi hz hsz hby rfl (by decide) _ L.length _ h ⟨q,o,none⟩ N.length cq (lv N) (by rw [lv_length,Nat.mul_one]) (fun j u hj => by
  rw [Go.WideShapes.add_plain]
  unfold lv at hj
  rw [List.getElem?_map,Option.map_eq_some_iff] at hj
  obtain ⟨b,hb,rfl⟩:=hj
  obtain ⟨hj',rfl⟩:=List.getElem?_eq_some_iff.1 hb
  exact hN j hj') (fun u hu => by
   obtain ⟨_,_,rfl⟩:=List.mem_map.1 hu
   rfl) (by unfold maxLen; omega) (by omega) hB
 rw [← lv_append,← List.length_append] at ho
 exact ⟨v',w',fun ty => hr,ho,h.grown hg hB,hg⟩
set_option maxRecDepth 100000 in
theorem OL.appS (w:World) (B:Nat) (v:Value) (L:List Nat) (s:ByteArray) (hB:B≤w.heap.size) (hl:L.length + s.size≤1000000) (h:OL w B v L) :
  ∃ v' w',(∀ ty,(Builtin.append_ #[68,9] ty #[v,.string s]).run Tryz.prog w = .ok v' w')∧OL w' B v' (L ++ strL s)∧Below B w w'∧w.grownBy w' v.ownBlock:=by
 obtain ⟨i,hi,hz,hsz,hby⟩:=info_parts Tryz.infoB8
 obtain ⟨v',w',hr,ho,hg,hne⟩:=Lib.run_append_own_string (P:=Tryz.prog) w B 68 9 68 5 i Tryz.underlying68 Tryz.underlying9 hi hz hsz hby _ L.length _ h s (by unfold maxLen; omega) (by omega) hB
 have e1:Lib.strCells s = lv (strL s):=by
  unfold Lib.strCells lv strL
  simp
 rw [e1,← lv_append,← strL_length s,← List.length_append] at ho
 exact ⟨v',w',fun ty => hr,ho,h.grown hg hB,hg⟩
set_option maxRecDepth 100000 in
set_option maxHeartbeats 2000000 in
theorem appendNumberO (B:Nat) (a:Option Addr) (n c x sz:Nat) (L:List Nat) (hn:n = L.length) (hsz:sz≤8) (hk:L.length≤900000) (w:World) (hB:B≤w.heap.size) (h:OL w B (.slice a n c) L) :
  Calls Tryz.prog 62 #[.slice a n c,.int .i64 (x:Int),.int .i64 (sz:Int)] w fun e w' => (∃ a' c',e = .returned (.slice a' (n + sz) c')∧OL w' B (.slice a' (n + sz) c') (L ++ numL sz x))∧Below B w w':=by
 have HR:Hid (OL w B (.slice a n c) L):=h
 have HK:Hid (L.length≤900000):=hk
 have HN:Hid (n = L.length):=hn
 have HBB:Hid (B≤w.heap.size):=hB
 clear h hk hB hn
 go_enter Tryz.func62,Tryz.ntmps62
 go_wp2
 go_loopw [0,7] (fun s i wr => ∃ (r c2:Nat) (a2:Option Addr),r≤sz∧i = .int .i64 ((sz:Int) - 1 - (r:Int))∧s = .slice a2 (n + r) c2∧OL wr B (.slice a2 (n + r) c2) (L ++ numP sz x r)∧Below B w wr) (fun _ i _ => (intOf i + 1).toNat)
 case atStart => exact ⟨0,c,a,by omega,numEqL (by omega),rfl,by unfold numP; simpa using HR.out,Below.refl _ _⟩
 case round =>
  clear HR
  obtain ⟨r,c2,a2,hr,rfl,rfl,hrow,ho⟩:=hrel
  have HR:Hid (OL wr B (.slice a2 (n + r) c2) (L ++ numP sz x r)):=hrow
  have HO:Hid (Below B w wr):=ho
  clear hrow ho
  by_cases hlt:r < sz
  ·have x0:(0:Int)≤(sz:Int) - 1 - (r:Int):=by omega
   obtain ⟨s,hs⟩:∃ s,s = 8 * (sz - 1 - r):=⟨_,rfl⟩
   have e8:(8:Int) * ((sz:Int) - 1 - (r:Int)) = (s:Int):=by omega
   have s0:(0:Int)≤(s:Int):=by omega
   have s1:(s:Int)≤64:=by omega
   have eX:(x:Int) / 2 ^ s = ((x / 2 ^ s:Nat):Int):=by simp
   have HX:Hid (numP sz x (r + 1) = numP sz x r ++ [x / 2 ^ s % 256]):=by show _ = _; rw [numP_succ,hs]
   generalize x / 2 ^ s = y at *
   have eY:(y:Int) % 256 = ((y % 256:Nat):Int):=by omega
   generalize y % 256 = Y at *
   have hw:(w.heap.size≤wr.heap.size):=HO.out.size
   have hb:Below wr.heap.size wr (wr.alloc (.cells #[.int .u8 (Y:Nat)] 5)):=(Below.refl _ _).alloc (Nat.le_refl _) _
   obtain ⟨v3,w3,hr3,hrow3,ho3,_⟩:=OL.app (wr.alloc (.cells #[.int .u8 (Y:Nat)] 5)) B (.slice a2 (n + r) c2) (L ++ numP sz x r) [Y] wr.heap.size 0 1 1 rfl (by have:=HBB.out; simp; omega) (by have:=HK.out; rw [List.length_append,numP_length]; simp; omega) (HR.out.below hb) (fun j hj => by
    obtain rfl:j = 0:=by simpa using hj
    have:((wr.alloc (.cells #[.int .u8 (Y:Nat)] 5)).rowIs wr.heap.size 5 1 (fun _ => .int .u8 (Y:Nat))):=World.rowIs_alloc wr #[.int .u8 (Y:Nat)] 5 _ (fun i hi => by
     obtain rfl:i = 0:=by simpa using hi
     rfl)
    exact this.cell (by omega))
   obtain ⟨a3,c3,rfl⟩:=hrow3.form
   have el2:(L ++ numP sz x r ++ [Y]).length = n + (r + 1):=by rw [List.length_append,List.length_append,numP_length,HN.out]; simp; omega
   rw [el2] at hr3 hrow3
   have HR3:Hid (OL w3 B (.slice a3 (n + (r + 1)) c3) (L ++ numP sz x (r + 1))):=by show OL _ _ _ _; rw [HX.out,← List.append_assoc]; exact hrow3
   have HO3:Hid (Below B w w3):=HO.out.trans ((hb.mono (by have:=HBB.out; omega)).trans ho3)
   have hHK:Hid ((sz:Int) - 1 - (r:Int) - 1 = (sz:Int) - 1 - ((r + 1:Nat):Int)):=by show _ = _; omega
   clear hrow3 ho3 hs HR HO HX el2 hb
   go_wp2_with (at_builtin; refine Lib.wpList_append_run _ rfl (.tmp 14) (.tmp 20) 68 68 rfl (.slice a2 (n + r) c2) (.slice (some ⟨wr.heap.size,0,none⟩) 1 1) rfl rfl _ _ (hr3 _) ?_)
   go_roundw
   case rel => exact ⟨r + 1,c3,a3,by omega,numEqL hHK.out,rfl,HR3.out,HO3.out⟩
   case measure => simp [intOf]; omega
  ·obtain rfl:r = sz:=by omega
   have x0:¬ (0:Int)≤(r:Int) - 1 - (r:Int):=by omega
   go_wp2
   go_ret
   exact ⟨⟨a2,c2,rfl,HR.out⟩,HO.out⟩
def Els (w:World) (s:Nat) (a:Option Addr) (n:Nat) (F:Nat→Nat→Value):Prop:=∀ i,i < n→∃ b off,a = some ⟨b,off,none⟩∧∀ j,j < s→w.cell? ⟨b,off + i * s + j,none⟩ = some (F i j)
theorem Els.opened {w:World} {s:Nat} {a:Option Addr} {n:Nat} {F:Nat→Nat→Value} (h:Els w s a n F) (hn:0 < n) :
  ∃ b off,a = some ⟨b,off,none⟩∧∀ i,i < n→∀ j,j < s→w.cell? ⟨b,off + i * s + j,none⟩ = some (F i j):=by
 obtain ⟨b,off,rfl,_⟩:=h 0 hn
 refine ⟨b,off,rfl,fun i hi => ?_⟩
 obtain ⟨b',off',hab,hc⟩:=h i hi
 cases hab
 exact hc
theorem Els.below {w w':World} {s:Nat} {a:Option Addr} {n:Nat} {F:Nat→Nat→Value} (h:Els w s a n F) (hb:Below w.heap.size w w'):Els w' s a n F:=fun i hi => by
 obtain ⟨b,off,ha,hc⟩:=h i hi
 exact ⟨b,off,ha,fun j hj => by rw [hb.cell (strBlock (hc j hj))]; exact hc j hj⟩
theorem Els.less {w:World} {s:Nat} {a:Option Addr} {n m:Nat} {F:Nat→Nat→Value} (h:Els w s a n F) (hm:m≤n):Els w s a m F:=fun i hi => h i (by omega)
structure RowE (w:World) (s:Nat) (a:Option Addr) (g n:Nat) (F:Nat→Nat→Value):Prop where
 a:0 < n→a = some ⟨g,0,none⟩
 c:∀ i,i < n→∀ j,j < s→w.cell? ⟨g,i * s + j,none⟩ = some (F i j)
 z:∀ i,i < n * s→w.frozen? ⟨g,i,none⟩ = false
theorem posE {n s:Nat} {i:Nat} (h:i < n * s):0 < n:=by
 rcases Nat.eq_zero_or_pos n with rfl | q
 ·omega
 ·exact q
theorem RowE.els {w:World} {s:Nat} {a:Option Addr} {g n:Nat} {F:Nat→Nat→Value} (h:RowE w s a g n F):Els w s a n F:=fun i hi => ⟨g,0,h.a (by omega),fun j hj => by rw [Nat.zero_add]; exact h.c i hi j hj⟩
theorem RowE.nil (w:World) (s:Nat) (a:Option Addr) (g:Nat) (F:Nat→Nat→Value):RowE w s a g 0 F:=⟨fun h => absurd h (by omega),fun i hi => absurd hi (by omega),fun i hi => absurd (posE hi) (by omega)⟩
theorem divE {s i j:Nat} (hj:j < s):(i * s + j) / s = i∧(i * s + j) % s = j:=by
 have hs:0 < s:=by omega
 constructor
 ·rw [Nat.mul_comm,Nat.mul_add_div hs,Nat.div_eq_of_lt hj,Nat.add_zero]
 ·rw [Nat.mul_comm,Nat.mul_add_mod,Nat.mod_eq_of_lt hj]
theorem ltE {s i j n:Nat} (hi:i < n) (hj:j < s):i * s + j < n * s:=by
 have:(i + 1) * s≤n * s:=Nat.mul_le_mul_right s hi
 rw [Nat.add_mul,Nat.one_mul] at this
 omega
def Box2 (w:World) (b:Nat) (t:TypeId) (x y:Value):Prop:=w.rowIs b t 2 (fun i => if i = 0 then x else y)
theorem Box2.c0 {w:World} {b:Nat} {t:TypeId} {x y:Value} (h:Box2 w b t x y):w.cell? ⟨b,0,none⟩ = some x:=World.rowIs.cell h (i:=0) (by omega)
theorem Box2.c1 {w:World} {b:Nat} {t:TypeId} {x y:Value} (h:Box2 w b t x y):w.cell? ⟨b,1,none⟩ = some y:=World.rowIs.cell h (i:=1) (by omega)
theorem Box2.fr {w:World} {b:Nat} {t:TypeId} {x y:Value} (h:Box2 w b t x y) (i:Nat):w.frozen? ⟨b,i,none⟩ = false:=World.rowIs.frozen h i
theorem Box2.lt {w:World} {b:Nat} {t:TypeId} {x y:Value} (h:Box2 w b t x y):b < w.heap.size:=World.rowIs.lt h
theorem Box2.ofBlock {w w':World} {b:Nat} {t:TypeId} {x y:Value} (h:Box2 w b t x y) (e:w'.heap[b]? = w.heap[b]?):Box2 w' b t x y:=World.rowIs.of_block h e
theorem Box2.below {w w':World} {b:Nat} {t:TypeId} {x y:Value} (h:Box2 w b t x y) (hb:Below w.heap.size w w'):Box2 w' b t x y:=h.ofBlock (hb.block b h.lt)
theorem Box2.onlyB {w w':World} {b g:Nat} {t:TypeId} {x y:Value} (h:Box2 w b t x y) (ho:OnlyB g w w') (hne:b≠g):Box2 w' b t x y:=h.ofBlock (ho.block b h.lt hne)
theorem Box2.made (w:World) (t:TypeId) (x y:Value):Box2 (w.alloc (.cells #[x,y] t)) w.heap.size t x y:=World.rowIs_alloc w #[x,y] t _ (fun i hi => by
 rcases (show i = 0∨i = 1 by simp at hi; omega) with rfl | rfl <;> rfl)
theorem Box2.madeAt {w:World} {b:Nat} (hb:w.heap.size = b) (t:TypeId) (x y:Value):Box2 (w.alloc (.cells #[x,y] t)) b t x y:=by subst hb; exact Box2.made w t x y
theorem Box2.alloc {w:World} {b:Nat} {t:TypeId} {x y:Value} (h:Box2 w b t x y) (o:Obj):Box2 (w.alloc o) b t x y:=World.rowIs.alloc h o
theorem Box2.set0 {w:World} {b:Nat} {t:TypeId} {x y:Value} (h:Box2 w b t x y) (v:Value):Box2 (w.setCell ⟨b,0,none⟩ v) b t v y:=World.rowIs.congr (World.rowIs.set h 0 v) (fun i hi => by
 rcases (show i = 0∨i = 1 by omega) with rfl | rfl <;> rfl)
theorem Box2.set1 {w:World} {b:Nat} {t:TypeId} {x y:Value} (h:Box2 w b t x y) (v:Value):Box2 (w.setCell ⟨b,1,none⟩ v) b t x v:=World.rowIs.congr (World.rowIs.set h 1 v) (fun i hi => by
 rcases (show i = 0∨i = 1 by omega) with rfl | rfl <;> rfl)
def ByR (w:World) (a:Option Addr) (g n:Nat) (f:Nat→Nat):Prop:=n = 0∨(a = some ⟨g,0,none⟩∧Own8 w g n f)
theorem ByR.code {w:World} {a:Option Addr} {g n:Nat} {f:Nat→Nat} (h:ByR w a g n f):Code8 w a n f:=by
 rcases h with rfl | ⟨rfl,hr⟩
 ·exact code8_zero _ _ _
 ·exact hr.code
theorem OL.byR {w:World} {B:Nat} {a:Option Addr} {n c:Nat} {L:List Nat} (h:OL w B (.slice a n c) L) (hn:n = L.length):∃ g,ByR w a g n (fun i => L.getD i 0)∧(0 < n→B≤g∧g < w.heap.size):=by
 have e:lv L = bv L.length (fun i => L.getD i 0):=by
  unfold lv bv
  refine List.ext_getElem (by simp) (fun i h1 h2 => ?_)
  simp at h1
  simp [h1]
 subst hn
 obtain ⟨a2,cap,hv,ho⟩:=ownS_of_owned (f:=fun i => L.getD i 0) (by rw [← e]; exact h)
 cases hv
 rcases ho with q | ⟨b,hB,e2,ho⟩
 ·exact ⟨0,.inl q,fun z => absurd z (by omega)⟩
 ·exact ⟨b,.inr ⟨e2,ho⟩,fun _ => ⟨hB,ho.lt⟩⟩
def elv (s n:Nat) (F:Nat→Nat→Value):List Value:=(List.range (n * s)).map fun i => F (i / s) (i % s)
theorem elv_length (s n:Nat) (F:Nat→Nat→Value):(elv s n F).length = n * s:=by unfold elv; simp
theorem elv_congr {s n:Nat} {F G:Nat→Nat→Value} (h:∀ i,i < n→∀ j,j < s→F i j = G i j):elv s n F = elv s n G:=List.map_congr_left (fun i hi => by
 have hi':=List.mem_range.1 hi
 have hs:0 < s:=by
  rcases Nat.eq_zero_or_pos s with rfl | q
  ·omega
  ·exact q
 exact h _ ((Nat.div_lt_iff_lt_mul hs).2 hi') _ (Nat.mod_lt _ hs))
theorem elv_snoc (s n:Nat) (F:Nat→Nat→Value):elv s (n + 1) F = elv s n F ++ (List.range s).map (F n):=by
 unfold elv
 rw [Nat.add_mul,Nat.one_mul,List.range_add,List.map_append,List.map_map]
 congr 1
 exact List.map_congr_left (fun j hj => by
  have hj':=List.mem_range.1 hj
  show F ((n * s + j) / s) ((n * s + j) % s) = F n j
  rw [(divE hj').1,(divE hj').2])
def EO (w:World) (B:Nat) (t:TypeId) (s:Nat) (v:Value) (n:Nat) (F:Nat→Nat→Value):Prop:=w.ownsRow B t s v n (elv s n F)
theorem EO.nil (w:World) (B:Nat) (t:TypeId) (s:Nat) (F:Nat→Nat→Value):EO w B t s (.slice none 0 0) 0 F:=⟨by rw [elv_length],.inl ⟨rfl,rfl⟩⟩
theorem EO.form {w:World} {B:Nat} {t:TypeId} {s:Nat} {v:Value} {n:Nat} {F:Nat→Nat→Value} (h:EO w B t s v n F):∃ a c,v = .slice a n c:=by
 obtain ⟨hl,⟨h1,h2⟩ | ⟨g',cap,cur,hv,_⟩⟩:=h
 ·subst h2; exact ⟨_,_,h1⟩
 ·exact ⟨_,_,hv⟩
theorem EO.congr {w:World} {B:Nat} {t:TypeId} {s:Nat} {v:Value} {n:Nat} {F G:Nat→Nat→Value} (h:EO w B t s v n F) (e:∀ i,i < n→∀ j,j < s→F i j = G i j):EO w B t s v n G:=by unfold EO at *; rw [← elv_congr e]; exact h
theorem EO.ge {w:World} {B:Nat} {t:TypeId} {s:Nat} {v:Value} {n:Nat} {F:Nat→Nat→Value} (h:EO w B t s v n F) (g:Nat) (e:v.ownBlock = some g):B≤g∧g < w.heap.size:=World.ownsRow.lt h g e
theorem EO.keep {w w':World} {B:Nat} {t:TypeId} {s:Nat} {v:Value} {n:Nat} {F:Nat→Nat→Value} (h:EO w B t s v n F) (e:∀ g,v.ownBlock = some g→w'.heap[g]? = w.heap[g]?):EO w' B t s v n F:=by
 obtain ⟨hl,h0 | ⟨g',cap,cur,hv,hB,hh,hr⟩⟩:=h
 ·exact ⟨hl,.inl h0⟩
 ·subst hv
  exact ⟨hl,.inr ⟨g',cap,cur,rfl,hB,by rw [e g' rfl]; exact hh,hr⟩⟩
theorem EO.below {w w':World} {B:Nat} {t:TypeId} {s:Nat} {v:Value} {n:Nat} {F:Nat→Nat→Value} (h:EO w B t s v n F) (hb:Below w.heap.size w w'):EO w' B t s v n F:=h.keep (fun g e => hb.block g (h.ge g e).2)
theorem EO.onlyB {w w':World} {B q:Nat} {t:TypeId} {s:Nat} {v:Value} {n:Nat} {F:Nat→Nat→Value} (h:EO w B t s v n F) (ho:OnlyB q w w') (hq:q < B):EO w' B t s v n F:=h.keep (fun g e => ho.block g (h.ge g e).2 (by have:=(h.ge g e).1; omega))
theorem EO.rowE {w:World} {B:Nat} {t:TypeId} {s:Nat} {a:Option Addr} {n c:Nat} {F:Nat→Nat→Value} (h:EO w B t s (.slice a n c) n F):∃ g,RowE w s a g n F∧(0 < n→B≤g):=by
 obtain ⟨hl,⟨h1,h2⟩ | ⟨g,cap,cur,hv,hB,hh,hn,hm,hs,ht⟩⟩:=h
 ·subst h2
  exact ⟨0,RowE.nil _ _ _ _ _,fun q => absurd q (by omega)⟩
 ·cases hv
  have each:∀ i,i < n * s→w.cell? ⟨g,i,none⟩ = some (F (i / s) (i % s)):=fun i hi => by
   have h1:(cur.toList.take (n * s))[i]? = some (F (i / s) (i % s)):=by rw [ht]; simp [elv,hi]
   rw [List.getElem?_take,if_pos hi,Array.getElem?_toList] at h1
   simp [World.cell?,hh,h1]
  refine ⟨g,⟨fun _ => rfl,fun i hi j hj => ?_,fun i hi => by simp [World.frozen?,hh]⟩,fun _ => hB⟩
  have:=each (i * s + j) (ltE hi hj)
  rw [(divE hj).1,(divE hj).2] at this
  exact this
theorem EO.els {w:World} {B:Nat} {t:TypeId} {s:Nat} {a:Option Addr} {n c:Nat} {F:Nat→Nat→Value} (h:EO w B t s (.slice a n c) n F):Els w s a n F:=by
 obtain ⟨g,h1,_⟩:=h.rowE
 exact h1.els
def updE {T:Type} (f:Nat→T) (k:Nat) (x:T) (i:Nat):T:=if i = k then x else f i
def catE {T:Type} (n:Nat) (f g:Nat→T) (i:Nat):T:=if i < n then f i else g (i - n)
theorem catE_lt {T:Type} {n i:Nat} (f g:Nat→T) (h:i < n):catE n f g i = f i:=if_pos h
theorem catE_at {T:Type} (n i:Nat) (f g:Nat→T):catE n f g (n + i) = g i:=by
 unfold catE
 rw [if_neg (by omega),Nat.add_sub_cancel_left]
theorem catE_zero {T:Type} (f g:Nat→T):catE 0 f g = g:=funext fun i => by
 have:=catE_at 0 i f g
 rwa [Nat.zero_add] at this
theorem elv_cat (s n:Nat) (F G H:Nat→Nat→Value) (h1:∀ i,i < n→H i = F i) (h2:∀ i,H (n + i) = G i):∀ m,elv s (n + m) H = elv s n F ++ elv s m G
 | 0 => by
  rw [Nat.add_zero,elv_congr (G:=F) (fun i hi j _ => by rw [h1 i hi])]
  simp [elv]
 | m + 1 => by rw [← Nat.add_assoc,elv_snoc,elv_cat s n F G H h1 h2 m,elv_snoc,h2,List.append_assoc]
theorem elv_news {w:World} {s m b off:Nat} {F:Nat→Nat→Value} (hc:∀ i,i < m→∀ j,j < s→w.cell? ⟨b,off + i * s + j,none⟩ = some (F i j)):∀ (j:Nat) (u:Value),(elv s m F)[j]? = some u→w.cell? ((⟨b,off,none⟩:Addr).add j) = some u:=fun j u hj => by
 rw [Go.WideShapes.add_plain]
 unfold elv at hj
 rw [List.getElem?_map,Option.map_eq_some_iff] at hj
 obtain ⟨k,hk,rfl⟩:=hj
 obtain ⟨hj',rfl⟩:=List.getElem?_eq_some_iff.1 hk
 rw [List.getElem_range]
 have hj2:j < m * s:=by simpa using hj'
 have hs:0 < s:=by
  rcases Nat.eq_zero_or_pos s with rfl | q
  ·omega
  ·exact q
 have e:=Nat.div_add_mod j s
 have:=hc (j / s) (Nat.div_lt_of_lt_mul (by rw [Nat.mul_comm]; exact hj2)) (j % s) (Nat.mod_lt _ hs)
 rw [Nat.mul_comm] at e
 rwa [Nat.add_assoc,e] at this
theorem EO.mono {w:World} {B B':Nat} {t:TypeId} {s:Nat} {v:Value} {n:Nat} {F:Nat→Nat→Value} (h:EO w B t s v n F) (hb:B'≤B):EO w B' t s v n F:=by
 obtain ⟨hl,h0 | ⟨g',cap,cur,hv,hB,hr⟩⟩:=h
 ·exact ⟨hl,.inl h0⟩
 ·exact ⟨hl,.inr ⟨g',cap,cur,hv,Nat.le_trans hb hB,hr⟩⟩
theorem EO.lit (w:World) (B:Nat) (t:TypeId) (s:Nat) (hB:B≤w.heap.size) (F:Nat→Nat→Value):EO (w.alloc (.cells #[] t)) B t s (.slice (some ⟨w.heap.size,0,none⟩) 0 0) 0 F:=by
 unfold EO
 rw [show elv s 0 F = [] by simp [elv]]
 exact World.ownsRow_made w #[] 0 hB (Nat.zero_le _) (by simp)
theorem Els.behind {w:World} {s b off n:Nat} {F:Nat→Nat→Value} (h:Els w s (some ⟨b,off,none⟩) n F) (k:Nat) (hk:k≤n):Els w s (some ⟨b,off + k * s,none⟩) (n - k) (fun i => F (k + i)):=fun i hi => by
 obtain ⟨b',off',e,hc⟩:=h (k + i) (by omega)
 cases e
 exact ⟨b,off + k * s,rfl,fun j hj => by rw [← hc j hj,Nat.add_mul,← Nat.add_assoc]⟩
theorem ret_cell {P:Program} {fn:Func} {p:Tmp} {ty:TypeId} {tmps:Array Value} {w:World} {b:Nat} {v:Value} {Post:Ending→World→Prop} (h:fn.results = #[.cell p ty]) (hp:tmps.getD p undef = .pointer (some ⟨b,0,none⟩)) (hl:(loadVar ty ⟨b,0,none⟩).run P w = .ok v w) (hq:Post (.returned v) w):bodyPost P fn Post .ret { tmps:=tmps,defers:=[] } w :=
 bodyPost_ret (results_cell_one h tmps P w hp hl) rfl hq
theorem ret_cell2 {P:Program} {fn:Func} {p u:Tmp} {ty:TypeId} {tmps:Array Value} {w:World} {b:Nat} {v x:Value} {Post:Ending→World→Prop} (h:fn.results = #[.cell p ty,.tmp u]) (hp:tmps.getD p undef = .pointer (some ⟨b,0,none⟩)) (hu:tmps.getD u undef = x) (hl:(loadVar ty ⟨b,0,none⟩).run P w = .ok v w) (hq:Post (.returned (.tuple #[v,x])) w):bodyPost P fn Post .ret { tmps:=tmps,defers:=[] } w:=by
 refine bodyPost_ret (v:=.tuple #[v,x]) ?_ rfl hq
 rw [results_cell_tmp h,hp,hu]
 simp [asAddr,hl,Result.andThen]
structure SlP (a:Option Addr) (n c:Nat):Prop where
 z:a = none→c = 0
 f:a = none∨∃ g off,a = some ⟨g,off,none⟩
 le:n≤c
 mx:c≤maxLen
theorem EO.slp {w:World} {B:Nat} {t:TypeId} {s:Nat} {a:Option Addr} {n c:Nat} {F:Nat→Nat→Value} (h:EO w B t s (.slice a n c) n F):SlP a n c:=by
 obtain ⟨hl,⟨h1,h2⟩ | ⟨g,cap,cur,hv,_,_,hn,hm,_⟩⟩:=h
 ·cases h1; exact ⟨fun _ => rfl,.inl rfl,by omega,by unfold maxLen; omega⟩
 ·cases hv; exact ⟨(fun e => by cases e),.inr ⟨_,_,rfl⟩,hn,hm⟩
def cutA (a:Option Addr) (c k s:Nat):Option Addr:=if c = k then a else a.map (·.add (k * s))
theorem run_cut_to {P:Program} (T:TypeId) (hu:P.underlying T = some (.slice (P.elem T))) (s:Nat) (hs:∀ w,(sizeOf (P.elem T)).run P w = .ok s w) {a:Option Addr} {n c:Nat} (h:SlP a n c) (k:Nat) (hk:k≤c) (w:World) :
  (Instr.slice T (.slice a n c) none (some (.int .i64 (k:Int))) none).run P w = .ok (.slice a k c) w:=by
 rw [run_slice_h (P:=P) (w:=w) T a n c hu .i64 (k:Int) (by omega) (by omega)]
 simp only [hs,Result.andThen,sliced,Int.toNat_natCast,Nat.zero_mul,Nat.sub_zero]
 rcases h.f with rfl | ⟨g,off,rfl⟩
 ·simp
 ·simp [Go.WideShapes.add_plain]
theorem run_cut_from {P:Program} (T:TypeId) (hu:P.underlying T = some (.slice (P.elem T))) (s:Nat) (hs:∀ w,(sizeOf (P.elem T)).run P w = .ok s w) {a:Option Addr} {n c:Nat} (h:SlP a n c) (k:Nat) (hk:k≤n) (w:World) :
  (Instr.slice T (.slice a n c) (some (.int .i64 (k:Int))) none none).run P w = .ok (.slice (cutA a c k s) (n - k) (c - k)) w:=by
 rw [run_slice_l (P:=P) (w:=w) T a n c hu .i64 (k:Int) (by omega) (by omega)]
 simp only [hs,Result.andThen,sliced,Int.toNat_natCast,cutA]
theorem bv_textR (s:ByteArray) (n:Nat) (h:s.size = n):bv n (strB s) = s.data.toList.map (fun b => .int .u8 b.toNat):=by
 apply List.ext_getElem
 ·rw [bv_length]; simp [h]
 ·intro i h1 h2
  have hi:i < n:=by rwa [bv_length] at h1
  have hi':i < s.size:=by omega
  have e:=bv_at (n:=n) (f:=strB s) hi
  rw [List.getElem?_eq_getElem h1] at e
  rw [Option.some.inj e,List.getElem_map,← ba_get s i hi']
  simp [strB,hi']
theorem strCells_bv (s:ByteArray):Lib.strCells s = bv s.size (strB s):=(bv_textR s s.size rfl).symm
theorem run_append_room_textM (w:World) (ty:TypeId) (i:TypeInfo) (hi:Tryz.prog.info? 5 = some i) (h3:i.size = 1) (b sLen sCap:Nat) (s:ByteArray) (hroom:sLen + s.size≤sCap)
  (hc:∀ j,j < (Lib.strCells s).length→(w.cell? ⟨b,sLen + j,none⟩).isSome = true) (hf:∀ j,j < (Lib.strCells s).length→w.frozen? ⟨b,sLen + j,none⟩ = false) :
  (Builtin.append_ #[68,9] ty #[.slice (some ⟨b,0,none⟩) sLen sCap,.string s]).run Tryz.prog w = .ok (.slice (some ⟨b,0,none⟩) (sLen + s.size) sCap) (w.setCells b sLen (Lib.strCells s)):=by
 have hfc:=Lib.run_firstCells_string (P:=Tryz.prog) w 1 s
 have hst:=run_storeCells_cells (P:=Tryz.prog) b sLen (Lib.strCells s) 0 w (by simpa using hc) (by simpa using hf) (Lib.strCells_oneCell s)
 simp only [Nat.add_zero] at hst
 simp [Builtin.append_,run_underlying Tryz.underlying68,run_underlying Tryz.underlying9,sizeOf,typeInfo,hi,h3,Builtin.lenOf,hroom,hfc,Addr.add_lit,hst]
theorem appendMT (w:World) (B g n cap:Nat) (F:Nat→Nat) (s:ByteArray) (hB:B≤g) (hBw:B≤w.heap.size) (hnm:n + s.size≤2000000) (h:RowM w g n cap F) (ty:TypeId) :
  ∃ g' cap' w',(Builtin.append_ #[68,9] ty #[.slice (some ⟨g,0,none⟩) n cap,.string s]).run Tryz.prog w = .ok (.slice (some ⟨g',0,none⟩) (n + s.size) cap') w'∧RowM w' g' (n + s.size) cap' (Sha.cat n F (strB s))∧Below B w w'∧B≤g':=by
 obtain ⟨i0,h1,h2,h3,h4⟩:=info_parts Tryz.info8
 by_cases hroom:n + s.size≤cap
 ·have hth:w.there g 0 cap:=fun j hj => by rw [Nat.zero_add]; exact h.2.2.1 j hj
  have hth2:=World.there_setCells hth g n (bv s.size (strB s))
  have hin:(w.setCells g n (bv s.size (strB s))).rangeAt g n (bv s.size (strB s)):=World.rangeAt_setCells_same w g n (bv s.size (strB s)) (fun j hj => by rw [bv_length] at hj; exact h.2.2.1 (n + j) (by omega))
  refine ⟨g,cap,w.setCells g n (bv s.size (strB s)),?_,⟨hroom,fun i hi => ?_,fun i hi => by have:=hth2 i hi; rwa [Nat.zero_add] at this,Nat.lt_of_lt_of_le h.2.2.2 (below_setCells hB (bv s.size (strB s)) n w (Below.refl B w)).size⟩,below_setCells hB _ _ _ (Below.refl _ _),hB⟩
  ·rw [← strCells_bv]
   exact run_append_room_textM w ty i0 h1 h3 g n cap s hroom (fun j hj => by rw [Lib.strCells_length] at hj; exact (h.2.2.1 (n + j) (by omega)).1) (fun j hj => by rw [Lib.strCells_length] at hj; exact (h.2.2.1 (n + j) (by omega)).2)
  ·unfold Sha.cat
   by_cases hin2:i < n
   ·rw [if_pos hin2,World.cell?_setCells_out g (bv s.size (strB s)) n w ⟨g,i,none⟩ (fun _ _ => .inl hin2)]
    exact h.2.1 i hin2
   ·rw [if_neg hin2]
    have:=hin (i - n) _ (bv_at (f:=strB s) (show i - n < s.size by omega))
    rwa [show n + (i - n) = i from by omega] at this
 ·have hlt:cap < n + s.size:=by omega
  have hrun:=Lib.run_append_grow_string (P:=Tryz.prog) w 68 9 ty 5 i0 (.int .u8 0) Tryz.underlying68 Tryz.underlying9 h1 h2 ⟨g,0,none⟩ n cap (bv n F) (by rw [bv_length,h3,Nat.mul_one]) (bv_news h.code) s hlt (by omega) (growslice_fits hlt (by rw [h4]; omega))
  have hge:=grownCap_ge w (n + s.size) cap 5
  obtain ⟨gc,hgc⟩:∃ gc,gc = grownCap w (n + s.size) cap 5:=⟨_,rfl⟩
  rw [← hgc] at hrun hge
  obtain ⟨cs,hcs⟩:∃ cs,cs = (bv n F).toArray ++ (Lib.strCells s).toArray ++ Builtin.zeroCells (Value.int .u8 0).cells (gc - (n + s.size)):=⟨_,rfl⟩
  rw [← hcs] at hrun
  have hzl:(Builtin.zeroCells (Value.int .u8 0).cells (gc - (n + s.size))).size = gc - (n + s.size):=by simp [Builtin.zeroCells,Value.cells]
  have hsz:cs.size = gc:=by rw [hcs,Array.size_append,Array.size_append,hzl,List.size_toArray,List.size_toArray,bv_length,Lib.strCells_length]; omega
  have hh:(w.drew.alloc (.cells cs 5)).heap[w.heap.size]? = some (.cells cs 5 (0,0)):=heap_alloc_new w.drew _
  have hat:∀ i,i < n + s.size→cs[i]? = some (.int .u8 ((Sha.cat n F (strB s) i:Nat):Int)):=fun i hi => by
   have e:cs.toList = bv (n + s.size) (Sha.cat n F (strB s)) ++ (Builtin.zeroCells (Value.int .u8 0).cells (gc - (n + s.size))).toList:=by
    rw [hcs,strCells_bv,Array.toList_append,Array.toList_append]
    show bv n F ++ bv s.size (strB s) ++ _ = _
    rw [bv_append]
    rfl
   rw [← Array.getElem?_toList,e,List.getElem?_append_left (by rw [bv_length]; exact hi)]
   exact bv_at hi
  refine ⟨w.heap.size,gc,_,hrun,⟨hge,fun i hi => ?_,fun i hi => ⟨?_,?_⟩,?_⟩,((Below.refl B w).drew).alloc hBw _,hBw⟩
  ·simp only [World.cell?,hh]
   simpa using hat i hi
  ·simp only [World.cell?,hh]
   simp [hsz,hi]
  ·simp only [World.frozen?,hh]
   simp
  ·show w.heap.size < (w.drew.alloc _).heap.size
   simp
def hashT (s:ByteArray):ByteArray:=hashS s.size (strB s)
theorem hashT_size (s:ByteArray):(hashT s).size = 32:=hashS_size _ _
structure Lf where
 v:Int
 h:ByteArray
def lfV (x:Lf):Nat→Value
 | 0 => .int .i64 x.v
 | _ => .string x.h
def lfF (LF:Nat→Lf) (i j:Nat):Value:=lfV (LF i) j
theorem Tryz.infoLf:(Tryz.prog.info? 106).map (fun i => (i.zero,i.size,i.bytes)) = some (some (.agg #[.int .i64 0,.string ⟨#[]⟩]),2,24):=by kernel_rfl
def Lf.Ok (x:Lf):Prop:=(0≤x.v∧x.v≤4294967295)∧x.h.size = 32
theorem isWord_t (x:Int) (r:Bool) (hr:r = decide (0≤x∧x≤4294967295)) (w:World) :
  Calls Tryz.prog 150 #[.int .i64 x] w fun e w' => e = .returned (.bool r)∧w = w':=by
 by_cases h1:0≤x
 ·by_cases h2:x≤4294967295
  ·obtain rfl:r = true:=by rw [hr]; simp; omega
   clear hr
   go_enter Tryz.func150,Tryz.ntmps150
   go_wp2
   go_ret
   exact ⟨rfl,rfl⟩
  ·obtain rfl:r = false:=by rw [hr]; simp; omega
   clear hr
   go_enter Tryz.func150,Tryz.ntmps150
   go_wp2
   go_ret
   exact ⟨rfl,rfl⟩
 ·obtain rfl:r = false:=by rw [hr]; simp; omega
  clear hr
  go_enter Tryz.func150,Tryz.ntmps150
  go_wp2
  go_ret
  exact ⟨rfl,rfl⟩
def fourT (x:Nat):ByteArray:=kstr (fourF x) 0 4
theorem fourT_size (x:Nat):(fourT x).size = 4:=kstr_size _ _ _
theorem fourT_at (x i:Nat) (h:i < 4):strB (fourT x) i = fourF x i:=by
 unfold fourT
 rw [strB_kstr _ _ _ _ (by rw [Nat.zero_add]; exact fourF_lt _ _) h,Nat.zero_add]
def blockL:ByteArray:=⟨#[98,108,111,99,107]⟩
def bsumX (p v:Nat) (s:ByteArray):ByteArray:=blockL ++ fourT p ++ fourT v ++ s
def bsumT (p v:Nat) (s:ByteArray):ByteArray:=hashT (bsumX p v s)
def leafX (x:Lf):ByteArray:=⟨#[0]⟩ ++ fourT x.v.toNat ++ x.h
def leafT (x:Lf):ByteArray:=hashT (leafX x)
def nodeX (a b:ByteArray):ByteArray:=⟨#[1]⟩ ++ a ++ b
def nodeT (a b:ByteArray):ByteArray:=hashT (nodeX a b)
def noneT:ByteArray:=hashT ⟨#[2]⟩
theorem leafX_size (x:Lf):(leafX x).size = 5 + x.h.size:=by
 unfold leafX
 rw [ByteArray.size_append,ByteArray.size_append,fourT_size]
 rfl
theorem nodeX_size (a b:ByteArray):(nodeX a b).size = 1 + a.size + b.size:=by
 unfold nodeX
 rw [ByteArray.size_append,ByteArray.size_append]
 rfl
theorem bsumX_size (p v:Nat) (s:ByteArray):(bsumX p v s).size = 13 + s.size:=by
 unfold bsumX
 rw [ByteArray.size_append,ByteArray.size_append,ByteArray.size_append,fourT_size,fourT_size]
 rfl
theorem leafX_is (x:Lf) (f:Nat→Nat) (hf:f 0 = 0) (i:Nat) (hi:i < 5 + x.h.size):Sha.cat 5 (numF 1 4 x.v.toNat f) (strB x.h) i = strB (leafX x) i:=by
 unfold leafX
 rw [strB_append,strB_append,ByteArray.size_append,fourT_size]
 show Sha.cat 5 _ _ i = if i < 1 + 4 then (if i < 1 then _ else _) else _
 unfold Sha.cat
 rcases Nat.lt_or_ge i 5 with h | h
 ·rw [if_pos h,if_pos (by omega)]
  rcases Nat.lt_or_ge i 1 with h1 | h1
  ·obtain rfl:i = 0:=by omega
   rw [if_pos (by omega)]
   unfold numF
   rw [if_pos (by omega),hf]
   rfl
  ·rw [if_neg (by omega)]
   show _ = strB (fourT x.v.toNat) (i - 1)
   rw [fourT_at _ _ (by omega),show i = 1 + (i - 1) from by omega,four_num,show 1 + (i - 1) - 1 = i - 1 from by omega]
 ·rw [if_neg (by omega),if_neg (by omega)]
  rfl
theorem nodeX_is (a b:ByteArray) (f:Nat→Nat) (hf:f 0 = 1) (i:Nat) (hi:i < 1 + a.size + b.size):Sha.cat (1 + a.size) (Sha.cat 1 f (strB a)) (strB b) i = strB (nodeX a b) i:=by
 unfold nodeX
 rw [strB_append,strB_append,ByteArray.size_append]
 show Sha.cat _ _ _ i = if i < 1 + a.size then (if i < 1 then _ else strB a (i - 1)) else strB b (i - (1 + a.size))
 unfold Sha.cat
 rcases Nat.lt_or_ge i (1 + a.size) with h | h
 ·rw [if_pos h,if_pos h]
  rcases Nat.lt_or_ge i 1 with h1 | h1
  ·obtain rfl:i = 0:=by omega
   rw [if_pos (by omega),if_pos (by omega),hf]
   rfl
  ·rw [if_neg (by omega),if_neg (by omega)]
 ·rw [if_neg (by omega),if_neg (by omega)]
theorem bsumX_is (p v:Nat) (s:ByteArray) (f:Nat→Nat) (hf:∀ i,i < 5→f i = strB blockL i) (i:Nat) (hi:i < 13 + s.size):Sha.cat 13 (numF 9 4 v (numF 5 4 p f)) (strB s) i = strB (bsumX p v s) i:=by
 unfold bsumX
 rw [strB_append,strB_append,strB_append,ByteArray.size_append,ByteArray.size_append,fourT_size,fourT_size]
 show Sha.cat 13 _ _ i = if i < 5 + 4 + 4 then (if i < 5 + 4 then (if i < 5 then strB blockL i else strB (fourT p) (i - 5)) else strB (fourT v) (i - (5 + 4))) else strB s (i - (5 + 4 + 4))
 unfold Sha.cat
 rcases Nat.lt_or_ge i 13 with h | h
 ·rw [if_pos h,if_pos (by omega)]
  rcases Nat.lt_or_ge i 9 with h1 | h1
  ·rw [if_pos (by omega)]
   rcases Nat.lt_or_ge i 5 with h2 | h2
   ·rw [if_pos h2]
    unfold numF
    rw [if_pos (by omega),if_pos h2,hf i h2]
   ·rw [if_neg (by omega),fourT_at _ _ (by omega)]
    have e:numF 9 4 v (numF 5 4 p f) i = numF 5 4 p f i:=by
     show (if i < 9 then numF 5 4 p f i else _) = _
     rw [if_pos h1]
    rw [e,show i = 5 + (i - 5) from by omega,four_num,show 5 + (i - 5) - 5 = i - 5 from by omega]
  ·rw [if_neg (by omega),fourT_at _ _ (by omega),show i = 9 + (i - 9) from by omega,four_num,show 9 + (i - 9) - (5 + 4) = i - 9 from by omega]
 ·rw [if_neg (by omega),if_neg (by omega)]
def gh (n:Nat):Nat:=(n + 1) / 2
def treeT (F:Nat→Lf) (o n:Nat):ByteArray :=
 if h:n = 0 then noneT else if h1:n = 1 then leafT (F o) else nodeT (treeT F o (gh n)) (treeT F (o + gh n) (n - gh n))
termination_by n
decreasing_by
 ·unfold gh; omega
 ·unfold gh; omega
theorem treeT_none (F:Nat→Lf) (o:Nat):treeT F o 0 = noneT:=by rw [treeT]; simp
theorem treeT_one (F:Nat→Lf) (o:Nat):treeT F o 1 = leafT (F o):=by rw [treeT]; simp
theorem treeT_two (F:Nat→Lf) (o n:Nat) (h:2≤n):treeT F o n = nodeT (treeT F o (gh n)) (treeT F (o + gh n) (n - gh n)):=by
 rw [treeT,dif_neg (by omega),dif_neg (by omega)]
theorem treeT_size (F:Nat→Lf) (o n:Nat):(treeT F o n).size = 32:=by
 rw [treeT]
 split
 ·exact hashT_size _
 ·split
  ·exact hashT_size _
  ·exact hashT_size _
theorem treeT_congr {F G:Nat→Lf} {n:Nat}:∀ {o p:Nat},(∀ i,i < n→F (o + i) = G (p + i))→treeT F o n = treeT G p n:=by
 induction n using Nat.strongRecOn with
 | ind n ih =>
  intro o p h
  rcases (show n = 0∨n = 1∨2≤n by omega) with rfl | rfl | h2
  ·rw [treeT_none,treeT_none]
  ·rw [treeT_one,treeT_one]
   have:=h 0 (by omega)
   rw [Nat.add_zero,Nat.add_zero] at this
   rw [this]
  ·have g1:gh n < n:=by unfold gh; omega
   have g2:n - gh n < n:=by unfold gh; omega
   rw [treeT_two _ _ _ h2,treeT_two _ _ _ h2,ih (gh n) g1 (fun i hi => h i (by omega)),ih (n - gh n) g2 (fun i hi => by
    have:=h (gh n + i) (by omega)
    rwa [← Nat.add_assoc,← Nat.add_assoc] at this)]
theorem gh_pos {n:Nat} (h:1≤n):1≤gh n:=by unfold gh; omega
theorem gh_lt {n:Nat} (h:2≤n):gh n < n:=by unfold gh; omega
theorem lit_own (w:World) (x:Nat):(w.alloc (.cells #[.int .u8 (x:Int)] 5)).ownsRow w.heap.size 5 1 (.slice (some ⟨w.heap.size,0,none⟩) 1 1) 1 (bv 1 (fun _ => x)) :=
 ⟨rfl,.inr ⟨w.heap.size,1,#[.int .u8 (x:Int)],rfl,Nat.le_refl _,heap_alloc_new w _,Nat.le_refl _,by unfold maxLen; omega,rfl,rfl⟩⟩
theorem catB (n:Nat) (F:Nat→Nat) (s:ByteArray):bv n F ++ Lib.strCells s = bv (n + s.size) (Sha.cat n F (strB s)):=by
 rw [strCells_bv,bv_append]
 rfl
theorem bvC {n:Nat} {F G:Nat→Nat} (h:∀ i,i < n→F i = G i):bv n F = bv n G:=List.map_congr_left (fun i hi => by rw [h i (List.mem_range.1 hi)])
theorem grownB {B b:Nat} {w w':World} (hB:B≤b) (hs:B≤w.heap.size) (h:w.grownBy w' (some b)):Below B w w':=(Below.refl B w).grown h hs (fun k hk => by cases hk; exact hB)
set_option maxRecDepth 100000 in
set_option maxHeartbeats 2000000 in
theorem leafRoot_any (x:Lf) (hx:x.Ok) (w:World) (ht:Tabs w) :
  Calls Tryz.prog 105 #[.agg #[.int .i64 x.v,.string x.h]] w fun e w' => e = .returned (.string (leafT x))∧Below w.heap.size w w':=by
 obtain ⟨i0,hi⟩:=info_parts Tryz.info8
 have HI:Hid (Tryz.prog.info? 5 = some i0∧i0.zero = some (.int .u8 0)∧i0.size = 1∧i0.bytes = 1):=hi
 obtain ⟨k,hk⟩:∃ k:Nat,x.v = (k:Int):=⟨x.v.toNat,by have:=hx.1.1; omega⟩
 have hs:x.h.size≤100:=by have:=hx.2; omega
 have HL:Hid (bv 5 (numF 1 4 k (fun _ => 0)) ++ Lib.strCells x.h = bv (5 + x.h.size) (strB (leafX x))):=by
  show _ = _
  rw [catB,show k = x.v.toNat from by omega]
  exact bvC (fun i hi => leafX_is x _ rfl i hi)
 have HH:Hid (∀ (b c:Nat) (w:World),Code8 w (some ⟨b,0,none⟩) (5 + x.h.size) (strB (leafX x))→Tabs w→Calls Tryz.prog 103 #[.slice (some ⟨b,0,none⟩) (5 + x.h.size) c] w fun e w' => e = .returned (.string (leafT x))∧Below w.heap.size w w'):=fun b c w h ht => by
  have:=hashed_any b 0 (5 + x.h.size) c (strB (leafX x)) (strB_lt _) (by omega) w h ht
  rwa [← leafX_size] at this ⊢
 obtain ⟨v,s⟩:=x
 dsimp only at hk hs HL HH ⊢
 subst hk
 generalize leafT ⟨(k:Int),s⟩ = RT at *
 generalize strB (leafX ⟨(k:Int),s⟩) = LX at *
 have AN:Hid (∀ (w:World) (g:Nat),g≤w.heap.size→w.ownsRow g 5 1 (.slice (some ⟨g,0,none⟩) 1 1) 1 (bv 1 (fun _ => 0))→Calls Tryz.prog 62 #[.slice (some ⟨g,0,none⟩) 1 1,.int .i64 (k:Int),.int .i64 4] w fun e w' => RetO g w' e 5 (numF 1 4 k (fun _ => 0))∧Below g w w'):=fun w g hg h => appendNumber_any g g 1 1 k 4 (fun _ => 0) (by omega) (by omega) w hg h
 generalize numF 1 4 k (fun _ => 0) = NF at *
 have T0:Hid (Tabs w):=ht
 have W1:Below w.heap.size w (w.alloc (.cells #[.int .i64 (k:Int),.string s] 106)):=(Below.refl _ _).alloc (Nat.le_refl _) _
 have X1:=Box2.made w 106 (.int .i64 (k:Int)) (.string s)
 have s1:(w.alloc (.cells #[.int .i64 (k:Int),.string s] 106)).heap.size = w.heap.size + 1:=by simp
 have O2:=lit_own (w.alloc (.cells #[.int .i64 (k:Int),.string s] 106)) 0
 rw [s1] at O2
 have W2:Below w.heap.size w ((w.alloc (.cells #[.int .i64 (k:Int),.string s] 106)).alloc (.cells #[.int .u8 0] 5)):=W1.alloc (by rw [s1]; omega) _
 have X2:Box2 ((w.alloc (.cells #[.int .i64 (k:Int),.string s] 106)).alloc (.cells #[.int .u8 0] 5)) w.heap.size 106 (.int .i64 (k:Int)) (.string s):=X1.alloc _
 have s2:w.heap.size + 1≤((w.alloc (.cells #[.int .i64 (k:Int),.string s] 106)).alloc (.cells #[.int .u8 0] 5)).heap.size:=by simp
 have HO2:Hid _:=O2
 have HW2:Hid _:=W2
 have HX2:Hid _:=X2
 have HS2:Hid _:=s2
 clear hi hx ht W1 X1 s1 O2 W2 X2 s2
 go_enter Tryz.func105,Tryz.ntmps105
 go_wp2_with fail
 generalize ((w.alloc (.cells #[.int .i64 (k:Int),.string s] 106)).alloc (.cells #[.int .u8 0] 5)) = v2 at *
 refine (AN.out _ _ HS2.out HO2.out).mono ?_
 rintro e v3 ⟨⟨g,c,rfl,hown⟩,hb⟩
 have X3:Box2 v3 w.heap.size 106 (.int .i64 (k:Int)) (.string s):=Box2.ofBlock HX2.out (hb.block _ (by omega))
 have HW3:Hid (Below w.heap.size w v3):=HW2.out.trans (hb.mono (by omega))
 have HO3:Hid (v3.ownsRow (w.heap.size + 1) 5 1 (.slice (some ⟨g,0,none⟩) 5 c) 5 (bv 5 NF)):=hown
 have hsz:w.heap.size + 1≤v3.heap.size:=Nat.le_trans HS2.out hb.size
 have hg1:w.heap.size + 1≤g:=(World.ownsRow.lt hown g rfl).1
 have x0:=X3.c0
 have x1:=X3.c1
 clear hb hown HO2 HW2 HX2 HS2 X3 AN
 go_wp2_with (at_builtin; refine Lib.wpList_append_own_string _ rfl _ _ 68 9 rfl (w.heap.size + 1) 5 i0 Tryz.underlying68 Tryz.underlying9 HI.out.1 HI.out.2.1 HI.out.2.2.1 HI.out.2.2.2 (.slice (some ⟨g,0,none⟩) 5 c) 5 _ rfl HO3.out s rfl (by unfold maxLen; omega) (by omega) hsz ?_)
 intro v4 w4 hown4 hgrow4 hnil4
 rw [HL.out] at hown4
 have W4:Hid (Below w.heap.size w w4):=HW3.out.trans (grownB (b:=g) (by omega) (by omega) hgrow4)
 obtain ⟨g4,c4,⟨_,_⟩,rfl,ho8⟩:=own8_of_own (n:=5 + s.size) hown4 hnil4
 have K4:Hid (Code8 w4 (some ⟨g4,0,none⟩) (5 + s.size) LX):=ho8.code
 clear hown4 hgrow4 hnil4 ho8 HO3 HW3 hsz hg1 x0 x1 HI HL
 go_wp2_with fail
 refine (HH.out g4 c4 _ K4.out (T0.out.below W4.out)).mono ?_
 rintro e w5 ⟨rfl,hb⟩
 have W5:Hid (Below w.heap.size w w5):=W4.out.trans (hb.mono W4.out.size)
 clear hb K4 W4 HH
 go_wp2
 go_ret
 exact ⟨rfl,W5.out⟩
set_option maxRecDepth 100000 in
set_option maxHeartbeats 2000000 in
theorem nodeRoot_any (a b:ByteArray) (ha:a.size≤100) (hb:b.size≤100) (w:World) (ht:Tabs w) :
  Calls Tryz.prog 106 #[.string a,.string b] w fun e w' => e = .returned (.string (nodeT a b))∧Below w.heap.size w w':=by
 obtain ⟨i0,hi⟩:=info_parts Tryz.info8
 have HI:Hid (Tryz.prog.info? 5 = some i0∧i0.zero = some (.int .u8 0)∧i0.size = 1∧i0.bytes = 1):=hi
 have HL0:Hid (bv 1 (fun _ => 1) ++ Lib.strCells a = bv (1 + a.size) (Sha.cat 1 (fun _ => 1) (strB a))):=catB _ _ _
 have HL:Hid (bv (1 + a.size) (Sha.cat 1 (fun _ => 1) (strB a)) ++ Lib.strCells b = bv (1 + a.size + b.size) (strB (nodeX a b))):=by
  show _ = _
  rw [catB]
  exact bvC (fun i hi => nodeX_is a b _ rfl i hi)
 have HH:Hid (∀ (g c:Nat) (w:World),Code8 w (some ⟨g,0,none⟩) (1 + a.size + b.size) (strB (nodeX a b))→Tabs w→Calls Tryz.prog 103 #[.slice (some ⟨g,0,none⟩) (1 + a.size + b.size) c] w fun e w' => e = .returned (.string (nodeT a b))∧Below w.heap.size w w'):=fun g c w h ht => by
  have:=hashed_any g 0 (1 + a.size + b.size) c (strB (nodeX a b)) (strB_lt _) (by omega) w h ht
  rwa [← nodeX_size] at this ⊢
 generalize nodeT a b = RT at *
 generalize strB (nodeX a b) = NX at *
 generalize Sha.cat 1 (fun _ => 1) (strB a) = C1 at *
 have T0:Hid (Tabs w):=ht
 have O1:Hid _:=lit_own w 1
 have W1:Hid (Below w.heap.size w (w.alloc (.cells #[.int .u8 1] 5))):=(Below.refl _ _).alloc (Nat.le_refl _) _
 have hsz:w.heap.size≤(w.alloc (.cells #[.int .u8 1] 5)).heap.size:=by simp
 clear hi ht
 go_enter Tryz.func106,Tryz.ntmps106
 go_wp2_with (at_builtin; refine Lib.wpList_append_own_string _ rfl _ _ 68 9 rfl w.heap.size 5 i0 Tryz.underlying68 Tryz.underlying9 HI.out.1 HI.out.2.1 HI.out.2.2.1 HI.out.2.2.2 (.slice (some ⟨w.heap.size,0,none⟩) 1 1) 1 _ rfl O1.out a rfl (by unfold maxLen; omega) (by omega) hsz ?_)
 intro v2 w2 hown2 hgrow2 hnil2
 rw [HL0.out] at hown2
 have W2:Hid (Below w.heap.size w w2):=W1.out.trans (grownB (b:=w.heap.size) (by omega) (by omega) hgrow2)
 have hsz2:w.heap.size≤w2.heap.size:=W2.out.size
 obtain ⟨g2,c2,⟨hg2,_⟩,rfl,_⟩:=own8_of_own (n:=1 + a.size) hown2 hnil2
 have O2:Hid _:=hown2
 clear hown2 hgrow2 hnil2 O1 W1 hsz HL0
 go_wp2_with (at_builtin; refine Lib.wpList_append_own_string _ rfl _ _ 68 9 rfl w.heap.size 5 i0 Tryz.underlying68 Tryz.underlying9 HI.out.1 HI.out.2.1 HI.out.2.2.1 HI.out.2.2.2 (.slice (some ⟨g2,0,none⟩) (1 + a.size) c2) (1 + a.size) _ rfl O2.out b rfl (by unfold maxLen; omega) (by omega) hsz2 ?_)
 intro v3 w3 hown3 hgrow3 hnil3
 rw [HL.out] at hown3
 have W3:Hid (Below w.heap.size w w3):=W2.out.trans (grownB (b:=g2) (World.ownsRow.lt O2.out g2 rfl).1 hsz2 hgrow3)
 obtain ⟨g3,c3,⟨_,_⟩,rfl,ho8⟩:=own8_of_own (n:=1 + a.size + b.size) hown3 hnil3
 have K3:Hid (Code8 w3 (some ⟨g3,0,none⟩) (1 + a.size + b.size) NX):=ho8.code
 clear hown3 hgrow3 hnil3 ho8 O2 W2 hsz2 hg2 HI HL
 go_wp2_with fail
 refine (HH.out g3 c3 _ K3.out (T0.out.below W3.out)).mono ?_
 rintro e w5 ⟨rfl,hb⟩
 have W5:Hid (Below w.heap.size w w5):=W3.out.trans (hb.mono W3.out.size)
 clear hb K3 W3 HH
 go_wp2
 go_ret
 exact ⟨rfl,W5.out⟩
theorem greaterHalf_any (n:Nat) (hn:n≤1000) (w:World):Calls Tryz.prog 154 #[.int .i64 (n:Int)] w fun e w' => e = .returned (.int .i64 ((gh n:Nat):Int))∧w = w':=by
 have e2:((n:Int) + 1) / 2 = ((gh n:Nat):Int):=by unfold gh; omega
 have HG:Hid (((n:Int) + 1) / 2 = ((gh n:Nat):Int)):=e2
 generalize gh n = G at *
 clear e2
 go_enter Tryz.func154,Tryz.ntmps154
 go_wp2
 go_ret
 exact ⟨by rw [← HG.out]; rfl,rfl⟩
theorem leaf_elem:Tryz.prog.elem 103 = 106:=by kernel_rfl
theorem leaf_under:Tryz.prog.underlying 103 = some (.slice (Tryz.prog.elem 103)):=by rw [leaf_elem]; exact Tryz.underlying103
theorem leaf_sizeOf (w:World):(sizeOf (Tryz.prog.elem 103)).run Tryz.prog w = .ok 2 w:=by
 obtain ⟨i,hi,hz,hsz,hby⟩:=info_parts Tryz.infoLf
 simp [sizeOf,typeInfo,leaf_elem,hi,hsz]
set_option maxRecDepth 100000 in
set_option maxHeartbeats 4000000 in
theorem folded_any (n:Nat):∀ (b off c:Nat) (LF:Nat→Lf),1≤n→n≤32→n≤c→c≤maxLen→(∀ i,i < n→(LF i).Ok)→∀ w:World,Els w 2 (some ⟨b,off,none⟩) n (lfF LF)→Tabs w →
  Calls Tryz.prog 104 #[.slice (some ⟨b,off,none⟩) n c,.func (.func 105) #[] #[],.func (.func 106) #[] #[]] w fun e w' => e = .returned (.string (treeT LF 0 n))∧Below w.heap.size w w':=by
 induction n using Nat.strongRecOn with
 | ind n ih =>
  intro b off c LF h1 h32 hc hcm hok w h ht
  rcases (show n = 1∨2≤n by omega) with rfl | h2
  ·rw [treeT_one]
   have LR:Hid (Calls Tryz.prog 105 #[.agg #[.int .i64 (LF 0).v,.string (LF 0).h]] w fun e w' => e = .returned (.string (leafT (LF 0)))∧Below w.heap.size w w'):=leafRoot_any _ (hok 0 (by omega)) w ht
   obtain ⟨b',off',e,hcc⟩:=h 0 (by omega)
   cases e
   have c0:=hcc 0 (by omega)
   have c1:=hcc 1 (by omega)
   simp only [lfF,lfV,Nat.zero_mul,Nat.add_zero] at c0 c1
   generalize leafT (LF 0) = RT at *
   clear h hok ht hcc ih
   go_enter Tryz.func104,Tryz.ntmps104
   go_wp2_with fail
   refine LR.out.mono ?_
   rintro e w1 ⟨rfl,hb⟩
   have B1:Hid (Below w.heap.size w w1):=hb
   clear hb LR c0 c1
   go_wp2
   go_ret
   exact ⟨rfl,B1.out⟩
  ·have g1:=gh_lt h2
   have g0:=gh_pos (n:=n) (by omega)
   have SP:SlP (some ⟨b,off,none⟩) n c:=⟨(fun e => by cases e),.inr ⟨b,off,rfl⟩,hc,hcm⟩
   obtain ⟨k,hk⟩:∃ k,k = gh n:=⟨_,rfl⟩
   have CT:=run_cut_to (P:=Tryz.prog) 103 leaf_under 2 leaf_sizeOf SP k (by omega)
   have CF:=run_cut_from (P:=Tryz.prog) 103 leaf_under 2 leaf_sizeOf SP k (by omega)
   have hcut:cutA (some ⟨b,off,none⟩) c k 2 = some ⟨b,off + k * 2,none⟩:=by
    unfold cutA
    rw [if_neg (by omega)]
    exact congrArg some (Go.WideShapes.add_plain ..)
   rw [hcut] at CF
   have GH:Hid (∀ w:World,Calls Tryz.prog 154 #[.int .i64 (n:Int)] w fun e w' => e = .returned (.int .i64 (k:Int))∧w = w'):=fun w => by rw [hk]; exact greaterHalf_any n (by omega) w
   have F1:Hid (∀ w:World,Els w 2 (some ⟨b,off,none⟩) n (lfF LF)→Tabs w→Calls Tryz.prog 104 #[.slice (some ⟨b,off,none⟩) k c,.func (.func 105) #[] #[],.func (.func 106) #[] #[]] w fun e w' => e = .returned (.string (treeT LF 0 k))∧Below w.heap.size w w'):=fun w h ht => ih k (by omega) b off c LF (by omega) (by omega) (by omega) hcm (fun i hi => hok i (by omega)) w (h.less (by omega)) ht
   have F2:Hid (∀ w:World,Els w 2 (some ⟨b,off,none⟩) n (lfF LF)→Tabs w→Calls Tryz.prog 104 #[.slice (some ⟨b,off + k * 2,none⟩) (n - k) (c - k),.func (.func 105) #[] #[],.func (.func 106) #[] #[]] w fun e w' => e = .returned (.string (treeT LF k (n - k)))∧Below w.heap.size w w'):=fun w h ht => by
    have:=ih (n - k) (by omega) b (off + k * 2) (c - k) (fun i => LF (k + i)) (by omega) (by omega) (by omega) (by omega) (fun i hi => hok _ (by omega)) w (h.behind k (by omega)) ht
    rwa [treeT_congr (F:=fun i => LF (k + i)) (G:=LF) (o:=0) (p:=k) (fun i hi => by rw [Nat.zero_add])] at this
   have NR:Hid (∀ w:World,Tabs w→Calls Tryz.prog 106 #[.string (treeT LF 0 k),.string (treeT LF k (n - k))] w fun e w' => e = .returned (.string (treeT LF 0 n))∧Below w.heap.size w w'):=fun w ht => by
    have:=nodeRoot_any (treeT LF 0 k) (treeT LF k (n - k)) (by rw [treeT_size]; omega) (by rw [treeT_size]; omega) w ht
    rw [hk] at this ⊢
    rw [treeT_two _ _ _ h2,Nat.zero_add]
    exact this
   generalize treeT LF 0 n = RT at *
   generalize treeT LF 0 k = R1 at *
   generalize treeT LF k (n - k) = R2 at *
   have HT:Hid (Tabs w):=ht
   have HE:Hid (Els w 2 (some ⟨b,off,none⟩) n (lfF LF)):=h
   have ne:((n:Int) == 1) = false:=by simp; omega
   have dk:((n:Int) - (k:Int)).toNat = n - k:=by omega
   have CT':Hid _:=CT
   have CF':Hid _:=CF
   clear h ht hok ih hcut SP hk g1 g0 CT CF
   go_enter Tryz.func104,Tryz.ntmps104
   go_wp2_with fail
   refine (GH.out _).mono ?_
   rintro e w1 ⟨rfl,rfl⟩
   go_upto_region 4 with fail
   have H:Below w.heap.size w w.drew:=(Below.refl _ _).drew
   refine wp_region_noPanic ?_
   refine wp_region_held_drew (S:=fun w' => Below w.heap.size w w') (by kernel_rfl) H (fun _ => ?_)
   generalize w.drew = x0 at *
   refine tkH (i:=0) (v:=.func (.func 106) #[] #[]) rfl (by kernel_rfl) (by rfl) ?_ H ?_
   ·intro w' hSw; go_simp
   refine ch33 ?_
   refine tkH (i:=1) (v:=.slice (some ⟨b,off,none⟩) n c) rfl (by kernel_rfl) (by rfl) ?_ H ?_
   ·intro w' hSw; go_simp
   refine ch33 ?_
   refine tkH (i:=2) (v:=.int .i64 (k:Int)) rfl (by kernel_rfl) (by rfl) ?_ H ?_
   ·intro w' hSw; go_simp
   refine ch33 ?_
   refine tkH (i:=3) (v:=.slice (some ⟨b,off,none⟩) k c) rfl (by kernel_rfl) (by rfl) ?_ H ?_
   ·intro w' hSw; have CC:=CT'.out; go_simp
   refine ch33 ?_
   refine tkH (i:=4) (v:=.func (.func 105) #[] #[]) rfl (by kernel_rfl) (by rfl) ?_ H ?_
   ·intro w' hSw; go_simp
   refine ch33 ?_
   refine tkH (i:=5) (v:=.func (.func 106) #[] #[]) rfl (by kernel_rfl) (by rfl) ?_ H ?_
   ·intro w' hSw; go_simp
   refine ch33 ?_
   refine tkH (i:=7) (v:=.slice (some ⟨b,off,none⟩) n c) rfl (by kernel_rfl) (by rfl) ?_ H ?_
   ·intro w' hSw; go_simp
   refine ch33 ?_
   refine tkH (i:=8) (v:=.int .i64 (k:Int)) rfl (by kernel_rfl) (by rfl) ?_ H ?_
   ·intro w' hSw; go_simp
   refine ch33 ?_
   refine tkH (i:=9) (v:=.slice (some ⟨b,off + k * 2,none⟩) (n - k) (c - k)) rfl (by kernel_rfl) (by rfl) ?_ H ?_
   ·intro w' hSw; have CC:=CF'.out; go_simp
   refine ch33 ?_
   refine tkH (i:=10) (v:=.func (.func 105) #[] #[]) rfl (by kernel_rfl) (by rfl) ?_ H ?_
   ·intro w' hSw; go_simp
   refine ch33 ?_
   refine tkH (i:=11) (v:=.func (.func 106) #[] #[]) rfl (by kernel_rfl) (by rfl) ?_ H ?_
   ·intro w' hSw; go_simp
   refine ch33 ?_
   refine wpAnyH_ready (rs:=[6]) (by kernel_rfl) (by simp) ?_
   refine AllReadyH.cons rfl (fun KK hK => ?_) AllReadyH.nil
   go_simp
   refine (F1.out _ (HE.out.below H) (HT.out.below H)).mono ?_
   rintro e x1 ⟨rfl,hb⟩
   replace H:Below w.heap.size w x1:=H.trans (hb.mono H.size)
   clear hb
   refine hK.out _ _ H (fun _ => ?_)
   clear hK KK
   refine ch33 ?_
   refine wpAnyH_ready (rs:=[12]) (by kernel_rfl) (by simp) ?_
   refine AllReadyH.cons rfl (fun KK hK => ?_) AllReadyH.nil
   go_simp
   refine (F2.out _ (HE.out.below H) (HT.out.below H)).mono ?_
   rintro e x2 ⟨rfl,hb⟩
   replace H:Below w.heap.size w x2:=H.trans (hb.mono H.size)
   clear hb
   refine hK.out _ _ H (fun _ => ?_)
   clear hK KK
   refine ch33 ?_
   refine wpAnyH_ready (rs:=[13]) (by kernel_rfl) (by simp) ?_
   refine AllReadyH.cons rfl (fun KK hK => ?_) AllReadyH.nil
   go_simp
   refine (NR.out _ (HT.out.below H)).mono ?_
   rintro e x3 ⟨rfl,hb⟩
   replace H:Below w.heap.size w x3:=H.trans (hb.mono H.size)
   clear hb
   refine hK.out _ _ H (fun _ => ?_)
   clear hK KK
   refine ch33 ?_
   refine tkH (i:=14) (v:=.string RT) rfl (by kernel_rfl) (by rfl) ?_ H ?_
   ·intro w' hSw; go_simp
   refine ch33 ?_
   refine wpAnyH_done (by kernel_rfl) ?_ _
   refine NoPanic.normal ?_
   have B1:Hid (Below w.heap.size w x3):=H
   clear H HE HT F1 F2 NR GH CT' CF' ne dk
   go_wp2
   go_ret
   exact ⟨rfl,B1.out⟩
set_option maxRecDepth 100000 in
theorem rootOver_any (a:Option Addr) (n c:Nat) (LF:Nat→Lf) (h32:n≤32) (hc:n≤c) (hcm:c≤maxLen) (hok:∀ i,i < n→(LF i).Ok) (w:World) (h:Els w 2 a n (lfF LF)) (ht:Tabs w) :
  Calls Tryz.prog 69 #[.slice a n c] w fun e w' => e = .returned (.string (treeT LF 0 n))∧Below w.heap.size w w':=by
 rcases Nat.eq_zero_or_pos n with rfl | hp
 ·rw [treeT_none]
  have HH:Hid (∀ (b:Nat) (w:World),Code8 w (some ⟨b,0,none⟩) 1 (fun _ => 2)→Tabs w→Calls Tryz.prog 103 #[.slice (some ⟨b,0,none⟩) 1 1] w fun e w' => e = .returned (.string noneT)∧Below w.heap.size w w'):=fun b w h ht => by
   have h':Code8 w (some ⟨b,0,none⟩) 1 (strB ⟨#[2]⟩):=fun i hi => by
    obtain rfl:i = 0:=by omega
    exact h 0 (by omega)
   exact hashed_any _ 0 1 1 (strB ⟨#[2]⟩) (strB_lt _) (by omega) w h' ht
  have K:Hid (Code8 (w.alloc (.cells #[.int .u8 2] 5)) (some ⟨w.heap.size,0,none⟩) 1 (fun _ => 2)):=code8_of (fun i hi => by
   obtain rfl:i = 0:=by omega
   simp)
  have HB:Hid (Below w.heap.size w (w.alloc (.cells #[.int .u8 2] 5))):=(Below.refl _ _).alloc (Nat.le_refl _) _
  have HT:Hid (Tabs (w.alloc (.cells #[.int .u8 2] 5))):=ht.below HB.out
  have HC:=HH.out _ _ K.out HT.out
  have HC':Hid _:=HC
  generalize noneT = RT at *
  clear HH h ht hok K HT HC
  go_enter Tryz.func69,Tryz.ntmps69
  go_wp2_with fail
  refine Calls.mono HC'.out ?_
  rintro e w1 ⟨rfl,hb⟩
  have B1:Hid (Below w.heap.size w w1):=HB.out.trans (hb.mono HB.out.size)
  clear hb HC' HB
  go_wp2
  go_ret
  exact ⟨rfl,B1.out⟩
 ·obtain ⟨b,off,rfl,_⟩:=h.opened hp
  have FD:Hid (Calls Tryz.prog 104 #[.slice (some ⟨b,off,none⟩) n c,.func (.func 105) #[] #[],.func (.func 106) #[] #[]] w fun e w' => e = .returned (.string (treeT LF 0 n))∧Below w.heap.size w w'):=folded_any n b off c LF (by omega) h32 hc hcm hok w h ht
  have ne:((n:Int) == 0) = false:=by simp; omega
  generalize treeT LF 0 n = RT at *
  clear h ht hok
  go_enter Tryz.func69,Tryz.ntmps69
  go_wp2_with fail
  refine FD.out.mono ?_
  rintro e w1 ⟨rfl,hb⟩
  have B1:Hid (Below w.heap.size w w1):=hb
  clear hb FD
  go_wp2
  go_ret
  exact ⟨rfl,B1.out⟩
set_option maxRecDepth 100000 in
theorem filesOk_none (w:World):Calls Tryz.prog 92 #[.slice none 0 0] w fun e w' => e = .returned (.bool true)∧w = w':=by
 go_enter Tryz.func92,Tryz.ntmps92
 go_wp2
 go_loopw [10] (fun i wr => i = .int .i64 0∧w = wr) (fun i _ => 0)
 case atStart => exact ⟨rfl,rfl⟩
 case round =>
  obtain ⟨rfl,rfl⟩:=hrel
  go_wp2
  go_ret
  exact ⟨rfl,rfl⟩
set_option maxRecDepth 100000 in
theorem containsF_none (f:Value) (w:World):Calls Tryz.prog 90 #[.slice none 0 0,f] w fun e w' => e = .returned (.bool false)∧w = w':=by
 have C1:Calls Tryz.prog 126 #[.slice none 0 0,f] w fun e w' => e = .returned (.int .i64 (-1))∧w = w':=by
  go_enter Tryz.func126,Tryz.ntmps126
  go_wp2
  go_loopw [8] (fun i wr => i = .int .i64 0∧w = wr) (fun i _ => 0)
  case atStart => exact ⟨rfl,rfl⟩
  case round =>
   obtain ⟨rfl,rfl⟩:=hrel
   go_wp2
   go_ret
   exact ⟨rfl,rfl⟩
 go_enter Tryz.func90,Tryz.ntmps90
 go_wp2_with fail
 refine C1.mono ?_
 rintro e _ ⟨rfl,rfl⟩
 go_wp2
 go_ret
 exact ⟨rfl,rfl⟩
set_option maxRecDepth 100000 in
theorem filesFault_none (w:World):Calls Tryz.prog 60 #[.slice none 0 0,.slice none 0 0] w fun e w' => e = .returned (.int .i64 0)∧w = w':=by
 have C1:=fun f => containsF_none f w
 have C2:=filesOk_none w
 go_enter Tryz.func60,Tryz.ntmps60
 go_wp2_with fail
 refine (C1 _).mono ?_
 rintro e _ ⟨rfl,rfl⟩
 go_wp2_with fail
 refine C2.mono ?_
 rintro e _ ⟨rfl,rfl⟩
 go_wp2
 go_loopw [19] (fun i wr => i = .int .i64 0∧w = wr) (fun i _ => 0)
 case atStart => exact ⟨rfl,rfl⟩
 case round =>
  obtain ⟨rfl,rfl⟩:=hrel
  go_wp2
  go_ret
  exact ⟨rfl,rfl⟩
set_option maxRecDepth 100000 in
theorem filesBytes_none (w:World):Calls Tryz.prog 42 #[.slice none 0 0] w fun e w' => e = .returned (.tuple #[.slice (some ⟨w.heap.size,0,none⟩) 1 1,.int .i64 0])∧w' = w.alloc (.cells #[.int .u8 0] 5):=by
 have C1:=filesFault_none w
 go_enter Tryz.func42,Tryz.ntmps42
 go_wp2_with fail
 refine C1.mono ?_
 rintro e _ ⟨rfl,rfl⟩
 clear C1
 go_wp2
 go_loopw [5,19] (fun s i wr => s = .slice (some ⟨w.heap.size,0,none⟩) 1 1∧i = .int .i64 0∧wr = w.alloc (.cells #[.int .u8 0] 5)) (fun _ _ _ => 0)
 case atStart => exact ⟨rfl,rfl,rfl⟩
 case round =>
  obtain ⟨rfl,rfl,rfl⟩:=hrel
  go_wp2
  exact bodyPost_ret (results_tmp2 Tryz.results42 _ _ _) rfl ⟨rfl,rfl⟩
set_option maxRecDepth 100000 in
theorem l11Bytes_none (a:Option Addr) (c:Nat) (w:World):Calls Tryz.prog 32 #[.slice a 0 c] w fun e w' => e = .returned (.slice (some ⟨w.heap.size,0,none⟩) 1 1)∧w' = w.alloc (.cells #[.int .u8 0] 5):=by
 go_enter Tryz.func32,Tryz.ntmps32
 go_wp2
 go_loopw [3,4] (fun s i wr => s = .slice (some ⟨w.heap.size,0,none⟩) 1 1∧i = .int .i64 0∧wr = w.alloc (.cells #[.int .u8 0] 5)) (fun _ _ _ => 0)
 case atStart => exact ⟨rfl,rfl,rfl⟩
 case round =>
  obtain ⟨rfl,rfl,rfl⟩:=hrel
  go_wp2
  go_ret
  exact ⟨rfl,rfl⟩
end Go.Proofs.YtcpjeopnhgoonaaGreatDoor
