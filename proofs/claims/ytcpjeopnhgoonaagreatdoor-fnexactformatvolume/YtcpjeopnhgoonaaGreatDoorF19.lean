/-
  Texts of the proof, joined.
-/
import Derived.Test.YtcpjeopnhgoonaaGreatDoorF18
import Derived.Test.YtcpjeopnhgoonaaGreatDoorF08
namespace Go.Proofs.YtcpjeopnhgoonaaGreatDoor
open Go.ChangeShapes Go.WideShapes Go.ChangeAt Go.RowKit
set_option linter.unusedVariables false
open Classical in
noncomputable def gB (P:Prop):Bool:=decide P
theorem gB_yes {P:Prop} (h:P):gB P = true:=by unfold gB; simp [h]
theorem gB_no {P:Prop} (h:¬ P):gB P = false:=by unfold gB; simp [h]
def pcsN (n:Nat):Nat:=(n + 63) / 64
theorem pcsN_le {n:Nat} (h:n≤1024):pcsN n≤16:=by unfold pcsN; omega
theorem pcsN_div (n:Nat):((n:Int) + 63).tdiv 64 = ((pcsN n:Nat):Int):=by
 unfold pcsN
 have e:((n:Int) + 63) = ((n + 63:Nat):Int):=by omega
 rw [e]
 exact (Int.ofNat_tdiv _ _).symm
def PcsOk (n:Nat) (F:Nat→ByteArray):Prop:=n≤16∧∀ i,i < n→(1≤(F i).size∧(F i).size≤64)∧(i + 1 < n→(F i).size = 64)
set_option maxRecDepth 100000 in
theorem implPc_no (z:Int) (h:¬ (0≤z∧z≤1024)) (w:World) :
  Calls Tryz.prog 63 #[.int .i64 z] w fun e w' => e = .returned (.tuple #[.int .i64 0,.int .i64 4])∧w = w':=by
 by_cases h0:z < 0
 ·clear h
  go_enter Tryz.func63,Tryz.ntmps63
  go_wp2
  exact bodyPost_ret (results_tmp2 Tryz.results63 _ _ _) rfl ⟨rfl,rfl⟩
 ·have h1:1024 < z:=by omega
  clear h
  go_enter Tryz.func63,Tryz.ntmps63
  go_wp2
  exact bodyPost_ret (results_tmp2 Tryz.results63 _ _ _) rfl ⟨rfl,rfl⟩
set_option maxRecDepth 100000 in
theorem implPc_ok (n:Nat) (h:n≤1024) (w:World) :
  Calls Tryz.prog 63 #[.int .i64 (n:Int)] w fun e w' => e = .returned (.tuple #[.int .i64 ((pcsN n:Nat):Int),.int .i64 0])∧w = w':=by
 have h0:¬ (n:Int) < 0:=by omega
 have h1:¬ (1024:Int) < (n:Int):=by omega
 have h2:=pcsN_div n
 have h3:((n:Int) + 63) / 64 = ((pcsN n:Nat):Int):=by unfold pcsN; omega
 have h4:(n:Int) + 64 - 1 = (n:Int) + 63:=by omega
 go_enter Tryz.func63,Tryz.ntmps63
 go_wp2
 exact bodyPost_ret (results_tmp2 Tryz.results63 _ _ _) rfl ⟨rfl,rfl⟩
def inF (C:Nat→Int) (i j:Nat):Value:=.int .i64 (C i)
def IE (w:World) (B:Nat) (v:Value) (n:Nat) (C:Nat→Int):Prop:=EO w B 3 1 v n (inF C)
theorem Tryz.infoInE:(Tryz.prog.info? 3).map (fun i => (i.zero,i.size,i.bytes)) = some (some (.int .i64 0),1,8):=by kernel_rfl
theorem IE.congr {w:World} {B:Nat} {v:Value} {n:Nat} {C D:Nat→Int} (h:IE w B v n C) (e:∀ i,i < n→C i = D i):IE w B v n D:=EO.congr h (fun i hi j hj => by unfold inF; rw [e i hi])
set_option maxRecDepth 100000 in
theorem IE.app (w:World) (B:Nat) (v:Value) (n q:Nat) (C:Nat→Int) (x:Int) (hB:B≤w.heap.size) (hn:n≤100000) (h:IE w B v n C) (hx:w.cell? ⟨q,0,none⟩ = some (.int .i64 x)) :
  ∃ v' w',(∀ ty,(Builtin.append_ #[71,71] ty #[v,.slice (some ⟨q,0,none⟩) 1 1]).run Tryz.prog w = .ok v' w')∧IE w' B v' (n + 1) (updE C n x)∧w.grownBy w' v.ownBlock∧(v'.ownBlock = v.ownBlock∨v'.ownBlock = some w.heap.size):=by
 obtain ⟨i,hi,hz,hsz,hby⟩:=info_parts Tryz.infoInE
 obtain ⟨v',w',hr,ho,hg,_,hloc⟩:=run_append_own_at (P:=Tryz.prog) w B 71 71 3 i _ 1 8 Tryz.underlying71 hi hz hsz hby rfl (by decide) v n _ h ⟨q,0,none⟩ 1 1 [.int .i64 x] (by simp) (fun j u hj => by
  match j,hj with
  | 0,hj =>
   have e:Value.int .i64 x = u:=by simpa using hj
   subst e
   exact hx) (fun u hu => by
   rw [List.mem_singleton.1 hu]; rfl) (by unfold maxLen; omega) (by omega) hB
 refine ⟨v',w',fun ty => hr,?_,hg,hloc⟩
 unfold IE EO
 rw [elv_snoc,elv_congr (G:=inF C) (fun i hi j hj => by unfold inF updE; rw [if_neg (by omega)])]
 have e:(List.range 1).map (inF (updE C n x) n) = [.int .i64 x]:=by unfold inF updE; simp
 rw [e]
 exact ho
open Classical in
noncomputable def dirL (P:Nat→Prop):Nat→List Nat
 | 0 => []
 | k + 1 => if P k then dirL P k ++ [k] else dirL P k
theorem dirL_yes {P:Nat→Prop} {k:Nat} (h:P k):dirL P (k + 1) = dirL P k ++ [k]:=by
 simp [dirL,h]
theorem dirL_no {P:Nat→Prop} {k:Nat} (h:¬ P k):dirL P (k + 1) = dirL P k:=by
 simp [dirL,h]
theorem dirL_le (P:Nat→Prop):∀ k,(dirL P k).length≤k
 | 0 => by simp [dirL]
 | k + 1 => by
  have:=dirL_le P k
  by_cases h:P k
  ·rw [dirL_yes h,List.length_append]; simp; omega
  ·rw [dirL_no h]; omega
def nthI (L:List Nat) (i:Nat):Int:=((L.getD i 0:Nat):Int)
theorem nthI_snoc (L:List Nat) (x:Nat) (i:Nat) (h:i < L.length + 1):updE (nthI L) L.length (x:Int) i = nthI (L ++ [x]) i:=by
 unfold updE nthI
 by_cases e:i = L.length
 ·subst e; rw [if_pos rfl]; simp
 ·rw [if_neg e,List.getD_eq_getElem?_getD,List.getD_eq_getElem?_getD,List.getElem?_append_left (by omega)]
theorem litInt (w:World) (x:Int):(w.alloc (.cells #[.int .i64 x] 3)).cell? ⟨w.heap.size,0,none⟩ = some (.int .i64 x):=(World.rowIs_alloc w #[.int .i64 x] 3 (fun _ => .int .i64 x) (fun i hi => by
  obtain rfl:i = 0:=by simpa using hi
  rfl)).cell (i:=0) (by simp)
theorem appNum {w wr:World} {a:Option Addr} {q c:Nat} {L:List Nat} (x:Nat) (hq:q = L.length) (hl:q≤1000) (h:IE wr w.heap.size (.slice a q c) q (nthI L)) (hb:Below w.heap.size w wr) :
  ∃ a' c' w',(∀ ty,(Builtin.append_ #[71,71] ty #[.slice a q c,.slice (some ⟨wr.heap.size,0,none⟩) 1 1]).run Tryz.prog (wr.alloc (.cells #[.int .i64 (x:Int)] 3)) = .ok (.slice a' (q + 1) c') w')∧IE w' w.heap.size (.slice a' (q + 1) c') (q + 1) (nthI (L ++ [x]))∧Below w.heap.size w w':=by
 have hsz:=hb.size
 have hl2:q≤100000:=Nat.le_trans hl (by decide)
 have WB:Below wr.heap.size wr (wr.alloc (.cells #[.int .i64 (x:Int)] 3)):=(Below.refl _ _).alloc (Nat.le_refl _) _
 obtain ⟨v',w',hr,ho,hg,hloc⟩:=IE.app (wr.alloc (.cells #[.int .i64 (x:Int)] 3)) w.heap.size _ q wr.heap.size (nthI L) x (by simp; omega) hl2 (EO.below h WB) (litInt wr x)
 obtain ⟨a',c',rfl⟩:=EO.form ho
 refine ⟨a',c',w',hr,ho.congr (fun i hi => ?_),?_⟩
 ·subst hq; exact nthI_snoc L x i hi
 ·exact (hb.trans (WB.mono (by omega))).grown hg (by simp; omega) (fun g e => (EO.ge h g e).1)
structure Plc where
 bk:Int
 vs:Int
def pcV (x:Plc):Nat→Value
 | 0 => .int .i64 x.bk
 | _ => .int .i64 x.vs
def pcF (PC:Nat→Plc) (i j:Nat):Value:=pcV (PC i) j
theorem Tryz.infoPlc:(Tryz.prog.info? 74).map (fun i => (i.zero,i.size,i.bytes)) = some (some (.agg #[.int .i64 0,.int .i64 0]),2,16):=by kernel_rfl
def Plc.Ok (p:Plc):Prop:=(2≤p.bk∧p.bk < 64)∧(1≤p.vs∧p.vs≤65535)
def PlOne (P:Nat→Plc) (i:Nat):Prop:=(P i).Ok∧∀ j,j < i→(P j).bk≠(P i).bk
def SupOk (z:Int) (n:Nat) (P:Nat→Plc) (r:ByteArray):Prop:=(1≤z∧z≤1024∧n = pcsN z.toNat∧r.size = 32)∧∀ i,i < n→PlOne P i
theorem SupOk.n16 {z:Int} {n:Nat} {P:Nat→Plc} {r:ByteArray} (h:SupOk z n P r):n≤16:=by
 have h1:=h.1
 rw [h1.2.2.1]
 exact pcsN_le (by omega)
def FoundPc (n:Nat) (Bad:Nat→Prop) (e:Ending):Prop:=∃ z:Int,e = .returned (.int .i64 z)∧((0≤z∧∃ i,i < n∧Bad i)∨(z = -1∧∀ i,i < n→¬ Bad i))
set_option maxRecDepth 100000 in
theorem cloPc (x v k:Int) (sb:Nat) (w:World) (hk:w.cell? ⟨sb,0,none⟩ = some (.int .i64 k)) (z:Bool) (hz:z = gB (x = k)) :
  Calls Tryz.prog 140 #[.agg #[.int .i64 x,.int .i64 v],.pointer (some ⟨sb,0,none⟩)] w fun e w' => e = .returned (.bool z)∧Below w.heap.size w w':=by
 have hb:Below w.heap.size w (w.alloc (.cells #[.int .i64 x,.int .i64 v] 74)):=(Below.refl _ _).alloc (Nat.le_refl _) _
 have hk2:(w.alloc (.cells #[.int .i64 x,.int .i64 v] 74)).cell? ⟨sb,0,none⟩ = some (.int .i64 k):=by rw [hb.cell (strBlock hk)]; exact hk
 have HB:Hid (Below w.heap.size w (w.alloc (.cells #[.int .i64 x,.int .i64 v] 74))):=hb
 by_cases e:x = k
 ·obtain rfl:z = true:=by rw [hz]; exact gB_yes e
  subst e
  clear hz hb hk
  go_enter Tryz.func140,Tryz.ntmps140
  go_wp2
  go_ret
  exact ⟨rfl,HB.out⟩
 ·obtain rfl:z = false:=by rw [hz]; exact gB_no e
  have e1:(x == k) = false:=by simp [e]
  clear hz hb hk e
  go_enter Tryz.func140,Tryz.ntmps140
  go_wp2
  go_ret
  exact ⟨rfl,HB.out⟩
set_option maxRecDepth 100000 in
set_option maxHeartbeats 1000000 in
theorem indexPc (sb:Nat) (a:Option Addr) (n c:Nat) (R:Nat→Plc) (Bad:Nat→Prop) (hn:n≤1048576) (w:World) (h:Els w 2 a n (pcF R))
  (hcl:∀ i,i < n→∀ u:World,Below w.heap.size w u→Calls Tryz.prog 140 #[.agg #[.int .i64 (R i).bk,.int .i64 (R i).vs],.pointer (some ⟨sb,0,none⟩)] u fun e u' => e = .returned (.bool (gB (Bad i)))∧Below u.heap.size u u') :
  Calls Tryz.prog 185 #[.slice a n c,.func (.func 140) #[] #[.pointer (some ⟨sb,0,none⟩)]] w fun e w' => FoundPc n Bad e∧Below w.heap.size w w':=by
 have H:Hid (Els w 2 a n (pcF R)):=h
 have HC:Hid (∀ i,i < n→∀ u:World,Below w.heap.size w u→Calls Tryz.prog 140 #[.agg #[.int .i64 (R i).bk,.int .i64 (R i).vs],.pointer (some ⟨sb,0,none⟩)] u fun e u' => e = .returned (.bool (gB (Bad i)))∧Below u.heap.size u u'):=hcl
 clear h hcl
 go_enter Tryz.func185,Tryz.ntmps185
 go_wp2
 go_loopw [8] (fun i wr => ∃ k:Nat,k≤n∧i = .int .i64 k∧(∀ j,j < k→¬ Bad j)∧Below w.heap.size w wr) (fun i _ => n - (intOf i).toNat)
 case atStart => exact ⟨0,by omega,rfl,fun j hj => absurd hj (by omega),Below.refl _ _⟩
 case round =>
  obtain ⟨k,hk,rfl,hok,hb⟩:=hrel
  have HB:Hid (Below w.heap.size w wr):=hb
  have HK:Hid (∀ j,j < k→¬ Bad j):=hok
  clear hok
  by_cases hlt:k < n
  ·have hlt':(k:Int) < (n:Int):=by omega
   obtain ⟨b,off,rfl,hc⟩:=(H.out.below hb).opened (by omega)
   have c0:wr.cell? ⟨b,off + k * 2,none⟩ = some (.int .i64 (R k).bk):=hc k hlt 0 (by omega)
   have c1:wr.cell? ⟨b,off + k * 2 + 1,none⟩ = some (.int .i64 (R k).vs):=hc k hlt 1 (by omega)
   have WM:=HC.out k hlt wr hb
   by_cases ho:Bad k
   ·rw [gB_yes ho] at WM
    have W1:Hid _:=WM
    have HF:Hid (FoundPc n Bad (.returned (.int .i64 (k:Int)))):=⟨k,rfl,.inl ⟨by omega,k,hlt,ho⟩⟩
    clear hc hb WM ho
    generalize R k = rk at *
    go_wp2_with fail
    refine Calls.mono W1.out ?_
    rintro e w1 ⟨rfl,hb⟩
    have B1:Hid (Below w.heap.size w w1):=HB.out.trans (hb.mono HB.out.size)
    clear hb HB W1 c0 c1
    go_wp2
    go_ret
    exact ⟨HF.out,B1.out⟩
   ·rw [gB_no ho] at WM
    have W1:Hid _:=WM
    have HO:Hid (∀ j,j < k + 1→¬ Bad j):=fun j hj => by
     rcases Nat.lt_or_ge j k with q | q
     ·exact HK.out j q
     ·obtain rfl:j = k:=by omega
      exact ho
    clear hc hb WM ho
    generalize R k = rk at *
    go_wp2_with fail
    refine Calls.mono W1.out ?_
    rintro e w1 ⟨rfl,hb⟩
    have B1:Hid (Below w.heap.size w w1):=HB.out.trans (hb.mono HB.out.size)
    clear hb HB W1 c0 c1
    go_wp2
    go_roundw
    case rel => exact ⟨k + 1,by omega,by go_num,HO.out,B1.out⟩
    case measure => simp [intOf]; omega
  ·have hlt':¬ (k:Int) < (n:Int):=by omega
   have HF:Hid (FoundPc n Bad (.returned (.int .i64 (-1)))):=⟨-1,rfl,.inr ⟨rfl,fun j hj => HK.out j (by omega)⟩⟩
   clear hb
   go_wp2
   go_ret
   exact ⟨HF.out,HB.out⟩
set_option maxRecDepth 100000 in
theorem containsPc (sb:Nat) (a:Option Addr) (n c:Nat) (R:Nat→Plc) (Bad:Nat→Prop) (hn:n≤1048576) (w:World) (h:Els w 2 a n (pcF R))
  (hcl:∀ i,i < n→∀ u:World,Below w.heap.size w u→Calls Tryz.prog 140 #[.agg #[.int .i64 (R i).bk,.int .i64 (R i).vs],.pointer (some ⟨sb,0,none⟩)] u fun e u' => e = .returned (.bool (gB (Bad i)))∧Below u.heap.size u u') (z:Bool) (hz:z = gB (∃ i,i < n∧Bad i)) :
  Calls Tryz.prog 139 #[.slice a n c,.func (.func 140) #[] #[.pointer (some ⟨sb,0,none⟩)]] w fun e w' => e = .returned (.bool z)∧Below w.heap.size w w':=by
 have IX:Hid (Calls Tryz.prog 185 #[.slice a n c,.func (.func 140) #[] #[.pointer (some ⟨sb,0,none⟩)]] w fun e w' => FoundPc n Bad e∧Below w.heap.size w w'):=indexPc sb a n c R Bad hn w h hcl
 have HZ:Hid (z = gB (∃ i,i < n∧Bad i)):=hz
 clear h hz hcl
 go_enter Tryz.func139,Tryz.ntmps139
 go_wp2_with fail
 refine IX.out.mono ?_
 rintro e w1 ⟨⟨r,rfl,hr⟩,hb⟩
 have HB:Hid (Below w.heap.size w w1):=hb
 rcases hr with ⟨h0,h1⟩ | ⟨rfl,h1⟩
 ·have HZ2:Hid (z = true):=HZ.out.trans (gB_yes h1)
  clear h1 hb
  go_wp2
  go_ret
  exact ⟨by rw [HZ2.out]; rfl,HB.out⟩
 ·have HZ2:Hid (z = false):=HZ.out.trans (gB_no (fun ⟨i,hi,q⟩ => h1 i hi q))
  clear h1 hb
  go_wp2
  go_ret
  exact ⟨by rw [HZ2.out]; rfl,HB.out⟩
set_option maxRecDepth 100000 in
theorem hasBlock_any (a:Option Addr) (n c:Nat) (P:Nat→Plc) (k:Int) (hn:n≤1048576) (w:World) (h:Els w 2 a n (pcF P)) (z:Bool) (hz:z = gB (∃ i,i < n∧(P i).bk = k)) :
  Calls Tryz.prog 96 #[.slice a n c,.int .i64 k] w fun e w' => e = .returned (.bool z)∧Below w.heap.size w w':=by
 have hb:Below w.heap.size w (w.alloc (.cells #[.int .i64 k] 3)):=(Below.refl _ _).alloc (Nat.le_refl _) _
 have hk:(w.alloc (.cells #[.int .i64 k] 3)).cell? ⟨w.heap.size,0,none⟩ = some (.int .i64 k):=(World.rowIs_alloc w #[.int .i64 k] 3 (fun _ => .int .i64 k) (fun i hi => by
  obtain rfl:i = 0:=by simpa using hi
  rfl)).cell (i:=0) (by simp)
 have CF:Hid (Calls Tryz.prog 139 #[.slice a n c,.func (.func 140) #[] #[.pointer (some ⟨w.heap.size,0,none⟩)]] (w.alloc (.cells #[.int .i64 k] 3)) fun e w' => e = .returned (.bool z)∧Below (w.alloc (.cells #[.int .i64 k] 3)).heap.size (w.alloc (.cells #[.int .i64 k] 3)) w'):=containsPc w.heap.size a n c P (fun i => (P i).bk = k) hn _ (h.below hb) (fun i hi u hu => cloPc _ _ k w.heap.size u (by rw [hu.cell (strBlock hk)]; exact hk) _ rfl) z hz
 have HB:Hid (Below w.heap.size w (w.alloc (.cells #[.int .i64 k] 3))):=hb
 clear hb hk h hz
 go_enter Tryz.func96,Tryz.ntmps96
 go_wp2_with fail
 generalize (w.alloc (.cells #[.int .i64 k] 3)) = v at *
 refine CF.out.mono ?_
 rintro e w1 ⟨rfl,hb⟩
 have HB1:Hid (Below w.heap.size w w1):=HB.out.trans (hb.mono HB.out.size)
 clear hb CF HB
 go_wp2
 go_ret
 exact ⟨rfl,HB1.out⟩
set_option maxRecDepth 100000 in
theorem isVersion_any (x:Int) (r:Bool) (hr:r = decide (1≤x∧x≤65535)) (w:World) :
  Calls Tryz.prog 143 #[.int .i64 x] w fun e w' => e = .returned (.bool r)∧w = w':=by
 by_cases h1:1≤x
 ·by_cases h2:x≤65535
  ·obtain rfl:r = true:=by rw [hr]; simp; omega
   clear hr
   go_enter Tryz.func143,Tryz.ntmps143
   go_wp2
   go_ret
   exact ⟨rfl,rfl⟩
  ·obtain rfl:r = false:=by rw [hr]; simp; omega
   clear hr
   go_enter Tryz.func143,Tryz.ntmps143
   go_wp2
   go_ret
   exact ⟨rfl,rfl⟩
 ·obtain rfl:r = false:=by rw [hr]; simp; omega
  clear hr
  go_enter Tryz.func143,Tryz.ntmps143
  go_wp2
  go_ret
  exact ⟨rfl,rfl⟩
set_option maxRecDepth 100000 in
theorem placeOK_any (x v:Int) (z:Bool) (hz:z = gB ((⟨x,v⟩:Plc).Ok)) (w:World) :
  Calls Tryz.prog 155 #[.agg #[.int .i64 x,.int .i64 v]] w fun e w' => e = .returned (.bool z)∧Below w.heap.size w w':=by
 have HB:Hid (Below w.heap.size w (w.alloc (.cells #[.int .i64 x,.int .i64 v] 74))):=(Below.refl _ _).alloc (Nat.le_refl _) _
 by_cases h1:2≤x
 ·by_cases h2:x < 64
  ·have IV:Hid (∀ w:World,Calls Tryz.prog 143 #[.int .i64 v] w fun e w' => e = .returned (.bool z)∧w = w'):=fun w => isVersion_any v z (by
    rw [hz]
    by_cases q:1≤v∧v≤65535
    ·rw [gB_yes ⟨⟨h1,h2⟩,q⟩]; simp [q]
    ·rw [gB_no (fun t => q t.2)]; simp [q]) w
   clear hz
   go_enter Tryz.func155,Tryz.ntmps155
   go_wp2_with fail
   refine (IV.out _).mono ?_
   rintro e _ ⟨rfl,rfl⟩
   go_wp2
   go_ret
   exact ⟨rfl,HB.out⟩
  ·obtain rfl:z = false:=by rw [hz]; exact gB_no (fun t => h2 t.1.2)
   clear hz
   go_enter Tryz.func155,Tryz.ntmps155
   go_wp2
   go_ret
   exact ⟨rfl,HB.out⟩
 ·obtain rfl:z = false:=by rw [hz]; exact gB_no (fun t => h1 t.1.1)
  clear hz
  go_enter Tryz.func155,Tryz.ntmps155
  go_wp2
  go_ret
  exact ⟨rfl,HB.out⟩
theorem below_ab {B:Nat} {w v u:World} (h:Below B w v) (h':Below v.heap.size v u) (hB:B≤v.heap.size):Below B w u:=h.trans (h'.mono hB)
theorem pl_elem:Tryz.prog.elem 62 = 74:=by kernel_rfl
theorem pl_under:Tryz.prog.underlying 62 = some (.slice (Tryz.prog.elem 62)):=by rw [pl_elem]; exact Tryz.underlying62
theorem pl_size (w:World):(sizeOf (Tryz.prog.elem 62)).run Tryz.prog w = .ok 2 w:=by kernel_rfl
set_option maxRecDepth 100000 in
set_option maxHeartbeats 4000000 in
theorem implSupOK_any (z:Int) (a:Option Addr) (n c:Nat) (P:Nat→Plc) (r:ByteArray) (hsl:SlP a n c) (hn:n≤1048576) (w:World) (h:Els w 2 a n (pcF P)) (y:Bool) (hy:y = gB (SupOk z n P r)) :
  Calls Tryz.prog 107 #[.agg #[.int .i64 z,.slice a n c,.string r]] w fun e w' => e = .returned (.bool y)∧Below w.heap.size w w':=by
 have A0:Hid (Below w.heap.size w (w.alloc (.cells #[.int .i64 z,.slice a n c,.string r] 64))):=(Below.refl _ _).alloc (Nat.le_refl _) _
 have X:Hid (Box3 (w.alloc (.cells #[.int .i64 z,.slice a n c,.string r] 64)) w.heap.size 64 (.int .i64 z) (.slice a n c) (.string r)):=Box3.made _ _ _ _ _
 have E0:Hid (Els (w.alloc (.cells #[.int .i64 z,.slice a n c,.string r] 64)) 2 a n (pcF P)):=h.below A0.out
 have HY:Hid (y = gB (SupOk z n P r)):=hy
 have HS:Hid (SlP a n c):=hsl
 have HN:Hid (n≤1048576):=hn
 clear h hy hsl hn
 by_cases hz:0≤z∧z≤1024
 ·obtain ⟨m,rfl⟩:=Int.eq_ofNat_of_zero_le hz.1
  have hm:m≤1024:=by omega
  have PC:Hid (∀ w:World,Calls Tryz.prog 63 #[.int .i64 (m:Int)] w fun e w' => e = .returned (.tuple #[.int .i64 ((pcsN m:Nat):Int),.int .i64 0])∧w = w'):=fun w => implPc_ok m hm w
  by_cases h0:pcsN m = 0
  ·obtain rfl:y = false:=by
    rw [HY.out]
    refine gB_no (fun q => ?_)
    have:=q.1.1
    unfold pcsN at h0
    omega
   rw [h0] at PC
   have k0:=X.out.c0
   have k1:=X.out.c1
   have k2:=X.out.c2
   clear HY hz hm h0
   go_enter Tryz.func107,Tryz.ntmps107
   go_wp2_with fail
   refine (PC.out _).mono ?_
   rintro e _ ⟨rfl,rfl⟩
   go_wp2
   go_ret
   exact ⟨rfl,A0.out⟩
  ·by_cases h1:n = pcsN m
   ·by_cases h2:r.size = 32
    ·have h2':((r.size:Int) != 32) = false:=by simp; omega
     have h1':((n:Int) != (n:Int)) = false:=by simp
     have h0':((n:Int) == 0) = false:=by simp; omega
     have n16:(n:Int)≤16:=by have:=pcsN_le hm; omega
     have HT:Hid ((∀ i,i < n→PlOne P i)→y = true):=fun q => by rw [HY.out]; exact gB_yes ⟨⟨by unfold pcsN at h0; omega,by omega,by rw [h1]; rfl,h2⟩,q⟩
     have HF:Hid (∀ i,i < n→¬ PlOne P i→y = false):=fun i hi q => by rw [HY.out]; exact gB_no (fun t => q (t.2 i hi))
     rw [← h1] at PC
     have k0:=X.out.c0
     have k1:=X.out.c1
     have k2:=X.out.c2
     clear HY hz hm h0 h1 h2
     go_enter Tryz.func107,Tryz.ntmps107
     go_wp2_with fail
     refine (PC.out _).mono ?_
     rintro e _ ⟨rfl,rfl⟩
     go_upto_region 4 with fail
     clear k0 k1 k2 PC
     generalize (w.alloc (.cells #[.int .i64 (m:Int),.slice a n c,.string r] 64)) = v at *
     obtain ⟨vb,hvb⟩:∃ x,x = w.heap.size:=⟨_,rfl⟩
     have VB:Hid (vb = w.heap.size):=hvb
     rw [← hvb] at X ⊢
     clear hvb
     go_wp2
     go_loopw [33] (fun i wr => ∃ k:Nat,k≤n∧i = .int .i64 k∧(∀ j,j < k→PlOne P j)∧Below v.heap.size v wr) (fun i _ => n - (intOf i).toNat)
     case atStart => exact ⟨0,by omega,rfl,fun j hj => absurd hj (by omega),Below.refl _ _⟩
     case round =>
      obtain ⟨k,hk,rfl,hall,hb⟩:=hrel
      have HA:Hid (∀ j,j < k→PlOne P j):=hall
      have HB:Hid (Below v.heap.size v wr):=hb
      clear hall
      by_cases hlt:k < n
      ·have hlt':(k:Int) < (n:Int):=by omega
       have k0:(0:Int)≤(k:Int):=by omega
       have HK:Hid (k < n):=hlt
       obtain ⟨b,off,rfl,hc⟩:=(E0.out.below hb).opened (by omega)
       have c0:wr.cell? ⟨b,off + k * 2,none⟩ = some (.int .i64 (P k).bk):=hc k hlt 0 (by omega)
       have c1:wr.cell? ⟨b,off + k * 2 + 1,none⟩ = some (.int .i64 (P k).vs):=hc k hlt 1 (by omega)
       have x1:=(X.out.below hb).c1
       have CT:∀ w:World,(Instr.slice 62 (.slice (some ⟨b,off,none⟩) n c) none (some (.int .i64 (k:Int))) none).run Tryz.prog w = .ok (.slice (some ⟨b,off,none⟩) k c) w:=fun w => run_cut_to 62 pl_under 2 pl_size HS.out k (by have:=HS.out.le; omega) w
       have HP:Hid (PlOne P k ↔ ((P k).Ok∧∀ j,j < k→(P j).bk≠(P k).bk)):=Iff.rfl
       have HF2:Hid (¬ ((P k).Ok∧∀ j,j < k→(P j).bk≠(P k).bk)→y = false):=HF.out k hlt
       have HT2:Hid ((P k).Ok∧(∀ j,j < k→(P j).bk≠(P k).bk)→∀ j,j < k + 1→PlOne P j):=fun q j hj => by
        by_cases e:j = k
        ·subst e; exact q
        ·exact HA.out j (by omega)
       have PK:Hid (∀ (q:Bool),q = gB ((P k).Ok)→∀ w:World,Calls Tryz.prog 155 #[.agg #[.int .i64 (P k).bk,.int .i64 (P k).vs]] w fun e w' => e = .returned (.bool q)∧Below w.heap.size w w'):=fun q hq w => placeOK_any _ _ q hq w
       have HBk:Hid (∀ (q:Bool),q = gB (∃ i,i < k∧(P i).bk = (P k).bk)→∀ w:World,Els w 2 (some ⟨b,off,none⟩) n (pcF P)→Calls Tryz.prog 96 #[.slice (some ⟨b,off,none⟩) k c,.int .i64 (P k).bk] w fun e w' => e = .returned (.bool q)∧Below w.heap.size w w'):=fun q hq w h => hasBlock_any _ k c P _ (by have:=HN.out; omega) w (h.less (by omega)) q hq
       obtain ⟨bk,hbk⟩:∃ x,x = (P k).bk:=⟨_,rfl⟩
       obtain ⟨vs,hvs⟩:∃ x,x = (P k).vs:=⟨_,rfl⟩
       have DK:(P k).Ok∨¬ (P k).Ok:=Classical.em _
       have DH:(∃ i,i < k∧(P i).bk = (P k).bk)∨¬ (∃ i,i < k∧(P i).bk = (P k).bk):=Classical.em _
       have HNN:Hid (¬ (∃ i,i < k∧(P i).bk = (P k).bk)→∀ j,j < k→(P j).bk≠(P k).bk):=fun q j hj e => q ⟨j,hj,e⟩
       have HYY:Hid ((∃ i,i < k∧(P i).bk = (P k).bk)→¬ ∀ j,j < k→(P j).bk≠(P k).bk):=fun ⟨i,hi,e⟩ q => q i hi e
       rw [← hbk,← hvs] at PK
       rw [← hbk] at c0 HBk DH HNN HYY HF2 HT2
       rw [← hvs] at c1
       clear hbk hvs hc hlt hk HP HF
       have PT:(P k).Ok→Hid (∀ w:World,Calls Tryz.prog 155 #[.agg #[.int .i64 bk,.int .i64 vs]] w fun e w' => e = .returned (.bool true)∧Below w.heap.size w w'):=fun q => PK.out true (gB_yes q).symm
       have PF:¬ (P k).Ok→Hid (∀ w:World,Calls Tryz.prog 155 #[.agg #[.int .i64 bk,.int .i64 vs]] w fun e w' => e = .returned (.bool false)∧Below w.heap.size w w'):=fun q => PK.out false (gB_no q).symm
       have HBT:(∃ i,i < k∧(P i).bk = bk)→Hid (∀ w:World,Els w 2 (some ⟨b,off,none⟩) n (pcF P)→Calls Tryz.prog 96 #[.slice (some ⟨b,off,none⟩) k c,.int .i64 bk] w fun e w' => e = .returned (.bool true)∧Below w.heap.size w w'):=fun q => HBk.out true (gB_yes q).symm
       have HBF:¬ (∃ i,i < k∧(P i).bk = bk)→Hid (∀ w:World,Els w 2 (some ⟨b,off,none⟩) n (pcF P)→Calls Tryz.prog 96 #[.slice (some ⟨b,off,none⟩) k c,.int .i64 bk] w fun e w' => e = .returned (.bool false)∧Below w.heap.size w w'):=fun q => HBk.out false (gB_no q).symm
       have hb2:Below wr.heap.size wr (wr.alloc (.cells #[.int .i64 bk,.int .i64 vs] 74)):=(Below.refl _ _).alloc (Nat.le_refl _) _
       have B2:Hid (Box2 (wr.alloc (.cells #[.int .i64 bk,.int .i64 vs] 74)) wr.heap.size 74 (.int .i64 bk) (.int .i64 vs)):=Box2.made _ _ _ _
       have X2:Hid (Box3 (wr.alloc (.cells #[.int .i64 bk,.int .i64 vs] 74)) vb 64 (.int .i64 (m:Int)) (.slice (some ⟨b,off,none⟩) n c) (.string r)):=(X.out.below hb).below hb2
       have E2:Hid (Els (wr.alloc (.cells #[.int .i64 bk,.int .i64 vs] 74)) 2 (some ⟨b,off,none⟩) n (pcF P)):=(E0.out.below hb).below hb2
       have HB2:Hid (Below v.heap.size v (wr.alloc (.cells #[.int .i64 bk,.int .i64 vs] 74))):=hb.trans (hb2.mono hb.size)
       clear hb hb2 HB PK HBk
       go_upto_region 8 with fail
       clear x1 c0 c1
       generalize (wr.alloc (.cells #[.int .i64 bk,.int .i64 vs] 74)) = v2 at *
       generalize wr.heap.size = pb at *
       rcases DK with DK | DK
       ·replace PT:=PT DK
        clear PF
        rcases DH with DH | DH
        ·replace HBT:=HBT DH
         obtain rfl:=HF2.out (fun q => HYY.out DH q.2)
         clear HBF HF2 HT2 HNN HYY DK DH HT
         have H:Below v2.heap.size v2 v2.drew:=(Below.refl _ _).drew
         refine wp_region_noPanic ?_
         refine wp_region_held_drew (S:=fun w' => Below v2.heap.size v2 w') (by kernel_rfl) H (fun _ => ?_)
         generalize v2.drew = x0 at *
         refine tkH (i:=0) (v:=.agg #[.int .i64 bk,.int .i64 vs]) rfl (by kernel_rfl) (by rfl) ?_ H ?_
         ·intro w' hSw; have q0:=(B2.out.below hSw).c0; have q1:=(B2.out.below hSw).c1; clear hSw; go_simp
         refine ch54 ?_
         refine wpAnyH_ready (rs:=[1]) (by kernel_rfl) (by simp) ?_
         refine AllReadyH.cons rfl (fun KK hK => ?_) AllReadyH.nil
         go_simp
         refine (PT.out _).mono ?_
         rintro e x1 ⟨rfl,hb⟩
         replace H:Below v2.heap.size v2 x1:=H.trans (hb.mono H.size)
         clear hb
         refine hK.out _ _ H (fun _ => ?_)
         clear hK KK
         refine ch54 ?_
         refine tkH (i:=2) (v:=.bool false) rfl (by kernel_rfl) (by rfl) ?_ H ?_
         ·intro w' hSw; clear hSw; go_simp
         refine ch54 ?_
         refine tkH (i:=3) (v:=.bool false) rfl (by kernel_rfl) (by rfl) ?_ H ?_
         ·intro w' hSw; clear hSw; go_simp
         refine ch54 ?_
         refine tkH (i:=4) (v:=.pointer (some ⟨vb,1,none⟩)) rfl (by kernel_rfl) (by rfl) ?_ H ?_
         ·intro w' hSw; clear hSw; go_simp
         refine ch54 ?_
         refine tkH (i:=5) (v:=.slice (some ⟨b,off,none⟩) n c) rfl (by kernel_rfl) (by rfl) ?_ H ?_
         ·intro w' hSw; have q0:=(X2.out.below hSw).c1; clear hSw; go_simp
         refine ch54 ?_
         refine tkH (i:=6) (v:=.int .i64 (k:Int)) rfl (by kernel_rfl) (by rfl) ?_ H ?_
         ·intro w' hSw; clear hSw; go_simp
         refine ch54 ?_
         refine tkH (i:=7) (v:=.slice (some ⟨b,off,none⟩) k c) rfl (by kernel_rfl) (by rfl) ?_ H ?_
         ·intro w' hSw; clear hSw; go_simp
         refine ch54 ?_
         refine tkH (i:=8) (v:=.pointer (some ⟨pb,0,none⟩)) rfl (by kernel_rfl) (by rfl) ?_ H ?_
         ·intro w' hSw; clear hSw; go_simp
         refine ch54 ?_
         refine tkH (i:=9) (v:=.int .i64 bk) rfl (by kernel_rfl) (by rfl) ?_ H ?_
         ·intro w' hSw; have q0:=(B2.out.below hSw).c0; clear hSw; go_simp
         refine ch54 ?_
         refine wpAnyH_ready (rs:=[10]) (by kernel_rfl) (by simp) ?_
         refine AllReadyH.cons rfl (fun KK hK => ?_) AllReadyH.nil
         go_simp
         refine (HBT.out _ (E2.out.below H)).mono ?_
         rintro e x2 ⟨rfl,hb⟩
         replace H:Below v2.heap.size v2 x2:=H.trans (hb.mono H.size)
         clear hb
         refine hK.out _ _ H (fun _ => ?_)
         clear hK KK
         refine ch54 ?_
         refine tkH (i:=11) (v:=.bool true) rfl (by kernel_rfl) (by rfl) ?_ H ?_
         ·intro w' hSw; clear hSw; go_simp
         refine ch54 ?_
         refine wpAnyH_done (by kernel_rfl) ?_ _
         refine NoPanic.normal ?_
         have B3:Hid (Below w.heap.size w x2):=below_ab A0.out (below_ab HB2.out H HB2.out.size) A0.out.size
         clear H
         go_wp2
         go_ret
         exact ⟨rfl,B3.out⟩
        ·replace HBF:=HBF DH
         have HT3:Hid (∀ j,j < k + 1→PlOne P j):=HT2.out ⟨DK,HNN.out DH⟩
         clear HBT HF2 HT2 HNN HYY DK DH
         have H:Below v2.heap.size v2 v2.drew:=(Below.refl _ _).drew
         refine wp_region_noPanic ?_
         refine wp_region_held_drew (S:=fun w' => Below v2.heap.size v2 w') (by kernel_rfl) H (fun _ => ?_)
         generalize v2.drew = x0 at *
         refine tkH (i:=0) (v:=.agg #[.int .i64 bk,.int .i64 vs]) rfl (by kernel_rfl) (by rfl) ?_ H ?_
         ·intro w' hSw; have q0:=(B2.out.below hSw).c0; have q1:=(B2.out.below hSw).c1; clear hSw; go_simp
         refine ch54 ?_
         refine wpAnyH_ready (rs:=[1]) (by kernel_rfl) (by simp) ?_
         refine AllReadyH.cons rfl (fun KK hK => ?_) AllReadyH.nil
         go_simp
         refine (PT.out _).mono ?_
         rintro e x1 ⟨rfl,hb⟩
         replace H:Below v2.heap.size v2 x1:=H.trans (hb.mono H.size)
         clear hb
         refine hK.out _ _ H (fun _ => ?_)
         clear hK KK
         refine ch54 ?_
         refine tkH (i:=2) (v:=.bool false) rfl (by kernel_rfl) (by rfl) ?_ H ?_
         ·intro w' hSw; clear hSw; go_simp
         refine ch54 ?_
         refine tkH (i:=3) (v:=.bool false) rfl (by kernel_rfl) (by rfl) ?_ H ?_
         ·intro w' hSw; clear hSw; go_simp
         refine ch54 ?_
         refine tkH (i:=4) (v:=.pointer (some ⟨vb,1,none⟩)) rfl (by kernel_rfl) (by rfl) ?_ H ?_
         ·intro w' hSw; clear hSw; go_simp
         refine ch54 ?_
         refine tkH (i:=5) (v:=.slice (some ⟨b,off,none⟩) n c) rfl (by kernel_rfl) (by rfl) ?_ H ?_
         ·intro w' hSw; have q0:=(X2.out.below hSw).c1; clear hSw; go_simp
         refine ch54 ?_
         refine tkH (i:=6) (v:=.int .i64 (k:Int)) rfl (by kernel_rfl) (by rfl) ?_ H ?_
         ·intro w' hSw; clear hSw; go_simp
         refine ch54 ?_
         refine tkH (i:=7) (v:=.slice (some ⟨b,off,none⟩) k c) rfl (by kernel_rfl) (by rfl) ?_ H ?_
         ·intro w' hSw; clear hSw; go_simp
         refine ch54 ?_
         refine tkH (i:=8) (v:=.pointer (some ⟨pb,0,none⟩)) rfl (by kernel_rfl) (by rfl) ?_ H ?_
         ·intro w' hSw; clear hSw; go_simp
         refine ch54 ?_
         refine tkH (i:=9) (v:=.int .i64 bk) rfl (by kernel_rfl) (by rfl) ?_ H ?_
         ·intro w' hSw; have q0:=(B2.out.below hSw).c0; clear hSw; go_simp
         refine ch54 ?_
         refine wpAnyH_ready (rs:=[10]) (by kernel_rfl) (by simp) ?_
         refine AllReadyH.cons rfl (fun KK hK => ?_) AllReadyH.nil
         go_simp
         refine (HBF.out _ (E2.out.below H)).mono ?_
         rintro e x2 ⟨rfl,hb⟩
         replace H:Below v2.heap.size v2 x2:=H.trans (hb.mono H.size)
         clear hb
         refine hK.out _ _ H (fun _ => ?_)
         clear hK KK
         refine ch54 ?_
         refine tkH (i:=11) (v:=.bool false) rfl (by kernel_rfl) (by rfl) ?_ H ?_
         ·intro w' hSw; clear hSw; go_simp
         refine ch54 ?_
         refine wpAnyH_done (by kernel_rfl) ?_ _
         refine NoPanic.normal ?_
         have B3:Hid (Below v.heap.size v x2):=below_ab HB2.out H HB2.out.size
         clear H
         go_wp2
         go_roundw
         case rel => exact ⟨k + 1,by have:=HK.out; omega,by go_num,HT3.out,B3.out⟩
         case measure => have:=HK.out; simp [intOf]; omega
       ·replace PF:=PF DK
        obtain rfl:=HF2.out (fun q => DK q.1)
        clear PT HBT HBF HF2 HT2 HNN HYY DK DH HT
        have H:Below v2.heap.size v2 v2.drew:=(Below.refl _ _).drew
        refine wp_region_noPanic ?_
        refine wp_region_held_drew (S:=fun w' => Below v2.heap.size v2 w') (by kernel_rfl) H (fun _ => ?_)
        generalize v2.drew = x0 at *
        refine tkH (i:=0) (v:=.agg #[.int .i64 bk,.int .i64 vs]) rfl (by kernel_rfl) (by rfl) ?_ H ?_
        ·intro w' hSw; have q0:=(B2.out.below hSw).c0; have q1:=(B2.out.below hSw).c1; clear hSw; go_simp
        refine ch54 ?_
        refine wpAnyH_ready (rs:=[1]) (by kernel_rfl) (by simp) ?_
        refine AllReadyH.cons rfl (fun KK hK => ?_) AllReadyH.nil
        go_simp
        refine (PF.out _).mono ?_
        rintro e x1 ⟨rfl,hb⟩
        replace H:Below v2.heap.size v2 x1:=H.trans (hb.mono H.size)
        clear hb
        refine hK.out _ _ H (fun _ => ?_)
        clear hK KK
        refine ch54 ?_
        refine tkH (i:=2) (v:=.bool true) rfl (by kernel_rfl) (by rfl) ?_ H ?_
        ·intro w' hSw; clear hSw; go_simp
        refine ch54 ?_
        refine tkH (i:=3) (v:=.bool true) rfl (by kernel_rfl) (by rfl) ?_ H ?_
        ·intro w' hSw; clear hSw; go_simp
        refine ch54 ?_
        refine wpAnyH_take (i:=4) (v:=undef) rfl (by kernel_rfl) (by kernel_rfl) (by kernel_rfl) (fun _ _ _ h => h) (Or.inr ⟨by rfl,rfl⟩) H ?_
        refine ch54 ?_
        refine wpAnyH_take (i:=5) (v:=undef) rfl (by kernel_rfl) (by kernel_rfl) (by kernel_rfl) (fun _ _ _ h => h) (Or.inr ⟨by rfl,rfl⟩) H ?_
        refine ch54 ?_
        refine wpAnyH_take (i:=6) (v:=undef) rfl (by kernel_rfl) (by kernel_rfl) (by kernel_rfl) (fun _ _ _ h => h) (Or.inr ⟨by rfl,rfl⟩) H ?_
        refine ch54 ?_
        refine wpAnyH_take (i:=7) (v:=undef) rfl (by kernel_rfl) (by kernel_rfl) (by kernel_rfl) (fun _ _ _ h => h) (Or.inr ⟨by rfl,rfl⟩) H ?_
        refine ch54 ?_
        refine wpAnyH_take (i:=8) (v:=undef) rfl (by kernel_rfl) (by kernel_rfl) (by kernel_rfl) (fun _ _ _ h => h) (Or.inr ⟨by rfl,rfl⟩) H ?_
        refine ch54 ?_
        refine wpAnyH_take (i:=9) (v:=undef) rfl (by kernel_rfl) (by kernel_rfl) (by kernel_rfl) (fun _ _ _ h => h) (Or.inr ⟨by rfl,rfl⟩) H ?_
        refine ch54 ?_
        refine wpAnyH_take (i:=10) (v:=undef) rfl (by kernel_rfl) (by kernel_rfl) (by kernel_rfl) (fun _ _ _ h => h) (Or.inr ⟨by rfl,rfl⟩) H ?_
        refine ch54 ?_
        refine tkH (i:=11) (v:=.bool true) rfl (by kernel_rfl) (by rfl) ?_ H ?_
        ·intro w' hSw; clear hSw; go_simp
        refine ch54 ?_
        refine wpAnyH_done (by kernel_rfl) ?_ _
        refine NoPanic.normal ?_
        have B3:Hid (Below w.heap.size w x1):=below_ab A0.out (below_ab HB2.out H HB2.out.size) A0.out.size
        clear H
        go_wp2
        go_ret
        exact ⟨rfl,B3.out⟩
      ·obtain rfl:k = n:=by omega
       obtain rfl:=HT.out HA.out
       have B3:Hid (Below w.heap.size w wr):=below_ab A0.out hb A0.out.size
       clear hb HB HT HF
       go_wp2
       go_ret
       exact ⟨rfl,B3.out⟩
    ·have h2':((r.size:Int) != 32) = true:=by simp; omega
     have h1':((n:Int) != (n:Int)) = false:=by simp
     have h0':((n:Int) == 0) = false:=by simp; omega
     obtain rfl:y = false:=by rw [HY.out]; exact gB_no (fun q => h2 q.1.2.2.2)
     rw [← h1] at PC
     have k0:=X.out.c0
     have k1:=X.out.c1
     have k2:=X.out.c2
     clear HY hz hm h0 h1 h2
     go_enter Tryz.func107,Tryz.ntmps107
     go_wp2_with fail
     refine (PC.out _).mono ?_
     rintro e _ ⟨rfl,rfl⟩
     go_wp2
     go_ret
     exact ⟨rfl,A0.out⟩
   ·obtain rfl:y = false:=by rw [HY.out]; exact gB_no (fun q => h1 (by have:=q.1.2.2.1; simpa using this))
    have h1':((n:Int) != ((pcsN m:Nat):Int)) = true:=by simp; omega
    have h0':(((pcsN m:Nat):Int) == 0) = false:=by simp; omega
    have k0:=X.out.c0
    have k1:=X.out.c1
    have k2:=X.out.c2
    clear HY hz hm h0 h1
    generalize ((pcsN m:Nat):Int) = M at *
    go_enter Tryz.func107,Tryz.ntmps107
    go_wp2_with fail
    refine (PC.out _).mono ?_
    rintro e _ ⟨rfl,rfl⟩
    go_wp2
    go_ret
    exact ⟨rfl,A0.out⟩
 ·obtain rfl:y = false:=by rw [HY.out]; exact gB_no (fun q => hz ⟨by have:=q.1.1; omega,q.1.2.1⟩)
  have PC:Hid (∀ w:World,Calls Tryz.prog 63 #[.int .i64 z] w fun e w' => e = .returned (.tuple #[.int .i64 0,.int .i64 4])∧w = w'):=fun w => implPc_no z hz w
  have k0:=X.out.c0
  have k1:=X.out.c1
  have k2:=X.out.c2
  clear HY hz
  go_enter Tryz.func107,Tryz.ntmps107
  go_wp2_with fail
  refine (PC.out _).mono ?_
  rintro e _ ⟨rfl,rfl⟩
  go_wp2
  go_ret
  exact ⟨rfl,A0.out⟩
def FreeAt (n:Nat) (P:Nat→Plc) (i:Nat):Prop:=2≤i∧¬ ∃ j,j < n∧(P j).bk = (i:Int)
theorem free2 (n:Nat) (P:Nat→Plc):dirL (FreeAt n P) 2 = []:=by
 rw [dirL_no (fun h => absurd h.1 (by omega)),dirL_no (fun h => absurd h.1 (by omega))]
 rfl
theorem free1 (n:Nat) (P:Nat→Plc):dirL (FreeAt n P) 1 = []:=by
 rw [dirL_no (fun h => absurd h.1 (by omega))]
 rfl
set_option maxRecDepth 100000 in
set_option maxHeartbeats 4000000 in
theorem beside_any (a:Option Addr) (n c m:Nat) (P:Nat→Plc) (hm:m≤64) (hn:n≤1048576) (w:World) (h:Els w 2 a n (pcF P)) :
  Calls Tryz.prog 65 #[.slice a n c,.int .i64 (m:Int)] w fun e w' => (∃ a' c',e = .returned (.slice a' (dirL (FreeAt n P) m).length c')∧IE w' w.heap.size (.slice a' (dirL (FreeAt n P) m).length c') (dirL (FreeAt n P) m).length (nthI (dirL (FreeAt n P) m)))∧Below w.heap.size w w':=by
 have HM:Hid (m≤64):=hm
 have HL:Hid (∀ k,(dirL (FreeAt n P) k).length≤k):=dirL_le _
 have HBk:Hid (∀ (i:Nat) (q:Bool),q = gB (∃ j,j < n∧(P j).bk = (i:Int))→∀ w:World,Els w 2 a n (pcF P)→Calls Tryz.prog 96 #[.slice a n c,.int .i64 (i:Int)] w fun e w' => e = .returned (.bool q)∧Below w.heap.size w w'):=fun i q hq w h => hasBlock_any a n c P (i:Int) hn w h q hq
 have EW0:Hid (Els w 2 a n (pcF P)):=h
 clear h hn hm
 go_enter Tryz.func65,Tryz.ntmps65
 go_wp2
 go_loopw [5,8] (fun s i wr => ∃ (k q c2:Nat) (a2:Option Addr),k≤m∧q = (dirL (FreeAt n P) k).length∧i = .int .i64 k∧s = .slice a2 q c2∧IE wr w.heap.size (.slice a2 q c2) q (nthI (dirL (FreeAt n P) k))∧Below w.heap.size w wr) (fun _ i _ => m - (intOf i).toNat)
 case atStart => exact ⟨0,0,0,none,by omega,rfl,rfl,rfl,EO.nil _ _ _ _ _,Below.refl _ _⟩
 case round =>
  obtain ⟨k,q,c2,a2,hk,hq,rfl,rfl,ho,hb⟩:=hrel
  have HQ:Hid (q = (dirL (FreeAt n P) k).length):=hq
  by_cases hlt:k < m
  ·have hlt':(k:Int) < (m:Int):=by omega
   have kb:(k:Int)≤64:=by have:=HM.out; omega
   have q16:q≤1000:=by have:=HL.out k; have:=HM.out; omega
   have HK:Hid (k < m):=hlt
   have HO:Hid (IE wr w.heap.size (.slice a2 q c2) q (nthI (dirL (FreeAt n P) k))):=ho
   have HB:Hid (Below w.heap.size w wr):=hb
   have EW:Hid (Els wr 2 a n (pcF P)):=EW0.out.below hb
   clear ho hb hq
   by_cases h2:2≤k
   ·have e2:(2:Int)≤(k:Int):=by omega
    by_cases hh:∃ j,j < n∧(P j).bk = (k:Int)
    ·have HC:Hid _:=HBk.out k true (gB_yes hh).symm wr EW.out
     have ND:¬ FreeAt n P k:=fun t => t.2 hh
     have HQ2:Hid (q = (dirL (FreeAt n P) (k + 1)).length):=by show _ = _; rw [dirL_no ND]; exact HQ.out
     have HO2:Hid (IE wr w.heap.size (.slice a2 q c2) q (nthI (dirL (FreeAt n P) (k + 1)))):=by show IE _ _ _ _ _; rw [dirL_no ND]; exact HO.out
     clear hlt hk h2 hh ND HQ HO q16
     go_wp2_with fail
     refine Calls.mono HC.out ?_
     rintro e w1 ⟨rfl,hb⟩
     have HO3:Hid (IE w1 w.heap.size (.slice a2 q c2) q (nthI (dirL (FreeAt n P) (k + 1)))):=EO.below HO2.out hb
     have HB3:Hid (Below w.heap.size w w1):=HB.out.trans (hb.mono HB.out.size)
     clear hb HC HO2 HB EW
     go_wp2
     go_roundw
     case rel => exact ⟨k + 1,q,c2,a2,by have:=HK.out; omega,HQ2.out,by go_num,rfl,HO3.out,HB3.out⟩
     case measure => have:=HK.out; simp [intOf]; omega
    ·have HC:Hid _:=HBk.out k false (gB_no hh).symm wr EW.out
     have YD:Hid (FreeAt n P k):=⟨h2,hh⟩
     clear hlt hk h2 hh
     go_wp2_with fail
     refine Calls.mono HC.out ?_
     rintro e w1 ⟨rfl,hb⟩
     obtain ⟨a3,c3,w3,hr,hO3,hB3⟩:=appNum k HQ.out q16 (EO.below HO.out hb) (HB.out.trans (hb.mono HB.out.size))
     have HQ3:Hid (q + 1 = (dirL (FreeAt n P) (k + 1)).length):=by show _ = _; rw [dirL_yes YD.out,List.length_append,← HQ.out]; rfl
     have HO3:Hid (IE w3 w.heap.size (.slice a3 (q + 1) c3) (q + 1) (nthI (dirL (FreeAt n P) (k + 1)))):=by show IE _ _ _ _ _; rw [dirL_yes YD.out]; exact hO3
     have HB3:Hid (Below w.heap.size w w3):=hB3
     clear hb HC HO HB EW hO3 hB3 HQ YD q16
     go_wp2_with (at_builtin; refine Lib.wpList_append_run _ rfl (.tmp 19) (.tmp 21) 71 71 rfl (.slice a2 q c2) (.slice (some ⟨w1.heap.size,0,none⟩) 1 1) rfl rfl _ _ (hr _) ?_)
     go_roundw
     case rel => exact ⟨k + 1,q + 1,c3,a3,by have:=HK.out; omega,HQ3.out,by go_num,rfl,HO3.out,HB3.out⟩
     case measure => have:=HK.out; simp [intOf]; omega
   ·have e2:¬ (2:Int)≤(k:Int):=by omega
    have ND:¬ FreeAt n P k:=fun t => h2 t.1
    have HQ2:Hid (q = (dirL (FreeAt n P) (k + 1)).length):=by show _ = _; rw [dirL_no ND]; exact HQ.out
    have HO2:Hid (IE wr w.heap.size (.slice a2 q c2) q (nthI (dirL (FreeAt n P) (k + 1)))):=by show IE _ _ _ _ _; rw [dirL_no ND]; exact HO.out
    clear hlt hk h2 ND HQ HO q16
    go_wp2
    go_roundw
    case rel => exact ⟨k + 1,q,c2,a2,by have:=HK.out; omega,HQ2.out,by go_num,rfl,HO2.out,HB.out⟩
    case measure => have:=HK.out; simp [intOf]; omega
  ·obtain rfl:k = m:=by omega
   subst hq
   have HR:Hid (IE wr w.heap.size (.slice a2 (dirL (FreeAt n P) k).length c2) (dirL (FreeAt n P) k).length (nthI (dirL (FreeAt n P) k))):=ho
   have HB:Hid (Below w.heap.size w wr):=hb
   clear ho hb hlt hk HL HQ
   go_wp2
   go_ret
   exact ⟨⟨a2,c2,rfl,HR.out⟩,HB.out⟩
set_option maxRecDepth 100000 in
set_option maxHeartbeats 4000000 in
theorem l12Free_any (z:Int) (a:Option Addr) (n c:Nat) (P:Nat→Plc) (r:ByteArray) (m:Nat) (hm1:1≤m) (hm:m≤64) (hn:n≤16) (w:World) (h:Els w 2 a n (pcF P)) :
  Calls Tryz.prog 34 #[.agg #[.int .i64 z,.slice a n c,.string r],.int .i64 (m:Int)] w fun e w' => (∃ a' c',e = .returned (.slice a' (dirL (FreeAt n P) m).length c')∧IE w' w.heap.size (.slice a' (dirL (FreeAt n P) m).length c') (dirL (FreeAt n P) m).length (nthI (dirL (FreeAt n P) m)))∧Below w.heap.size w w':=by
 have A0:Hid (Below w.heap.size w ((w.alloc (.cells #[.int .i64 z,.slice a n c,.string r] 64)).alloc (.cells #[] 3))):=((Below.refl _ _).alloc (Nat.le_refl _) _).alloc (by simp) _
 have X:Hid (Box3 ((w.alloc (.cells #[.int .i64 z,.slice a n c,.string r] 64)).alloc (.cells #[] 3)) w.heap.size 64 (.int .i64 z) (.slice a n c) (.string r)):=(Box3.made _ _ _ _ _).alloc _
 have O0:Hid (IE ((w.alloc (.cells #[.int .i64 z,.slice a n c,.string r] 64)).alloc (.cells #[] 3)) (w.alloc (.cells #[.int .i64 z,.slice a n c,.string r] 64)).heap.size (.slice (some ⟨(w.alloc (.cells #[.int .i64 z,.slice a n c,.string r] 64)).heap.size,0,none⟩) 0 0) 0 (nthI (dirL (FreeAt n P) 2))):=EO.lit _ _ _ _ (Nat.le_refl _) _
 have B0:Hid (Below (w.alloc (.cells #[.int .i64 z,.slice a n c,.string r] 64)).heap.size (w.alloc (.cells #[.int .i64 z,.slice a n c,.string r] 64)) ((w.alloc (.cells #[.int .i64 z,.slice a n c,.string r] 64)).alloc (.cells #[] 3))):=(Below.refl _ _).alloc (Nat.le_refl _) _
 have A9:Hid (Below w.heap.size w (w.alloc (.cells #[.int .i64 z,.slice a n c,.string r] 64))):=(Below.refl _ _).alloc (Nat.le_refl _) _
 have X9:Hid (Box3 (w.alloc (.cells #[.int .i64 z,.slice a n c,.string r] 64)) w.heap.size 64 (.int .i64 z) (.slice a n c) (.string r)):=Box3.made _ _ _ _ _
 have E9:Hid (Els (w.alloc (.cells #[.int .i64 z,.slice a n c,.string r] 64)) 2 a n (pcF P)):=h.below A9.out
 have HM:Hid (1≤m∧m≤64):=⟨hm1,hm⟩
 have HN:Hid (n≤16):=hn
 have HL:Hid (∀ k,(dirL (FreeAt n P) k).length≤k):=dirL_le _
 have F2:Hid (dirL (FreeAt n P) 2 = []):=free2 n P
 have F1:Hid (dirL (FreeAt n P) 1 = []):=free1 n P
 clear h hm1 hm hn A0 X
 go_enter Tryz.func34,Tryz.ntmps34
 go_upto_region 2 with fail
 generalize ((w.alloc (.cells #[.int .i64 z,.slice a n c,.string r] 64)).alloc (.cells #[] 3)) = v1 at *
 generalize hva:(w.alloc (.cells #[.int .i64 z,.slice a n c,.string r] 64)) = v at *
 have hvs:w.heap.size + 1 = v.heap.size:=by rw [← hva]; simp
 clear hva
 rw [hvs]
 obtain ⟨vb,hvb⟩:∃ x,x = w.heap.size:=⟨_,rfl⟩
 rw [← hvb] at X9 ⊢
 clear hvb hvs
 generalize (some (⟨v.heap.size,0,none⟩:Addr)) = az at *
 go_wp2
 go_loopw [5,6] (fun s i wr => ∃ (k q c2:Nat) (a2:Option Addr),(2≤k∧(k≤m∨k = 2))∧q = (dirL (FreeAt n P) k).length∧i = .int .i64 k∧s = .slice a2 q c2∧IE wr v.heap.size (.slice a2 q c2) q (nthI (dirL (FreeAt n P) k))∧Below v.heap.size v wr) (fun _ i _ => m - (intOf i).toNat)
 case atStart => exact ⟨2,0,0,az,⟨by omega,.inr rfl⟩,by rw [F2.out]; rfl,rfl,rfl,O0.out,B0.out⟩
 case round =>
  clear O0 B0
  obtain ⟨k,q,c2,a2,⟨hk2,hk⟩,hq,rfl,rfl,ho,hb⟩:=hrel
  have HQ:Hid (q = (dirL (FreeAt n P) k).length):=hq
  by_cases hlt:k < m
  ·have hlt':(k:Int) < (m:Int):=by omega
   have kb:(k:Int)≤64:=by have:=HM.out; omega
   have kb0:(0:Int)≤(k:Int):=by omega
   have q16:q≤1000:=by have:=HL.out k; have:=HM.out; omega
   have HK:Hid (k < m∧2≤k):=⟨hlt,hk2⟩
   have HO:Hid (IE wr v.heap.size (.slice a2 q c2) q (nthI (dirL (FreeAt n P) k))):=ho
   have HB:Hid (Below v.heap.size v wr):=hb
   have x1:=(X9.out.below hb).c1
   have EW:Hid (Els wr 2 a n (pcF P)):=E9.out.below hb
   have HU:Hid (∀ l,l≤n→¬ l < n→gB (∃ j,j < l∧(P j).bk = (k:Int)) = gB (∃ j,j < n∧(P j).bk = (k:Int))):=fun l h1 h2 => by
    obtain rfl:l = n:=by omega
    rfl
   clear ho hb hq hlt hk
   go_wp2
   go_loopw [7,8] (fun u j w2 => ∃ (l:Nat) (ub:Bool),l≤n∧j = .int .i64 l∧u = .bool ub∧ub = gB (∃ j,j < l∧(P j).bk = (k:Int))∧wr = w2) (fun _ j _ => n - (intOf j).toNat)
   case atStart => exact ⟨0,false,by omega,rfl,rfl,(gB_no (fun ⟨j,hj,_⟩ => absurd hj (by omega))).symm,rfl⟩
   case round =>
    obtain ⟨l,ub,hl,rfl,rfl,hu,rfl⟩:=hrel
    by_cases hln:l < n
    ·have hln':(l:Int) < (n:Int):=by omega
     have l0:(0:Int)≤(l:Int):=by omega
     have lb:(l:Int)≤16:=by have:=HN.out; omega
     have HLN:Hid (l < n):=hln
     obtain ⟨b,off,rfl,hc⟩:=EW.out.opened (by omega)
     have d0:wr.cell? ⟨b,off + l * 2,none⟩ = some (.int .i64 (P l).bk):=hc l hln 0 (by omega)
     clear hc
     cases ub with
     | true =>
      have HU2:Hid (true = gB (∃ j,j < l + 1∧(P j).bk = (k:Int))):=by
       show _ = _
       by_cases t:∃ j,j < l∧(P j).bk = (k:Int)
       ·obtain ⟨j,hj,e⟩:=t
        exact (gB_yes ⟨j,by omega,e⟩).symm
       ·rw [gB_no t] at hu
        cases hu
      clear hu hln hl
      generalize (P l).bk = pl at *
      go_wp2
      go_roundw
      case rel => exact ⟨l + 1,true,by have:=HLN.out; omega,by go_num,rfl,HU2.out,by trivial⟩
      case measure => have:=HLN.out; simp [intOf]; omega
     | false =>
      have NT:¬ ∃ j,j < l∧(P j).bk = (k:Int):=fun t => by
       rw [gB_yes t] at hu
       cases hu
      by_cases e:(P l).bk = (k:Int)
      ·have HU2:Hid (true = gB (∃ j,j < l + 1∧(P j).bk = (k:Int))):=(gB_yes ⟨l,by omega,e⟩).symm
       have e1:((P l).bk == (k:Int)) = true:=by simp [e]
       clear hu hln hl NT e
       generalize (P l).bk = pl at *
       go_wp2
       go_roundw
       case rel => exact ⟨l + 1,true,by have:=HLN.out; omega,by go_num,rfl,HU2.out,by trivial⟩
       case measure => have:=HLN.out; simp [intOf]; omega
      ·have HU2:Hid (false = gB (∃ j,j < l + 1∧(P j).bk = (k:Int))):=(gB_no (fun ⟨j,hj,q⟩ => by
        by_cases e2:j = l
        ·subst e2; exact e q
        ·exact NT ⟨j,by omega,q⟩)).symm
       have e1:((P l).bk == (k:Int)) = false:=by simp [e]
       clear hu hln hl NT e
       generalize (P l).bk = pl at *
       go_wp2
       go_roundw
       case rel => exact ⟨l + 1,false,by have:=HLN.out; omega,by go_num,rfl,HU2.out,by trivial⟩
       case measure => have:=HLN.out; simp [intOf]; omega
    ·have hu2:=hu.trans (HU.out l hl hln)
     have hln':¬ (l:Int) < (n:Int):=by omega
     clear hu
     cases ub with
     | true =>
      have ND:¬ FreeAt n P k:=fun t => by rw [gB_no t.2] at hu2; cases hu2
      have HQ2:Hid (q = (dirL (FreeAt n P) (k + 1)).length):=by show _ = _; rw [dirL_no ND]; exact HQ.out
      have HO2:Hid (IE wr v.heap.size (.slice a2 q c2) q (nthI (dirL (FreeAt n P) (k + 1)))):=by show IE _ _ _ _ _; rw [dirL_no ND]; exact HO.out
      clear hu2 ND hln hl HQ HO q16
      go_wp2
      go_roundw
      case rel => exact ⟨k + 1,q,c2,a2,⟨by omega,.inl (by have:=HK.out; omega)⟩,HQ2.out,by go_num,rfl,HO2.out,HB.out⟩
      case measure => have:=HK.out; simp [intOf]; omega
     | false =>
      have YD:FreeAt n P k:=⟨HK.out.2,fun t => by rw [gB_yes t] at hu2; cases hu2⟩
      obtain ⟨a3,c3,w3,hr,hO3,hB3⟩:=appNum k HQ.out q16 HO.out HB.out
      have HQ3:Hid (q + 1 = (dirL (FreeAt n P) (k + 1)).length):=by show _ = _; rw [dirL_yes YD,List.length_append,← HQ.out]; rfl
      have HO3:Hid (IE w3 v.heap.size (.slice a3 (q + 1) c3) (q + 1) (nthI (dirL (FreeAt n P) (k + 1)))):=by show IE _ _ _ _ _; rw [dirL_yes YD]; exact hO3
      have HB3:Hid (Below v.heap.size v w3):=hB3
      clear hu2 YD hln hl HQ HO HB hO3 hB3 q16
      go_wp2_with (at_builtin; refine Lib.wpList_append_run _ rfl (.tmp 35) (.tmp 37) 71 71 rfl (.slice a2 q c2) (.slice (some ⟨wr.heap.size,0,none⟩) 1 1) rfl rfl _ _ (hr _) ?_)
      go_roundw
      case rel => exact ⟨k + 1,q + 1,c3,a3,⟨by omega,.inl (by have:=HK.out; omega)⟩,HQ3.out,by go_num,rfl,HO3.out,HB3.out⟩
      case measure => have:=HK.out; simp [intOf]; omega
  ·have hlt':¬ (k:Int) < (m:Int):=by omega
   have ek:dirL (FreeAt n P) k = dirL (FreeAt n P) m:=by
    rcases hk with hk | rfl
    ·obtain rfl:k = m:=by omega
     rfl
    ·rcases (show m = 1∨m = 2 by have:=HM.out; omega) with rfl | rfl
     ·rw [F2.out,F1.out]
     ·rfl
   rw [ek] at hq ho
   subst hq
   have HR:Hid (IE wr w.heap.size (.slice a2 (dirL (FreeAt n P) m).length c2) (dirL (FreeAt n P) m).length (nthI (dirL (FreeAt n P) m))):=EO.mono ho A9.out.size
   have HB:Hid (Below w.heap.size w wr):=A9.out.trans (hb.mono A9.out.size)
   clear ho hb hlt hk HL HQ ek
   go_wp2
   go_ret
   exact ⟨⟨a2,c2,rfl,HR.out⟩,HB.out⟩
set_option maxRecDepth 100000 in
theorem appPlc (w:World) (B:Nat) (v:Value) (n q:Nat) (R:Nat→Plc) (x:Plc) (hB:B≤w.heap.size) (hn:n≤100000) (h:EO w B 74 2 v n (pcF R)) (hx:∀ j,j < 2→w.cell? ⟨q,0 + j,none⟩ = some (pcV x j)) :
  ∃ v' w',(∀ ty,(Builtin.append_ #[62,62] ty #[v,.slice (some ⟨q,0,none⟩) 1 1]).run Tryz.prog w = .ok v' w')∧EO w' B 74 2 v' (n + 1) (pcF (updE R n x))∧w.grownBy w' v.ownBlock∧(v'.ownBlock = v.ownBlock∨v'.ownBlock = some w.heap.size):=by
 obtain ⟨i,hi,hz,hsz,hby⟩:=info_parts Tryz.infoPlc
 obtain ⟨v',w',hr,ho,hg,_,hloc⟩:=run_append_own_at (P:=Tryz.prog) w B 62 62 74 i _ 2 16 Tryz.underlying62 hi hz hsz hby rfl (by decide) v n _ h ⟨q,0,none⟩ 1 1 ((List.range 2).map (pcV x)) (by simp) (fun j u hj => by
  rw [Go.WideShapes.add_plain]
  rw [List.getElem?_map,Option.map_eq_some_iff] at hj
  obtain ⟨b,hb,rfl⟩:=hj
  obtain ⟨hj',rfl⟩:=List.getElem?_eq_some_iff.1 hb
  rw [List.getElem_range]
  exact hx j (by simpa using hj')) (fun u hu => by
   obtain ⟨j,hj,rfl⟩:=List.mem_map.1 hu
   have:=List.mem_range.1 hj
   rcases (show j = 0∨j = 1 by omega) with rfl | rfl <;> rfl) (by unfold maxLen; omega) (by omega) hB
 refine ⟨v',w',fun ty => hr,?_,hg,hloc⟩
 unfold EO
 rw [elv_snoc,elv_congr (G:=pcF R) (fun i hi j hj => by unfold pcF updE; rw [if_neg (by omega)])]
 have e:(List.range 2).map (pcF (updE R n x) n) = (List.range 2).map (pcV x):=by unfold pcF updE; simp
 rw [e]
 exact ho
end Go.Proofs.YtcpjeopnhgoonaaGreatDoor
