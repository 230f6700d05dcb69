/-
  Texts of the proof, joined.
-/
import Derived.Test.YtcpjeopnhgoonaaGreatDoorF19
namespace Go.Proofs.YtcpjeopnhgoonaaGreatDoor
open Go.ChangeShapes Go.WideShapes Go.ChangeAt Go.RowKit
set_option linter.unusedVariables false
def PcOne (n:Nat) (F:Nat→ByteArray) (i:Nat):Prop:=(1≤(F i).size∧(F i).size≤64)∧(i + 1 < n→(F i).size = 64)
theorem isPiece_any (s:ByteArray) (r:Bool) (hr:r = decide (1≤s.size∧s.size≤64)) (w:World) :
  Calls Tryz.prog 99 #[.string s] w fun e w' => e = .returned (.bool r)∧w = w':=by
 by_cases h1:1≤s.size
 ·by_cases h2:s.size≤64
  ·obtain rfl:r = true:=by rw [hr]; simp; omega
   have e1:(1:Int)≤(s.size:Int):=by omega
   have e2:(s.size:Int)≤64:=by omega
   clear hr
   go_enter Tryz.func99,Tryz.ntmps99
   go_wp2
   go_ret
   exact ⟨rfl,rfl⟩
  ·obtain rfl:r = false:=by rw [hr]; simp; omega
   have e1:(1:Int)≤(s.size:Int):=by omega
   have e2:¬ (s.size:Int)≤64:=by omega
   clear hr
   go_enter Tryz.func99,Tryz.ntmps99
   go_wp2
   go_ret
   exact ⟨rfl,rfl⟩
 ·obtain rfl:r = false:=by rw [hr]; simp; omega
  have e1:¬ (1:Int)≤(s.size:Int):=by omega
  clear hr
  go_enter Tryz.func99,Tryz.ntmps99
  go_wp2
  go_ret
  exact ⟨rfl,rfl⟩
set_option maxRecDepth 100000 in
set_option maxHeartbeats 2000000 in
theorem arePieces_any (a:Option Addr) (n c:Nat) (F:Nat→ByteArray) (w:World) (h:Strs w a n F) (z:Bool) (hz:z = gB (PcsOk n F)) :
  Calls Tryz.prog 141 #[.slice a n c] w fun e w' => e = .returned (.bool z)∧w = w':=by
 by_cases h16:n≤16
 ·have n0:¬ (16:Int) < (n:Int):=by omega
  have n1:(n:Int)≤16:=by omega
  have HC:Hid (Strs w a n F):=h
  have HZ:Hid (z = gB (PcsOk n F)):=hz
  have H16:Hid (n≤16):=h16
  clear h hz h16
  go_enter Tryz.func141,Tryz.ntmps141
  go_wp2
  go_loopw [10] (fun i wr => ∃ k:Nat,k≤n∧i = .int .i64 k∧(∀ j,j < k→PcOne n F j)∧w = wr) (fun i _ => n - (intOf i).toNat)
  case atStart => exact ⟨0,by omega,rfl,fun j hj => absurd hj (by omega),rfl⟩
  case round =>
   obtain ⟨k,hk,rfl,hall,rfl⟩:=hrel
   have HA:Hid (∀ j,j < k→PcOne n F j):=hall
   clear hall
   by_cases hlt:k < n
   ·have hlt':(k:Int) < (n:Int):=by omega
    have k0:(0:Int)≤(k:Int):=by omega
    obtain ⟨b,off,rfl,hc⟩:=HC.out.opened (by omega)
    have c1:=hc k hlt
    clear hc
    have HN:Hid (PcOne n F k→PcOne n F k):=id
    have HF:Hid (∀ V,V = F k→¬ ((1≤V.size∧V.size≤64)∧(k + 1 < n→V.size = 64))→z = false):=fun V e q => by
     subst e
     rw [HZ.out]
     exact gB_no (fun p => q (p.2 k hlt))
    have HT:Hid (∀ V,V = F k→((1≤V.size∧V.size≤64)∧(k + 1 < n→V.size = 64))→∀ j,j < k + 1→PcOne n F j):=fun V e q j hj => by
     subst e
     by_cases e:j = k
     ·subst e; exact q
     ·exact HA.out j (by omega)
    obtain ⟨V,hV⟩:∃ V,V = F k:=⟨_,rfl⟩
    rw [← hV] at c1
    have HF1:=HF.out V hV
    have HT1:Hid (((1≤V.size∧V.size≤64)∧(k + 1 < n→V.size = 64))→∀ j,j < k + 1→PcOne n F j):=HT.out V hV
    have HM:Hid (k < n):=hlt
    clear hV HF HT HN HA
    by_cases hp:1≤V.size∧V.size≤64
    ·have IP:Hid (∀ w:World,Calls Tryz.prog 99 #[.string V] w fun e w' => e = .returned (.bool true)∧w = w'):=fun w => isPiece_any V true (by simp; omega) w
     by_cases hl:k + 1 = n
     ·have HT2:Hid (∀ j,j < k + 1→PcOne n F j):=HT1.out ⟨hp,fun q => by omega⟩
      have el:((k:Int) == (n:Int) - 1) = true:=by simp; omega
      clear HF1 HT1 hp hl hlt hk
      go_wp2_with fail
      refine (IP.out _).mono ?_
      rintro e _ ⟨rfl,rfl⟩
      go_wp2
      go_roundw
      case rel => exact ⟨k + 1,by have:=HM.out; omega,by go_num,HT2.out,by trivial⟩
      case measure => have:=HM.out; simp [intOf]; omega
     ·have el:((k:Int) == (n:Int) - 1) = false:=by simp; omega
      by_cases h64:V.size = 64
      ·have HT2:Hid (∀ j,j < k + 1→PcOne n F j):=HT1.out ⟨hp,fun q => h64⟩
       have e64:((V.size:Int) != 64) = false:=by simp; omega
       clear HF1 HT1 hp hl hlt hk h64
       go_wp2_with fail
       refine (IP.out _).mono ?_
       rintro e _ ⟨rfl,rfl⟩
       go_wp2
       go_roundw
       case rel => exact ⟨k + 1,by have:=HM.out; omega,by go_num,HT2.out,by trivial⟩
       case measure => have:=HM.out; simp [intOf]; omega
      ·obtain rfl:=HF1 (fun q => h64 (q.2 (by omega)))
       have e64:((V.size:Int) != 64) = true:=by simp; omega
       clear HF1 HT1 hp hl hlt hk h64 HZ
       go_wp2_with fail
       refine (IP.out _).mono ?_
       rintro e _ ⟨rfl,rfl⟩
       go_wp2
       go_ret
       exact ⟨rfl,rfl⟩
    ·obtain rfl:=HF1 (fun q => hp q.1)
     have IP:Hid (∀ w:World,Calls Tryz.prog 99 #[.string V] w fun e w' => e = .returned (.bool false)∧w = w'):=fun w => isPiece_any V false (by simp; omega) w
     obtain ⟨el,hel⟩:∃ el,el = ((k:Int) == (n:Int) - 1):=⟨_,rfl⟩
     clear HF1 HT1 hp hlt hk HZ hel
     go_wp2_with fail
     refine (IP.out _).mono ?_
     rintro e _ ⟨rfl,rfl⟩
     go_wp2
     go_ret
     exact ⟨rfl,rfl⟩
   ·obtain rfl:k = n:=by omega
    obtain rfl:z = true:=by rw [HZ.out]; exact gB_yes ⟨H16.out,HA.out⟩
    clear HZ HC
    go_wp2
    go_ret
    exact ⟨rfl,rfl⟩
 ·have n0:(16:Int) < (n:Int):=by omega
  obtain rfl:z = false:=by rw [hz]; exact gB_no (fun q => h16 q.1)
  clear h hz h16
  go_enter Tryz.func141,Tryz.ntmps141
  go_wp2
  go_ret
  exact ⟨rfl,rfl⟩
def PfIs (m:Nat) (N:Nat→Nat) (FF:Nat→Nat→ByteArray) (c:Int):Prop :=
 (c = 2∧∃ j,j < m∧4096 < N j)∨(c = 1∧(∀ j,j < m→¬ 4096 < N j)∧∃ j,j < m∧¬ PcsOk (N j) (FF j))∨(c = 0∧∀ j,j < m→PcsOk (N j) (FF j))
def RetPF (m:Nat) (N:Nat→Nat) (FF:Nat→Nat→ByteArray) (e:Ending):Prop:=∃ c:Int,e = .returned (.int .i64 c)∧PfIs m N FF c
set_option maxRecDepth 100000 in
set_option maxHeartbeats 2000000 in
theorem piecesFault_any (q m:Nat) (A:Nat→Option Addr) (N C:Nat→Nat) (FF:Nat→Nat→ByteArray) (hm:m≤2) (w:World) (hc:∀ j,j < m→w.cell? ⟨q,j,none⟩ = some (.slice (A j) (N j) (C j))) (h:∀ j,j < m→Strs w (A j) (N j) (FF j)) :
  Calls Tryz.prog 97 #[.slice (some ⟨q,0,none⟩) m m] w fun e w' => RetPF m N FF e∧w = w':=by
 have HC:Hid (∀ j,j < m→w.cell? ⟨q,j,none⟩ = some (.slice (A j) (N j) (C j))):=hc
 have HS:Hid (∀ j,j < m→Strs w (A j) (N j) (FF j)):=h
 have HM:Hid (m≤2):=hm
 clear hc h hm
 go_enter Tryz.func97,Tryz.ntmps97
 go_wp2
 go_loopw [9] (fun i wr => ∃ k:Nat,k≤m∧i = .int .i64 k∧(∀ j,j < k→¬ 4096 < N j)∧w = wr) (fun i _ => m - (intOf i).toNat)
 case atStart => exact ⟨0,by omega,rfl,fun j hj => absurd hj (by omega),rfl⟩
 case round =>
  obtain ⟨k,hk,rfl,hall,rfl⟩:=hrel
  have HA:Hid (∀ j,j < k→¬ 4096 < N j):=hall
  clear hall
  by_cases hlt:k < m
  ·have hlt':(k:Int) < (m:Int):=by omega
   have k0:(0:Int)≤(k:Int):=by omega
   have kb:(k:Int)≤2:=by have:=HM.out; omega
   have c1:=HC.out k hlt
   have HK:Hid (k < m):=hlt
   by_cases h4:4096 < N k
   ·have e4:(4096:Int) < (N k:Int):=by omega
    have HR:Hid (RetPF m N FF (.returned (.int .i64 2))):=⟨2,rfl,.inl ⟨rfl,k,hlt,h4⟩⟩
    clear hlt hk h4
    generalize A k = Ak at *
    generalize N k = Nk at *
    generalize C k = Ck at *
    go_wp2
    go_ret
    exact ⟨HR.out,rfl⟩
   ·have e4:¬ (4096:Int) < (N k:Int):=by omega
    have HT:Hid (∀ j,j < k + 1→¬ 4096 < N j):=fun j hj => by
     by_cases e:j = k
     ·subst e; exact h4
     ·exact HA.out j (by omega)
    clear hlt hk h4
    generalize A k = Ak at *
    generalize N k = Nk at *
    generalize C k = Ck at *
    go_wp2
    go_roundw
    case rel => exact ⟨k + 1,by have:=HK.out; omega,by go_num,HT.out,by trivial⟩
    case measure => have:=HK.out; simp [intOf]; omega
  ·obtain rfl:k = m:=by omega
   clear hlt hk
   go_wp2
   go_loopw [19] (fun i wr => ∃ q:Nat,q≤k∧i = .int .i64 q∧(∀ j,j < q→PcsOk (N j) (FF j))∧w = wr) (fun i _ => k - (intOf i).toNat)
   case atStart => exact ⟨0,by omega,rfl,fun j hj => absurd hj (by omega),rfl⟩
   case round =>
    obtain ⟨p,hp,rfl,hall,rfl⟩:=hrel
    have HB:Hid (∀ j,j < p→PcsOk (N j) (FF j)):=hall
    clear hall
    by_cases hlt:p < k
    ·have hlt':(p:Int) < (k:Int):=by omega
     have k0:(0:Int)≤(p:Int):=by omega
     have kb:(p:Int)≤2:=by have:=HM.out; omega
     have c1:=HC.out p hlt
     have HK:Hid (p < k):=hlt
     by_cases h4:PcsOk (N p) (FF p)
     ·have AP:Hid (Calls Tryz.prog 141 #[.slice (A p) (N p) (C p)] w fun e w' => e = .returned (.bool true)∧w = w'):=arePieces_any (A p) (N p) (C p) (FF p) w (HS.out p hlt) true (gB_yes h4).symm
      have HT:Hid (∀ j,j < p + 1→PcsOk (N j) (FF j)):=fun j hj => by
       by_cases e:j = p
       ·subst e; exact h4
       ·exact HB.out j (by omega)
      clear hlt hp h4
      generalize A p = Ak at *
      generalize N p = Nk at *
      generalize C p = Ck at *
      go_wp2_with fail
      refine AP.out.mono ?_
      rintro e _ ⟨rfl,rfl⟩
      go_wp2
      go_roundw
      case rel => exact ⟨p + 1,by have:=HK.out; omega,by go_num,HT.out,by trivial⟩
      case measure => have:=HK.out; simp [intOf]; omega
     ·have AP:Hid (Calls Tryz.prog 141 #[.slice (A p) (N p) (C p)] w fun e w' => e = .returned (.bool false)∧w = w'):=arePieces_any (A p) (N p) (C p) (FF p) w (HS.out p hlt) false (gB_no h4).symm
      have HR:Hid (RetPF k N FF (.returned (.int .i64 1))):=⟨1,rfl,.inr (.inl ⟨rfl,HA.out,p,hlt,h4⟩)⟩
      clear hlt hp h4
      generalize A p = Ak at *
      generalize N p = Nk at *
      generalize C p = Ck at *
      go_wp2_with fail
      refine AP.out.mono ?_
      rintro e _ ⟨rfl,rfl⟩
      go_wp2
      go_ret
      exact ⟨HR.out,rfl⟩
    ·obtain rfl:p = k:=by omega
     have HR:Hid (RetPF p N FF (.returned (.int .i64 0))):=⟨0,rfl,.inr (.inr ⟨rfl,HB.out⟩)⟩
     clear hlt hp
     go_wp2
     go_ret
     exact ⟨HR.out,rfl⟩
def DirtAt (n:Nat) (F G:Nat→ByteArray) (i:Nat):Prop:=¬ (i < n∧F i = G i)
theorem textNeD {t s:ByteArray} (h:t≠s):(t.toList == s.toList) = false:=by
 cases e:(t.toList == s.toList) with
 | false => rfl
 | true =>
  have e2:t.toList = s.toList:=by simpa using e
  rw [ByteArray.toList_eq,ByteArray.toList_eq] at e2
  exact absurd (ByteArray.ext (Array.toList_inj.1 e2)) h
set_option maxRecDepth 100000 in
theorem lists2 (w:World) (u v:Value) (t:TypeId):∀ j,j < 2→(w.alloc (.cells #[u,v] t)).cell? ⟨w.heap.size,j,none⟩ = some (if j = 0 then u else v):=fun j hj => 
 (World.rowIs_alloc w #[u,v] t (fun j => if j = 0 then u else v) (fun i hi => by
  rcases (show i = 0∨i = 1 by simpa using (show i = 0∨i = 1 from (fun (h:i < 2) => by omega) (by simpa using hi))) with rfl | rfl <;> rfl)).cell (i:=j) hj
theorem PfIs.two {n m:Nat} {F G:Nat→ByteArray} {x:Int} {A:Nat→Nat} {FF:Nat→Nat→ByteArray} (h:PfIs 2 A FF x) (e0:A 0 = n) (e1:A 1 = m) (f0:FF 0 = F) (f1:FF 1 = G) :
  (x = 2∧(4096 < n∨4096 < m))∨(x = 1∧(¬ 4096 < n∧¬ 4096 < m)∧¬ (PcsOk n F∧PcsOk m G))∨(x = 0∧PcsOk n F∧PcsOk m G):=by
 have two:∀ j,j < 2→j = 0∨j = 1:=fun j hj => by omega
 subst e0 e1 f0 f1
 rcases h with ⟨rfl,j,hj,q⟩ | ⟨rfl,q1,j,hj,q⟩ | ⟨rfl,q⟩
 ·rcases two j hj with rfl | rfl
  ·exact .inl ⟨rfl,.inl q⟩
  ·exact .inl ⟨rfl,.inr q⟩
 ·refine .inr (.inl ⟨rfl,⟨q1 0 (by omega),q1 1 (by omega)⟩,fun z => ?_⟩)
  rcases two j hj with rfl | rfl
  ·exact q z.1
  ·exact q z.2
 ·exact .inr (.inr ⟨rfl,q 0 (by omega),q 1 (by omega)⟩)
def DpIs (n m:Nat) (F G:Nat→ByteArray) (L:List Nat) (c:Int):Prop:=(c = 2∧(4096 < n∨4096 < m)∧L = [])∨(c = 1∧(¬ 4096 < n∧¬ 4096 < m)∧¬ (PcsOk n F∧PcsOk m G)∧L = [])∨(c = 0∧(PcsOk n F∧PcsOk m G)∧L = dirL (DirtAt n F G) m)
set_option maxRecDepth 100000 in
set_option maxHeartbeats 4000000 in
theorem implDirty_any (a b:Option Addr) (n m c d:Nat) (F G:Nat→ByteArray) (L:List Nat) (cd:Int) (hA:DpIs n m F G L cd) (w:World) (h:Strs w a n F) (h':Strs w b m G) :
  Calls Tryz.prog 66 #[.slice a n c,.slice b m d] w fun e w' => (∃ a' c',e = .returned (.tuple #[.slice a' L.length c',.int .i64 cd])∧IE w' w.heap.size (.slice a' L.length c') L.length (nthI L))∧Below w.heap.size w w':=by
 have hb:Below w.heap.size w (w.alloc (.cells #[.slice a n c,.slice b m d] 22)):=(Below.refl _ _).alloc (Nat.le_refl _) _
 have PF:Hid (Calls Tryz.prog 97 #[.slice (some ⟨w.heap.size,0,none⟩) 2 2] (w.alloc (.cells #[.slice a n c,.slice b m d] 22)) fun e w' => RetPF 2 (fun j => if j = 0 then n else m) (fun j => if j = 0 then F else G) e∧(w.alloc (.cells #[.slice a n c,.slice b m d] 22)) = w'):=piecesFault_any w.heap.size 2 (fun j => if j = 0 then a else b) (fun j => if j = 0 then n else m) (fun j => if j = 0 then c else d) (fun j => if j = 0 then F else G) (by omega) _ (fun j hj => by
  rw [lists2 w _ _ _ j hj]
  by_cases e:j = 0
  ·subst e; rfl
  ·simp only [if_neg e]) (fun j hj => by
  by_cases e:j = 0
  ·subst e; exact h.below hb
  ·simp only [if_neg e]; exact h'.below hb)
 have HB0:Hid (Below w.heap.size w (w.alloc (.cells #[.slice a n c,.slice b m d] 22))):=hb
 have HC0:Hid (Strs (w.alloc (.cells #[.slice a n c,.slice b m d] 22)) a n F):=h.below hb
 have HD0:Hid (Strs (w.alloc (.cells #[.slice a n c,.slice b m d] 22)) b m G):=h'.below hb
 have HA:Hid (DpIs n m F G L cd):=hA
 clear hb h h' hA
 go_enter Tryz.func66,Tryz.ntmps66
 go_wp2_with fail
 generalize (w.alloc (.cells #[.slice a n c,.slice b m d] 22)) = u0 at *
 refine PF.out.mono ?_
 rintro e _ ⟨⟨x,rfl,hx⟩,rfl⟩
 clear PF
 have hcs:(x = cd∧¬ x = 0∧L = [])∨(x = 0∧cd = 0∧(PcsOk n F∧PcsOk m G)∧L = dirL (DirtAt n F G) m):=by
  have hx2:=hx.two (n:=n) (m:=m) (F:=F) (G:=G) rfl rfl rfl rfl
  rcases HA.out with ⟨rfl,h4,hL⟩ | ⟨rfl,h4,hp,hL⟩ | ⟨rfl,hp,hL⟩ <;> rcases hx2 with ⟨rfl,q⟩ | ⟨rfl,q1,q⟩ | ⟨rfl,q⟩
  ·exact .inl ⟨rfl,by omega,hL⟩
  ·rcases h4 with h4 | h4
   ·exact absurd h4 q1.1
   ·exact absurd h4 q1.2
  ·have:=q.1.1; have:=q.2.1; omega
  ·rcases q with q | q
   ·exact absurd q h4.1
   ·exact absurd q h4.2
  ·exact .inl ⟨rfl,by omega,hL⟩
  ·exact absurd q hp
  ·have:=hp.1.1; have:=hp.2.1; omega
  ·exact absurd hp q
  ·exact .inr ⟨rfl,rfl,hp,hL⟩
 clear hx HA
 rcases hcs with ⟨rfl,hx,rfl⟩ | ⟨rfl,rfl,hp,rfl⟩
 ·have e1:(x != 0) = true:=by simp [hx]
  clear hx
  go_wp2
  exact bodyPost_ret (results_tmp2 Tryz.results66 _ _ _) rfl ⟨⟨none,0,rfl,EO.nil _ _ _ _ _⟩,HB0.out⟩
 ·have HE:Hid (∀ (wr:World) (v':Value) (q:Nat),IE wr u0.heap.size v' q (nthI (dirL (DirtAt n F G) m))→IE wr w.heap.size v' q (nthI (dirL (DirtAt n F G) m))):=fun wr v' q z => EO.mono z HB0.out.size
  have HF:Hid (∀ wr:World,Below u0.heap.size u0 wr→Below w.heap.size w wr):=fun wr z => HB0.out.trans (z.mono HB0.out.size)
  have HC:Hid (Strs u0 a n F):=HC0.out
  have HD:Hid (Strs u0 b m G):=HD0.out
  have HM:Hid (m≤16):=hp.2.1
  have n16:(n:Int)≤16:=by have:=hp.1.1; omega
  have HL:Hid (∀ k,(dirL (DirtAt n F G) k).length≤k):=dirL_le _
  clear hp HC0 HD0 HB0
  go_wp2
  go_loopw [7,18] (fun v i wr => ∃ (k q c2:Nat) (a2:Option Addr),k≤m∧q = (dirL (DirtAt n F G) k).length∧i = .int .i64 k∧v = .slice a2 q c2∧IE wr u0.heap.size (.slice a2 q c2) q (nthI (dirL (DirtAt n F G) k))∧Below u0.heap.size u0 wr) (fun _ i _ => m - (intOf i).toNat)
  case atStart => exact ⟨0,0,0,none,by omega,rfl,rfl,rfl,EO.nil _ _ _ _ _,Below.refl _ _⟩
  case round =>
   obtain ⟨k,q,c2,a2,hk,hq,rfl,rfl,ho,hb⟩:=hrel
   have HQ:Hid (q = (dirL (DirtAt n F G) k).length):=hq
   by_cases hlt:k < m
   ·have hlt':(k:Int) < (m:Int):=by omega
    have k0:(0:Int)≤(k:Int):=by omega
    have kb:(k:Int)≤16:=by have:=HM.out; omega
    obtain ⟨b2,o2,rfl,hc2⟩:=(HD.out.below hb).opened (by omega)
    have d1:=hc2 k hlt
    have q16:q≤1000:=by have:=HL.out k; have:=HM.out; omega
    have HK:Hid (k < m):=hlt
    have HO:Hid (IE wr u0.heap.size (.slice a2 q c2) q (nthI (dirL (DirtAt n F G) k))):=ho
    have HB:Hid (Below u0.heap.size u0 wr):=hb
    clear ho hc2
    by_cases hkn:k < n
    ·have e1:¬ (n:Int)≤(k:Int):=by omega
     have hkn':(k:Int) < (n:Int):=by omega
     have HKN:Hid (k < n):=hkn
     obtain ⟨b1,o1,rfl,hc1⟩:=(HC.out.below hb).opened (by omega)
     have d0:=hc1 k hkn
     clear hc1
     by_cases he:F k = G k
     ·have ND:¬ DirtAt n F G k:=fun z => z ⟨hkn,he⟩
      have HQ2:Hid (q = (dirL (DirtAt n F G) (k + 1)).length):=by show _ = _; rw [dirL_no ND]; exact HQ.out
      have HO2:Hid (IE wr u0.heap.size (.slice a2 q c2) q (nthI (dirL (DirtAt n F G) (k + 1)))):=by show IE _ _ _ _ _; rw [dirL_no ND]; exact HO.out
      rw [he] at d0
      clear hq hb he hkn hlt hk q16 HQ HO ND
      generalize G k = V at *
      go_wp2_with fail
      have H:Below wr.heap.size wr wr.drew:=(Below.refl _ _).drew
      refine wp_region_noPanic ?_
      refine wp_region_held_drew (S:=fun w' => Below wr.heap.size wr w') (by kernel_rfl) H (fun _ => ?_)
      generalize wr.drew = x0 at *
      refine tkH (i:=0) (v:=.int .i64 (k:Int)) rfl (by kernel_rfl) (by rfl) ?_ H ?_
      ·intro w' hSw; clear hSw; go_simp
      refine ch42 ?_
      refine tkH (i:=1) (v:=.slice (some ⟨b1,o1,none⟩) n c) rfl (by kernel_rfl) (by rfl) ?_ H ?_
      ·intro w' hSw; clear hSw; go_simp
      refine ch42 ?_
      refine tkH (i:=2) (v:=.int .i64 (n:Int)) rfl (by kernel_rfl) (by rfl) ?_ H ?_
      ·intro w' hSw; clear hSw; go_simp
      refine ch42 ?_
      refine tkH (i:=3) (v:=.bool false) rfl (by kernel_rfl) (by rfl) ?_ H ?_
      ·intro w' hSw; clear hSw; go_simp; exact HKN.out
      refine ch42 ?_
      refine tkH (i:=4) (v:=.bool false) rfl (by kernel_rfl) (by rfl) ?_ H ?_
      ·intro w' hSw; clear hSw; go_simp
      refine ch42 ?_
      refine tkH (i:=5) (v:=.slice (some ⟨b1,o1,none⟩) n c) rfl (by kernel_rfl) (by rfl) ?_ H ?_
      ·intro w' hSw; clear hSw; go_simp
      refine ch42 ?_
      refine tkH (i:=6) (v:=.int .i64 (k:Int)) rfl (by kernel_rfl) (by rfl) ?_ H ?_
      ·intro w' hSw; clear hSw; go_simp
      refine ch42 ?_
      refine tkH (i:=7) (v:=.pointer (some ⟨b1,o1 + k,none⟩)) rfl (by kernel_rfl) (by rfl) ?_ H ?_
      ·intro w' hSw; clear hSw; go_simp
      refine ch42 ?_
      refine tkH (i:=8) (v:=.string V) rfl (by kernel_rfl) (by rfl) ?_ H ?_
      ·intro w' hSw; have q0:=(hSw.cell (strBlock d0)).trans d0; clear hSw; go_simp
      refine ch42 ?_
      refine tkH (i:=9) (v:=.slice (some ⟨b2,o2,none⟩) m d) rfl (by kernel_rfl) (by rfl) ?_ H ?_
      ·intro w' hSw; clear hSw; go_simp
      refine ch42 ?_
      refine tkH (i:=10) (v:=.int .i64 (k:Int)) rfl (by kernel_rfl) (by rfl) ?_ H ?_
      ·intro w' hSw; clear hSw; go_simp
      refine ch42 ?_
      refine tkH (i:=11) (v:=.pointer (some ⟨b2,o2 + k,none⟩)) rfl (by kernel_rfl) (by rfl) ?_ H ?_
      ·intro w' hSw; clear hSw; go_simp
      refine ch42 ?_
      refine tkH (i:=12) (v:=.string V) rfl (by kernel_rfl) (by rfl) ?_ H ?_
      ·intro w' hSw; have q0:=(hSw.cell (strBlock d1)).trans d1; clear hSw; go_simp
      refine ch42 ?_
      refine tkH (i:=13) (v:=.bool false) rfl (by kernel_rfl) (by rfl) ?_ H ?_
      ·intro w' hSw; clear hSw; go_simp
      refine ch42 ?_
      refine tkH (i:=14) (v:=.bool false) rfl (by kernel_rfl) (by rfl) ?_ H ?_
      ·intro w' hSw; clear hSw; go_simp
      refine ch42 ?_
      refine wpAnyH_done (by kernel_rfl) ?_ _
      refine NoPanic.normal ?_
      have HB2:Hid (Below u0.heap.size u0 x0):=HB.out.trans (H.mono HB.out.size)
      have HO3:Hid (IE x0 u0.heap.size (.slice a2 q c2) q (nthI (dirL (DirtAt n F G) (k + 1)))):=EO.below HO2.out H
      clear H HO2 HB
      go_wp2
      go_roundw
      case rel => exact ⟨k + 1,q,c2,a2,by have:=HK.out; omega,HQ2.out,by go_num,rfl,HO3.out,HB2.out⟩
      case measure => have:=HK.out; simp [intOf]; omega
     ·have YD:Hid (DirtAt n F G k):=fun z => he z.2
      have he1:=textNeD he
      clear hq hb he hkn hlt hk
      generalize F k = U at *
      generalize G k = V at *
      go_wp2_with fail
      have H:Below wr.heap.size wr wr.drew:=(Below.refl _ _).drew
      refine wp_region_noPanic ?_
      refine wp_region_held_drew (S:=fun w' => Below wr.heap.size wr w') (by kernel_rfl) H (fun _ => ?_)
      generalize wr.drew = x0 at *
      refine tkH (i:=0) (v:=.int .i64 (k:Int)) rfl (by kernel_rfl) (by rfl) ?_ H ?_
      ·intro w' hSw; clear hSw; go_simp
      refine ch42 ?_
      refine tkH (i:=1) (v:=.slice (some ⟨b1,o1,none⟩) n c) rfl (by kernel_rfl) (by rfl) ?_ H ?_
      ·intro w' hSw; clear hSw; go_simp
      refine ch42 ?_
      refine tkH (i:=2) (v:=.int .i64 (n:Int)) rfl (by kernel_rfl) (by rfl) ?_ H ?_
      ·intro w' hSw; clear hSw; go_simp
      refine ch42 ?_
      refine tkH (i:=3) (v:=.bool false) rfl (by kernel_rfl) (by rfl) ?_ H ?_
      ·intro w' hSw; clear hSw; go_simp; exact HKN.out
      refine ch42 ?_
      refine tkH (i:=4) (v:=.bool false) rfl (by kernel_rfl) (by rfl) ?_ H ?_
      ·intro w' hSw; clear hSw; go_simp
      refine ch42 ?_
      refine tkH (i:=5) (v:=.slice (some ⟨b1,o1,none⟩) n c) rfl (by kernel_rfl) (by rfl) ?_ H ?_
      ·intro w' hSw; clear hSw; go_simp
      refine ch42 ?_
      refine tkH (i:=6) (v:=.int .i64 (k:Int)) rfl (by kernel_rfl) (by rfl) ?_ H ?_
      ·intro w' hSw; clear hSw; go_simp
      refine ch42 ?_
      refine tkH (i:=7) (v:=.pointer (some ⟨b1,o1 + k,none⟩)) rfl (by kernel_rfl) (by rfl) ?_ H ?_
      ·intro w' hSw; clear hSw; go_simp
      refine ch42 ?_
      refine tkH (i:=8) (v:=.string U) rfl (by kernel_rfl) (by rfl) ?_ H ?_
      ·intro w' hSw; have q0:=(hSw.cell (strBlock d0)).trans d0; clear hSw; go_simp
      refine ch42 ?_
      refine tkH (i:=9) (v:=.slice (some ⟨b2,o2,none⟩) m d) rfl (by kernel_rfl) (by rfl) ?_ H ?_
      ·intro w' hSw; clear hSw; go_simp
      refine ch42 ?_
      refine tkH (i:=10) (v:=.int .i64 (k:Int)) rfl (by kernel_rfl) (by rfl) ?_ H ?_
      ·intro w' hSw; clear hSw; go_simp
      refine ch42 ?_
      refine tkH (i:=11) (v:=.pointer (some ⟨b2,o2 + k,none⟩)) rfl (by kernel_rfl) (by rfl) ?_ H ?_
      ·intro w' hSw; clear hSw; go_simp
      refine ch42 ?_
      refine tkH (i:=12) (v:=.string V) rfl (by kernel_rfl) (by rfl) ?_ H ?_
      ·intro w' hSw; have q0:=(hSw.cell (strBlock d1)).trans d1; clear hSw; go_simp
      refine ch42 ?_
      refine tkH (i:=13) (v:=.bool true) rfl (by kernel_rfl) (by rfl) ?_ H ?_
      ·intro w' hSw; clear hSw; go_simp
      refine ch42 ?_
      refine tkH (i:=14) (v:=.bool true) rfl (by kernel_rfl) (by rfl) ?_ H ?_
      ·intro w' hSw; clear hSw; go_simp
      refine ch42 ?_
      refine wpAnyH_done (by kernel_rfl) ?_ _
      refine NoPanic.normal ?_
      have HB2:Hid (Below u0.heap.size u0 x0):=HB.out.trans (H.mono HB.out.size)
      have HO2:Hid (IE x0 u0.heap.size (.slice a2 q c2) q (nthI (dirL (DirtAt n F G) k))):=EO.below HO.out H
      obtain ⟨a3,c3,w3,hr,hO3,hB3⟩:=appNum k HQ.out q16 HO2.out HB2.out
      have HQ3:Hid (q + 1 = (dirL (DirtAt n F G) (k + 1)).length):=by show _ = _; rw [dirL_yes YD.out,List.length_append,← HQ.out]; rfl
      have HO3:Hid (IE w3 u0.heap.size (.slice a3 (q + 1) c3) (q + 1) (nthI (dirL (DirtAt n F G) (k + 1)))):=by show IE _ _ _ _ _; rw [dirL_yes YD.out]; exact hO3
      have HB3:Hid (Below u0.heap.size u0 w3):=hB3
      clear H HB2 HO2 hO3 hB3 HQ HO HB YD q16
      go_wp2_with (at_builtin; refine Lib.wpList_append_run _ rfl (.tmp 36) (.tmp 38) 71 71 rfl (.slice a2 q c2) (.slice (some ⟨x0.heap.size,0,none⟩) 1 1) rfl rfl _ _ (hr _) ?_)
      go_roundw
      case rel => exact ⟨k + 1,q + 1,c3,a3,by have:=HK.out; omega,HQ3.out,by go_num,rfl,HO3.out,HB3.out⟩
      case measure => have:=HK.out; simp [intOf]; omega
    ·have e1:(n:Int)≤(k:Int):=by omega
     have YD:Hid (DirtAt n F G k):=fun z => hkn z.1
     clear hq hb hkn hlt hk
     go_wp2_with fail
     have H:Below wr.heap.size wr wr.drew:=(Below.refl _ _).drew
     refine wp_region_noPanic ?_
     refine wp_region_held_drew (S:=fun w' => Below wr.heap.size wr w') (by kernel_rfl) H (fun _ => ?_)
     generalize wr.drew = x0 at *
     refine tkH (i:=0) (v:=.int .i64 (k:Int)) rfl (by kernel_rfl) (by rfl) ?_ H ?_
     ·intro w' hSw; clear hSw; go_simp
     refine ch42 ?_
     refine tkH (i:=1) (v:=.slice a n c) rfl (by kernel_rfl) (by rfl) ?_ H ?_
     ·intro w' hSw; clear hSw; go_simp
     refine ch42 ?_
     refine tkH (i:=2) (v:=.int .i64 (n:Int)) rfl (by kernel_rfl) (by rfl) ?_ H ?_
     ·intro w' hSw; clear hSw; go_simp
     refine ch42 ?_
     refine tkH (i:=3) (v:=.bool true) rfl (by kernel_rfl) (by rfl) ?_ H ?_
     ·intro w' hSw; clear hSw; go_simp
     refine ch42 ?_
     refine tkH (i:=4) (v:=.bool true) rfl (by kernel_rfl) (by rfl) ?_ H ?_
     ·intro w' hSw; clear hSw; go_simp
     refine ch42 ?_
     refine wpAnyH_take (i:=5) (v:=undef) rfl (by kernel_rfl) (by kernel_rfl) (by kernel_rfl) (fun _ _ _ h => h) (Or.inr ⟨by rfl,rfl⟩) H ?_
     refine ch42 ?_
     refine wpAnyH_take (i:=6) (v:=undef) rfl (by kernel_rfl) (by kernel_rfl) (by kernel_rfl) (fun _ _ _ h => h) (Or.inr ⟨by rfl,rfl⟩) H ?_
     refine ch42 ?_
     refine wpAnyH_take (i:=7) (v:=undef) rfl (by kernel_rfl) (by kernel_rfl) (by kernel_rfl) (fun _ _ _ h => h) (Or.inr ⟨by rfl,rfl⟩) H ?_
     refine ch42 ?_
     refine wpAnyH_take (i:=8) (v:=undef) rfl (by kernel_rfl) (by kernel_rfl) (by kernel_rfl) (fun _ _ _ h => h) (Or.inr ⟨by rfl,rfl⟩) H ?_
     refine ch42 ?_
     refine wpAnyH_take (i:=9) (v:=undef) rfl (by kernel_rfl) (by kernel_rfl) (by kernel_rfl) (fun _ _ _ h => h) (Or.inr ⟨by rfl,rfl⟩) H ?_
     refine ch42 ?_
     refine wpAnyH_take (i:=10) (v:=undef) rfl (by kernel_rfl) (by kernel_rfl) (by kernel_rfl) (fun _ _ _ h => h) (Or.inr ⟨by rfl,rfl⟩) H ?_
     refine ch42 ?_
     refine wpAnyH_take (i:=11) (v:=undef) rfl (by kernel_rfl) (by kernel_rfl) (by kernel_rfl) (fun _ _ _ h => h) (Or.inr ⟨by rfl,rfl⟩) H ?_
     refine ch42 ?_
     refine wpAnyH_take (i:=12) (v:=undef) rfl (by kernel_rfl) (by kernel_rfl) (by kernel_rfl) (fun _ _ _ h => h) (Or.inr ⟨by rfl,rfl⟩) H ?_
     refine ch42 ?_
     refine wpAnyH_take (i:=13) (v:=undef) rfl (by kernel_rfl) (by kernel_rfl) (by kernel_rfl) (fun _ _ _ h => h) (Or.inr ⟨by rfl,rfl⟩) H ?_
     refine ch42 ?_
     refine tkH (i:=14) (v:=.bool true) rfl (by kernel_rfl) (by rfl) ?_ H ?_
     ·intro w' hSw; clear hSw; go_simp
     refine ch42 ?_
     refine wpAnyH_done (by kernel_rfl) ?_ _
     refine NoPanic.normal ?_
     have HB2:Hid (Below u0.heap.size u0 x0):=HB.out.trans (H.mono HB.out.size)
     have HO2:Hid (IE x0 u0.heap.size (.slice a2 q c2) q (nthI (dirL (DirtAt n F G) k))):=EO.below HO.out H
     obtain ⟨a3,c3,w3,hr,hO3,hB3⟩:=appNum k HQ.out q16 HO2.out HB2.out
     have HQ3:Hid (q + 1 = (dirL (DirtAt n F G) (k + 1)).length):=by show _ = _; rw [dirL_yes YD.out,List.length_append,← HQ.out]; rfl
     have HO3:Hid (IE w3 u0.heap.size (.slice a3 (q + 1) c3) (q + 1) (nthI (dirL (DirtAt n F G) (k + 1)))):=by show IE _ _ _ _ _; rw [dirL_yes YD.out]; exact hO3
     have HB3:Hid (Below u0.heap.size u0 w3):=hB3
     clear H HB2 HO2 hO3 hB3 HQ HO HB YD q16
     go_wp2_with (at_builtin; refine Lib.wpList_append_run _ rfl (.tmp 36) (.tmp 38) 71 71 rfl (.slice a2 q c2) (.slice (some ⟨x0.heap.size,0,none⟩) 1 1) rfl rfl _ _ (hr _) ?_)
     go_roundw
     case rel => exact ⟨k + 1,q + 1,c3,a3,by have:=HK.out; omega,HQ3.out,by go_num,rfl,HO3.out,HB3.out⟩
     case measure => have:=HK.out; simp [intOf]; omega
   ·obtain rfl:k = m:=by omega
    subst hq
    have HR:Hid (IE wr u0.heap.size (.slice a2 (dirL (DirtAt n F G) k).length c2) (dirL (DirtAt n F G) k).length (nthI (dirL (DirtAt n F G) k))):=ho
    have HB:Hid (Below u0.heap.size u0 wr):=hb
    clear ho hb hlt hk HL HQ
    go_wp2
    exact bodyPost_ret (results_tmp2 Tryz.results66 _ _ _) rfl ⟨⟨a2,c2,rfl,HE.out _ _ _ HR.out⟩,HF.out _ HB.out⟩
def plL (p:Plc):List Nat:=[p.bk.toNat] ++ numL 2 p.vs.toNat
def flatP (P:Nat→Plc):Nat→List Nat
 | 0 => []
 | k + 1 => flatP P k ++ plL (P k)
theorem plL_length (p:Plc):(plL p).length = 3:=by unfold plL; rw [List.length_append,numL_length]; rfl
theorem flatP_length (P:Nat→Plc):∀ k,(flatP P k).length = 3 * k
 | 0 => rfl
 | k + 1 => by rw [flatP,List.length_append,plL_length,flatP_length P k]; omega
def supL (z:Int) (n:Nat) (P:Nat→Plc) (r:ByteArray):List Nat:=numL 2 z.toNat ++ flatP P n ++ strL r
theorem headL_length (z:Int) (k:Nat) (P:Nat→Plc):(numL 2 z.toNat ++ flatP P k).length = 2 + 3 * k:=by rw [List.length_append,numL_length,flatP_length]
theorem supL_length (z:Int) (n:Nat) (P:Nat→Plc) (r:ByteArray):(supL z n P r).length = 2 + 3 * n + r.size:=by unfold supL; rw [List.length_append,headL_length,strL_length]
def LitP (w:World) (b:Nat) (L:List Nat):Prop:=∀ j (hj:j < L.length),w.cell? ⟨b,0 + j,none⟩ = some (.int .u8 ((L[j]:Nat):Int))
theorem lit1P (w:World) (x:Nat):LitP (w.alloc (.cells #[.int .u8 ((x:Nat):Int)] 5)) w.heap.size [x]:=fun j hj => by
 obtain rfl:j = 0:=by simpa using hj
 have:((w.alloc (.cells #[.int .u8 (x:Nat)] 5)).rowIs w.heap.size 5 1 (fun _ => .int .u8 (x:Nat))):=World.rowIs_alloc w #[.int .u8 (x:Nat)] 5 _ (fun i hi => by
  obtain rfl:i = 0:=by simpa using hi
  rfl)
 exact this.cell (by omega)
theorem OL.add1 {w:World} {B:Nat} {a:Option Addr} {q c:Nat} {L:List Nat} (h:OL w B (.slice a q c) L) (hq:q = L.length) (hm:q≤900000) (hB:B≤w.heap.size) (x:Nat) :
  ∃ a' c' w',(∀ ty,(Builtin.append_ #[68,68] ty #[.slice a q c,.slice (some ⟨w.heap.size,0,none⟩) 1 1]).run Tryz.prog (w.alloc (.cells #[.int .u8 ((x:Nat):Int)] 5)) = .ok (.slice a' (q + 1) c') w')∧OL w' B (.slice a' (q + 1) c') (L ++ [x])∧Below B w w'∧(∀ p,p < w.heap.size→(Value.slice a q c).ownBlock≠some p→w'.heap[p]? = w.heap[p]?):=by
 have hb:Below w.heap.size w (w.alloc (.cells #[.int .u8 ((x:Nat):Int)] 5)):=(Below.refl _ _).alloc (Nat.le_refl _) _
 obtain ⟨v',w',hr,ho,hb2,hg⟩:=OL.app (w.alloc (.cells #[.int .u8 ((x:Nat):Int)] 5)) B (.slice a q c) L [x] w.heap.size 0 1 1 rfl (by simp; omega) (by simp; omega) (h.below hb) (lit1P w x)
 obtain ⟨a',c',rfl⟩:=ho.form
 have el:(L ++ [x]).length = q + 1:=by rw [List.length_append,hq]; rfl
 rw [el] at hr ho
 exact ⟨a',c',w',hr,ho,(hb.mono hB).trans hb2,fun p hp hne => (hg.block p (by simp; omega) (fun e => hne e.symm)).trans (hb.block p hp)⟩
theorem OL.notBox {w:World} {B:Nat} {v:Value} {L:List Nat} (h:OL w B v L) {pb:Nat} {x y:Value} (hb:Box2 w pb 74 x y):v.ownBlock≠some pb:=fun e => by
 obtain ⟨hl,⟨h1,h2⟩ | ⟨g',cap,cur,hv,hBB,hh,_⟩⟩:=h
 ·rw [h1] at e
  cases e
 ·rw [hv] at e
  have e2:g' = pb:=Option.some.inj e
  obtain ⟨cur',hh',_⟩:=hb
  rw [e2,hh'] at hh
  cases hh
set_option maxRecDepth 100000 in
set_option maxHeartbeats 4000000 in
theorem implSupBy_ok (z:Int) (a:Option Addr) (n c:Nat) (P:Nat→Plc) (r:ByteArray) (hok:SupOk z n P r) (hsl:SlP a n c) (w:World) (h:Els w 2 a n (pcF P)) :
  Calls Tryz.prog 70 #[.agg #[.int .i64 z,.slice a n c,.string r]] w fun e w' => (∃ a' c',e = .returned (.tuple #[.slice a' (supL z n P r).length c',.int .i64 0])∧OL w' w.heap.size (.slice a' (supL z n P r).length c') (supL z n P r))∧Below w.heap.size w w':=by
 have A0:Hid (Below w.heap.size w (w.alloc (.cells #[.int .i64 z,.slice a n c,.string r] 64))):=(Below.refl _ _).alloc (Nat.le_refl _) _
 have X:Hid (Box3 (w.alloc (.cells #[.int .i64 z,.slice a n c,.string r] 64)) w.heap.size 64 (.int .i64 z) (.slice a n c) (.string r)):=Box3.made _ _ _ _ _
 have E0:Hid (Els (w.alloc (.cells #[.int .i64 z,.slice a n c,.string r] 64)) 2 a n (pcF P)):=h.below A0.out
 have SK:Hid (Calls Tryz.prog 107 #[.agg #[.int .i64 z,.slice a n c,.string r]] (w.alloc (.cells #[.int .i64 z,.slice a n c,.string r] 64)) fun e w' => e = .returned (.bool true)∧Below (w.alloc (.cells #[.int .i64 z,.slice a n c,.string r] 64)).heap.size (w.alloc (.cells #[.int .i64 z,.slice a n c,.string r] 64)) w'):=implSupOK_any z a n c P r hsl (by have:=hok.n16; omega) _ E0.out true (gB_yes hok).symm
 have HO:Hid (SupOk z n P r):=hok
 have n16:=hok.n16
 have h32:r.size = 32:=hok.1.2.2.2
 obtain ⟨m,rfl⟩:=Int.eq_ofNat_of_zero_le (show 0≤z by have:=hok.1.1; omega)
 have k0:=X.out.c0
 have k1:=X.out.c1
 have k2:=X.out.c2
 have SL:Hid ((supL (m:Int) n P r).length = 2 + 3 * n + 32):=by show _ = _; rw [supL_length,h32]
 have SM:Hid (supL (m:Int) n P r = numL 2 m ++ flatP P n ++ strL r):=rfl
 clear h hok hsl
 go_enter Tryz.func70,Tryz.ntmps70
 go_wp2_with fail
 clear k0 k1 k2
 generalize (w.alloc (.cells #[.int .i64 (m:Int),.slice a n c,.string r] 64)) = v at *
 obtain ⟨vb,hvb⟩:∃ x,x = w.heap.size:=⟨_,rfl⟩
 rw [← hvb] at X ⊢
 clear hvb
 refine SK.out.mono ?_
 rintro e v1 ⟨rfl,hb⟩
 have A1:Hid (Below w.heap.size w v1):=A0.out.trans (hb.mono A0.out.size)
 have X1:Hid (Box3 v1 vb 64 (.int .i64 (m:Int)) (.slice a n c) (.string r)):=X.out.below hb
 have E1:Hid (Els v1 2 a n (pcF P)):=E0.out.below hb
 have k0:=X1.out.c0
 clear hb SK X E0 A0
 go_wp2_with fail
 clear k0
 refine (appendNumberO v1.heap.size none 0 0 m 2 [] rfl (by omega) (by simp) v1 (Nat.le_refl _) (OL.nil _ _)).mono ?_
 rintro e v2 ⟨⟨a2,c2,rfl,ho⟩,hb⟩
 have HB:Hid (Below v1.heap.size v1 v2):=hb
 have HR:Hid (OL v2 v1.heap.size (.slice a2 2 c2) (numL 2 m ++ flatP P 0)):=by show OL _ _ _ _; simpa [flatP] using ho
 have k1:=(X1.out.below hb).c1
 clear ho hb
 go_wp2
 clear k1
 go_loopw [4,16] (fun s i wr => ∃ (k c3:Nat) (a3:Option Addr),k≤n∧i = .int .i64 k∧s = .slice a3 (2 + 3 * k) c3∧OL wr v1.heap.size (.slice a3 (2 + 3 * k) c3) (numL 2 m ++ flatP P k)∧Below v1.heap.size v1 wr) (fun _ i _ => n - (intOf i).toNat)
 case atStart => exact ⟨0,c2,a2,by omega,rfl,rfl,HR.out,HB.out⟩
 case round =>
  clear HR HB
  obtain ⟨k,c3,a3,hk,rfl,rfl,ho,hb⟩:=hrel
  have HB:Hid (Below v1.heap.size v1 wr):=hb
  by_cases hlt:k < n
  ·have hlt':(k:Int) < (n:Int):=by omega
   have k0:(0:Int)≤(k:Int):=by omega
   have kb:(k:Int)≤16:=by omega
   have HK:Hid (k < n):=hlt
   have hpl:=(HO.out.2 k hlt).1
   obtain ⟨b,off,rfl,hc⟩:=(E1.out.below hb).opened (by omega)
   have d0:wr.cell? ⟨b,off + k * 2,none⟩ = some (.int .i64 (P k).bk):=hc k hlt 0 (by omega)
   have d1:wr.cell? ⟨b,off + k * 2 + 1,none⟩ = some (.int .i64 (P k).vs):=hc k hlt 1 (by omega)
   obtain ⟨x,hx⟩:=Int.eq_ofNat_of_zero_le (show 0≤(P k).bk by have:=hpl.1.1; omega)
   obtain ⟨y,hy⟩:=Int.eq_ofNat_of_zero_le (show 0≤(P k).vs by have:=hpl.2.1; omega)
   have EF:Hid (flatP P (k + 1) = flatP P k ++ ([x] ++ numL 2 y)):=by show flatP P k ++ plL (P k) = _; unfold plL; rw [hx,hy]; rfl
   rw [hx] at d0
   rw [hy] at d1
   have x256:(x:Int) % 256 = (x:Int):=by have:=hpl.1.2; omega
   have hb2:Below wr.heap.size wr (wr.alloc (.cells #[.int .i64 (x:Int),.int .i64 (y:Int)] 74)):=(Below.refl _ _).alloc (Nat.le_refl _) _
   have B2:Hid (Box2 (wr.alloc (.cells #[.int .i64 (x:Int),.int .i64 (y:Int)] 74)) wr.heap.size 74 (.int .i64 (x:Int)) (.int .i64 (y:Int))):=Box2.made _ _ _ _
   have O2:Hid (OL (wr.alloc (.cells #[.int .i64 (x:Int),.int .i64 (y:Int)] 74)) v1.heap.size (.slice a3 (2 + 3 * k) c3) (numL 2 m ++ flatP P k)):=ho.below hb2
   have HB2:Hid (Below v1.heap.size v1 (wr.alloc (.cells #[.int .i64 (x:Int),.int .i64 (y:Int)] 74))):=hb.trans (hb2.mono hb.size)
   have HLN:Hid (2 + 3 * k = (numL 2 m ++ flatP P k).length):=by show _ = _; rw [List.length_append,numL_length,flatP_length]
   clear ho hb hb2 hc hpl hx hy hlt hk
   go_upto_region 7 with fail
   clear d0 d1
   generalize (wr.alloc (.cells #[.int .i64 (x:Int),.int .i64 (y:Int)] 74)) = v3 at *
   generalize wr.heap.size = pb at *
   obtain ⟨a4,c4,v4,hr4,ho4,hb4,kp4⟩:=O2.out.add1 HLN.out (by omega) HB2.out.size x
   have l0:=B2.out.c0
   have O4:Hid (OL v4 v1.heap.size (.slice a4 (2 + 3 * k + 1) c4) (numL 2 m ++ flatP P k ++ [x])):=ho4
   have HB4:Hid (Below v1.heap.size v1 v4):=HB2.out.trans hb4
   have l1:v4.cell? ⟨pb,1,none⟩ = some (.int .i64 (y:Int)):=(B2.out.ofBlock (kp4 pb B2.out.lt (O2.out.notBox B2.out))).c1
   have HL4:Hid (2 + 3 * k + 1 = (numL 2 m ++ flatP P k ++ [x]).length):=by show _ = _; rw [List.length_append,← HLN.out]; rfl
   have AN:Hid (Calls Tryz.prog 62 #[.slice a4 (2 + 3 * k + 1) c4,.int .i64 (y:Int),.int .i64 2] v4 fun e w' => (∃ a' c',e = .returned (.slice a' (2 + 3 * k + 1 + 2) c')∧OL w' v1.heap.size (.slice a' (2 + 3 * k + 1 + 2) c') (numL 2 m ++ flatP P k ++ [x] ++ numL 2 y))∧Below v1.heap.size v4 w'):=appendNumberO v1.heap.size a4 (2 + 3 * k + 1) c4 y 2 (numL 2 m ++ flatP P k ++ [x]) HL4.out (by omega) (by rw [← HL4.out]; omega) v4 HB4.out.size O4.out
   clear ho4 hb4 kp4 HB2 O2 B2
   go_wp2_with (at_builtin; refine Lib.wpList_append_run _ rfl (.tmp 20) (.tmp 24) 68 68 rfl (.slice a3 (2 + 3 * k) c3) (.slice (some ⟨v3.heap.size,0,none⟩) 1 1) rfl rfl _ _ (hr4 _) ?_)
   refine AN.out.mono ?_
   rintro e v5 ⟨⟨a5,c5,rfl,ho⟩,hb⟩
   have O5:Hid (OL v5 v1.heap.size (.slice a5 (2 + 3 * (k + 1)) c5) (numL 2 m ++ flatP P (k + 1))):=by
    show OL _ _ _ _
    rw [EF.out]
    have e1:2 + 3 * k + 1 + 2 = 2 + 3 * (k + 1):=by omega
    rw [e1] at ho
    simpa only [List.append_assoc] using ho
   have HB5:Hid (Below v1.heap.size v1 v5):=HB4.out.trans hb
   clear ho hb AN O4 HB4 l0 l1 hr4
   go_wp2
   go_roundw
   case rel => exact ⟨k + 1,c5,a5,by have:=HK.out; omega,by go_num,rfl,O5.out,HB5.out⟩
   case measure => have:=HK.out; simp [intOf]; omega
  ·obtain rfl:k = n:=by omega
   have x2:=(X1.out.below hb).c2
   obtain ⟨v3,w3,hr3,ho3,hb3,_⟩:=OL.appS wr v1.heap.size (.slice a3 (2 + 3 * k) c3) (numL 2 m ++ flatP P k) r hb.size (by rw [List.length_append,numL_length,flatP_length]; omega) ho
   obtain ⟨a4,c4,rfl⟩:=ho3.form
   rw [← SM.out] at hr3 ho3
   have O3:Hid (OL w3 w.heap.size (.slice a4 (supL (m:Int) k P r).length c4) (supL (m:Int) k P r)):=ho3.mono A1.out.size
   have B3:Hid (Below w.heap.size w w3):=A1.out.trans ((hb.trans hb3).mono A1.out.size)
   clear ho hb ho3 hb3 HB hlt hk SL SM
   go_wp2_with (at_builtin; refine Lib.wpList_append_run _ rfl (.tmp 31) (.tmp 33) 68 9 rfl (.slice a3 (2 + 3 * k) c3) (.string r) rfl rfl _ _ (hr3 _) ?_)
   exact bodyPost_ret (results_tmp2 Tryz.results70 _ _ _) rfl ⟨⟨a4,c4,rfl,O3.out⟩,B3.out⟩
theorem l08TwoO (k:Nat) (hk:k≤65535) (w:World) :
  Calls Tryz.prog 51 #[.int .i64 (k:Int)] w fun e w' => (e = .returned (.slice (some ⟨w.heap.size,0,none⟩) 2 2)∧RL w' w.heap.size w.heap.size 2 (numL 2 k))∧Below w.heap.size w w':=by
 have HK:Hid (lv (numL 2 k) = [.int .u8 ((k:Int) / 256),.int .u8 ((k:Int) % 256)]):=by
  show _ = _
  unfold numL numP lv
  simp [List.range,List.range.loop]
  omega
 go_enter Tryz.func51,Tryz.ntmps51
 go_wp2
 go_ret
 exact ⟨⟨rfl,RL.made w _ (numL 2 k) 2 (numL_length 2 k) (by omega) HK.out.symm⟩,(Below.refl _ _).alloc (Nat.le_refl _) _⟩
set_option maxRecDepth 100000 in
set_option maxHeartbeats 4000000 in
theorem l12Bytes_any (z:Int) (a:Option Addr) (n c:Nat) (P:Nat→Plc) (r:ByteArray) (hok:SupOk z n P r) (w:World) (h:Els w 2 a n (pcF P)) :
  Calls Tryz.prog 39 #[.agg #[.int .i64 z,.slice a n c,.string r]] w fun e w' => (∃ a' c',e = .returned (.slice a' (supL z n P r).length c')∧OL w' w.heap.size (.slice a' (supL z n P r).length c') (supL z n P r))∧Below w.heap.size w w':=by
 have A0:Hid (Below w.heap.size w (w.alloc (.cells #[.int .i64 z,.slice a n c,.string r] 64))):=(Below.refl _ _).alloc (Nat.le_refl _) _
 have X:Hid (Box3 (w.alloc (.cells #[.int .i64 z,.slice a n c,.string r] 64)) w.heap.size 64 (.int .i64 z) (.slice a n c) (.string r)):=Box3.made _ _ _ _ _
 have E0:Hid (Els (w.alloc (.cells #[.int .i64 z,.slice a n c,.string r] 64)) 2 a n (pcF P)):=h.below A0.out
 have HO:Hid (SupOk z n P r):=hok
 have n16:=hok.n16
 have h32:r.size = 32:=hok.1.2.2.2
 obtain ⟨m,rfl⟩:=Int.eq_ofNat_of_zero_le (show 0≤z by have:=hok.1.1; omega)
 have TW:Hid (∀ (k:Nat),k≤65535→∀ w:World,Calls Tryz.prog 51 #[.int .i64 (k:Int)] w fun e w' => (e = .returned (.slice (some ⟨w.heap.size,0,none⟩) 2 2)∧RL w' w.heap.size w.heap.size 2 (numL 2 k))∧Below w.heap.size w w'):=l08TwoO
 have hm:m≤65535:=by have:=hok.1.2.1; omega
 have SM:Hid (supL (m:Int) n P r = numL 2 m ++ flatP P n ++ strL r):=rfl
 clear h hok
 go_enter Tryz.func39,Tryz.ntmps39
 go_wp2_with fail
 generalize (w.alloc (.cells #[.int .i64 (m:Int),.slice a n c,.string r] 64)) = v at *
 obtain ⟨vb,hvb⟩:∃ x,x = w.heap.size:=⟨_,rfl⟩
 rw [← hvb] at X ⊢
 clear hvb
 refine (TW.out m hm _).mono ?_
 rintro e v2 ⟨⟨rfl,hr⟩,hb⟩
 have HB:Hid (Below v.heap.size v v2):=hb
 have HR:Hid (OL v2 v.heap.size (.slice (some ⟨v.heap.size,0,none⟩) 2 2) (numL 2 m ++ flatP P 0)):=by
  show OL _ _ _ _
  have:=hr.ol
  rw [numL_length] at this
  simpa [flatP] using this
 clear hr hb hm
 generalize hvz:(some (⟨v.heap.size,0,none⟩:Addr)) = az at *
 clear hvz
 go_wp2
 go_loopw [3,4] (fun s i wr => ∃ (k c3:Nat) (a3:Option Addr),k≤n∧i = .int .i64 k∧s = .slice a3 (2 + 3 * k) c3∧OL wr v.heap.size (.slice a3 (2 + 3 * k) c3) (numL 2 m ++ flatP P k)∧Below v.heap.size v wr) (fun _ i _ => n - (intOf i).toNat)
 case atStart => exact ⟨0,2,az,by omega,rfl,rfl,HR.out,HB.out⟩
 case round =>
  clear HR HB
  obtain ⟨k,c3,a3,hk,rfl,rfl,ho,hb⟩:=hrel
  have HB:Hid (Below v.heap.size v wr):=hb
  have x1:=(X.out.below hb).c1
  by_cases hlt:k < n
  ·have hlt':(k:Int) < (n:Int):=by omega
   have k0:(0:Int)≤(k:Int):=by omega
   have kb:(k:Int)≤16:=by omega
   have HK:Hid (k < n):=hlt
   have hpl:=(HO.out.2 k hlt).1
   obtain ⟨b,off,rfl,hc⟩:=E0.out.opened (by omega)
   have d0:v.cell? ⟨b,off + k * 2,none⟩ = some (.int .i64 (P k).bk):=hc k hlt 0 (by omega)
   have d1:v.cell? ⟨b,off + k * 2 + 1,none⟩ = some (.int .i64 (P k).vs):=hc k hlt 1 (by omega)
   obtain ⟨x,hx⟩:=Int.eq_ofNat_of_zero_le (show 0≤(P k).bk by have:=hpl.1.1; omega)
   obtain ⟨y,hy⟩:=Int.eq_ofNat_of_zero_le (show 0≤(P k).vs by have:=hpl.2.1; omega)
   have EF:Hid (flatP P (k + 1) = flatP P k ++ ([x] ++ numL 2 y)):=by show flatP P k ++ plL (P k) = _; unfold plL; rw [hx,hy]; rfl
   rw [hx] at d0
   rw [hy] at d1
   have T2:Hid (∀ w:World,Calls Tryz.prog 51 #[.int .i64 (y:Int)] w fun e w' => (e = .returned (.slice (some ⟨w.heap.size,0,none⟩) 2 2)∧RL w' w.heap.size w.heap.size 2 (numL 2 y))∧Below w.heap.size w w'):=TW.out y (by have:=hpl.2.2; omega)
   have x256:(x:Int) % 256 = (x:Int):=by have:=hpl.1.2; omega
   have xw:IntKind.u8.wrap (x:Int) = (x:Int):=IntWalk.u8_in _ (by have:=hpl.1.2; omega)
   have HR:Hid (OL wr v.heap.size (.slice a3 (2 + 3 * k) c3) (numL 2 m ++ flatP P k)):=ho
   have HLN:Hid (2 + 3 * k = (numL 2 m ++ flatP P k).length):=by show _ = _; rw [List.length_append,numL_length,flatP_length]
   have D0:Hid (v.cell? ⟨b,off + k * 2,none⟩ = some (.int .i64 (x:Int))):=d0
   have D1:Hid (v.cell? ⟨b,off + k * 2 + 1,none⟩ = some (.int .i64 (y:Int))):=d1
   clear ho hb hc hpl hx hy hlt hk d0 d1
   go_wp2_with fail
   clear x1
   have H:Below v.heap.size v wr.drew:=HB.out.drew
   have O0:Hid (OL wr.drew v.heap.size (.slice a3 (2 + 3 * k) c3) (numL 2 m ++ flatP P k)):=HR.out.below ((Below.refl _ _).drew)
   refine wp_region_noPanic ?_
   refine wp_region_held_drew (S:=fun w' => Below v.heap.size v w') (by kernel_rfl) H (fun _ => ?_)
   generalize wr.drew = x0 at *
   refine tkH (i:=0) (v:=.slice a3 (2 + 3 * k) c3) rfl (by kernel_rfl) (by rfl) ?_ H ?_
   ·intro w' hSw; clear hSw; go_simp
   refine ch37 ?_
   refine tkH (i:=1) (v:=.pointer (some ⟨vb,1,none⟩)) rfl (by kernel_rfl) (by rfl) ?_ H ?_
   ·intro w' hSw; clear hSw; go_simp
   refine ch37 ?_
   refine tkH (i:=2) (v:=.slice (some ⟨b,off,none⟩) n c) rfl (by kernel_rfl) (by rfl) ?_ H ?_
   ·intro w' hSw; have q0:=(X.out.below hSw).c1; clear hSw; go_simp
   refine ch37 ?_
   refine tkH (i:=3) (v:=.int .i64 (k:Int)) rfl (by kernel_rfl) (by rfl) ?_ H ?_
   ·intro w' hSw; clear hSw; go_simp
   refine ch37 ?_
   refine tkH (i:=4) (v:=.pointer (some ⟨b,off + k * 2,none⟩)) rfl (by kernel_rfl) (by rfl) ?_ H ?_
   ·intro w' hSw; clear hSw; go_simp
   refine ch37 ?_
   refine tkH (i:=5) (v:=.pointer (some ⟨b,off + k * 2,none⟩)) rfl (by kernel_rfl) (by rfl) ?_ H ?_
   ·intro w' hSw; clear hSw; go_simp
   refine ch37 ?_
   refine tkH (i:=6) (v:=.int .i64 (x:Int)) rfl (by kernel_rfl) (by rfl) ?_ H ?_
   ·intro w' hSw; have q0:=(hSw.cell (strBlock D0.out)).trans D0.out; clear hSw; go_simp
   refine ch37 ?_
   refine tkH (i:=7) (v:=.int .u8 (x:Int)) rfl (by kernel_rfl) (by rfl) ?_ H ?_
   ·intro w' hSw; clear hSw; go_simp
   refine ch37 ?_
   refine tkH (i:=10) (v:=.pointer (some ⟨vb,1,none⟩)) rfl (by kernel_rfl) (by rfl) ?_ H ?_
   ·intro w' hSw; clear hSw; go_simp
   refine ch37 ?_
   refine tkH (i:=11) (v:=.slice (some ⟨b,off,none⟩) n c) rfl (by kernel_rfl) (by rfl) ?_ H ?_
   ·intro w' hSw; have q0:=(X.out.below hSw).c1; clear hSw; go_simp
   refine ch37 ?_
   refine tkH (i:=12) (v:=.int .i64 (k:Int)) rfl (by kernel_rfl) (by rfl) ?_ H ?_
   ·intro w' hSw; clear hSw; go_simp
   refine ch37 ?_
   refine tkH (i:=13) (v:=.pointer (some ⟨b,off + k * 2,none⟩)) rfl (by kernel_rfl) (by rfl) ?_ H ?_
   ·intro w' hSw; clear hSw; go_simp
   refine ch37 ?_
   refine tkH (i:=14) (v:=.pointer (some ⟨b,off + k * 2 + 1,none⟩)) rfl (by kernel_rfl) (by rfl) ?_ H ?_
   ·intro w' hSw; clear hSw; go_simp
   refine ch37 ?_
   refine tkH (i:=15) (v:=.int .i64 (y:Int)) rfl (by kernel_rfl) (by rfl) ?_ H ?_
   ·intro w' hSw; have q0:=(hSw.cell (strBlock D1.out)).trans D1.out; clear hSw; go_simp
   refine ch37 ?_
   obtain ⟨a4,c4,v4,hr4,ho4,hb4,_⟩:=O0.out.add1 HLN.out (by omega) H.size x
   have O4:Hid (OL v4 v.heap.size (.slice a4 (2 + 3 * k + 1) c4) (numL 2 m ++ flatP P k ++ [x])):=ho4
   have H1:Below v.heap.size v (x0.alloc (.cells #[.int .u8 ((x:Nat):Int)] 5)):=H.trans (((Below.refl _ _).alloc (Nat.le_refl _) _).mono H.size)
   have H2:Below v.heap.size v v4:=H.trans hb4
   clear ho4 hb4
   refine wpAnyH_ready (rs:=[8]) (by kernel_rfl) (by simp) ?_
   refine AllReadyH.cons rfl (fun KK hK => ?_) AllReadyH.nil
   go_simp
   refine hK.out _ _ H1 (fun _ => ?_)
   clear hK KK
   refine ch37 ?_
   refine wpAnyH_ready (rs:=[9]) (by kernel_rfl) (by simp) ?_
   refine AllReadyH.cons rfl (fun KK hK => ?_) AllReadyH.nil
   rw [if_pos (by rfl)]
   refine Lib.wp_append_run _ (.tmp 15) (.tmp 23) 68 68 rfl (.slice a3 (2 + 3 * k) c3) (.slice (some ⟨x0.heap.size,0,none⟩) 1 1) rfl rfl _ _ (hr4 _) ?_
   refine hK.out _ _ H2 (fun _ => ?_)
   clear hK KK
   refine ch37 ?_
   refine wpAnyH_ready (rs:=[16]) (by kernel_rfl) (by simp) ?_
   refine AllReadyH.cons rfl (fun KK hK => ?_) AllReadyH.nil
   go_simp
   refine (T2.out _).mono ?_
   rintro e v5 ⟨⟨rfl,hrl⟩,hb⟩
   have H3:Below v.heap.size v v5:=H2.trans (hb.mono H2.size)
   obtain ⟨w6,v6,hr6,ho6,hb6,_⟩:=OL.app v5 v.heap.size (.slice a4 (2 + 3 * k + 1) c4) (numL 2 m ++ flatP P k ++ [x]) (numL 2 y) v4.heap.size 0 2 2 (numL_length 2 y).symm H3.size (by rw [numL_length,List.length_append,← HLN.out]; simp; omega) (O4.out.below hb) (fun j hj => by rw [Nat.zero_add]; exact hrl.cell j hj)
   obtain ⟨a6,c6,rfl⟩:=ho6.form
   have el:(numL 2 m ++ flatP P k ++ [x] ++ numL 2 y).length = 2 + 3 * (k + 1):=by rw [List.length_append,List.length_append,← HLN.out,numL_length]; rfl
   rw [el] at hr6 ho6
   have O6:Hid (OL v6 v.heap.size (.slice a6 (2 + 3 * (k + 1)) c6) (numL 2 m ++ flatP P (k + 1))):=by
    show OL _ _ _ _
    rw [EF.out]
    simpa only [List.append_assoc] using ho6
   have H4:Below v.heap.size v v6:=H3.trans hb6
   clear hrl hb ho6 hb6 el
   generalize v4.heap.size = g4 at *
   refine hK.out _ _ H3 (fun _ => ?_)
   clear hK KK
   refine ch37 ?_
   refine wpAnyH_ready (rs:=[17]) (by kernel_rfl) (by simp) ?_
   refine AllReadyH.cons rfl (fun KK hK => ?_) AllReadyH.nil
   rw [if_pos (by rfl)]
   refine Lib.wp_append_run _ (.tmp 24) (.tmp 31) 68 68 rfl (.slice a4 (2 + 3 * k + 1) c4) (.slice (some ⟨g4,0,none⟩) 2 2) rfl rfl _ _ (hr6 _) ?_
   refine hK.out _ _ H4 (fun _ => ?_)
   clear hK KK
   refine ch37 ?_
   refine wpAnyH_take (i:=18) (v:=.slice a6 (2 + 3 * (k + 1)) c6) rfl (by kernel_rfl) (by kernel_rfl) (by kernel_rfl) (fun _ _ _ h => h) (Or.inl ⟨by rfl,?_⟩) H4 ?_
   ·intro w' hSw; clear hSw; go_simp
   refine ch37 ?_
   refine wpAnyH_done (by kernel_rfl) ?_ _
   refine NoPanic.normal ?_
   have B6:Hid (Below v.heap.size v v6):=H4
   clear H H1 H2 H3 H4 O0 O4 hr4 hr6 HR HB D0 D1
   go_wp2
   go_roundw
   case rel => exact ⟨k + 1,c6,a6,by have:=HK.out; omega,by go_num,rfl,O6.out,B6.out⟩
   case measure => have:=HK.out; simp [intOf]; omega
  ·obtain rfl:k = n:=by omega
   have x2:=(X.out.below hb).c2
   obtain ⟨v3,w3,hr3,ho3,hb3,_⟩:=OL.appS wr v.heap.size (.slice a3 (2 + 3 * k) c3) (numL 2 m ++ flatP P k) r hb.size (by rw [List.length_append,numL_length,flatP_length]; omega) ho
   obtain ⟨a4,c4,rfl⟩:=ho3.form
   rw [← SM.out] at hr3 ho3
   have O3:Hid (OL w3 w.heap.size (.slice a4 (supL (m:Int) k P r).length c4) (supL (m:Int) k P r)):=ho3.mono A0.out.size
   have B3:Hid (Below w.heap.size w w3):=A0.out.trans ((hb.trans hb3).mono A0.out.size)
   clear ho hb ho3 hb3 HB hlt hk SM
   go_wp2_with (at_builtin; refine Lib.wpList_append_run _ rfl (.tmp 33) (.tmp 35) 68 9 rfl (.slice a3 (2 + 3 * k) c3) (.string r) rfl rfl _ _ (hr3 _) ?_)
   go_ret
   exact ⟨⟨a4,c4,rfl,O3.out⟩,B3.out⟩
end Go.Proofs.YtcpjeopnhgoonaaGreatDoor
