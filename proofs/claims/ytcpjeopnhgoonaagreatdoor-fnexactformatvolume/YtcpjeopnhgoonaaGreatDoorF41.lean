/-
  Texts of the proof, joined.
-/
import Derived.Test.YtcpjeopnhgoonaaGreatDoorF18
import Derived.Test.YtcpjeopnhgoonaaGreatDoorF25
namespace Go.Proofs.YtcpjeopnhgoonaaGreatDoor
open Go.ChangeShapes Go.WideShapes Go.ChangeAt Go.RowKit
set_option linter.unusedVariables false
theorem hashS_text (T:ByteArray) (n:Nat) (hn:T.size = n):hashS n (strB T) = hashT T:=by rw [← hn]; rfl
theorem conv_rowT (w:World) (C:Array Value) (n c:Nat):(convert 68 68 (.slice (some ⟨w.heap.size,0,none⟩) n c)).run Tryz.prog (w.alloc (.cells C 5)) = .ok (.slice (some ⟨w.heap.size,0,none⟩) n c) (w.alloc (.cells C 5 (C.size,C.size + 1))):=by
 have hsh:(w.alloc (.cells C 5)).shape? w.heap.size = some (5,C.size):=by
  have:(w.alloc (.cells C 5)).heap[w.heap.size]? = some (.cells C 5):=by
   show (w.heap.push (.cells C 5))[w.heap.size]? = _
   simp
  unfold World.shape?
  rw [this]
 have hfr:(w.alloc (.cells C 5)).freeze ⟨w.heap.size,C.size,none⟩ 1 = w.alloc (.cells C 5 (C.size,C.size + 1)):=by
  have hm:∀ (a:Array Obj) (x:Obj) (f:Obj→Obj),(a.push x).modify a.size f = a.push (f x):=by
   intro a x f
   apply Array.ext
   ·simp
   ·intro i h1 h2
    simp only [Array.getElem_modify,Array.getElem_push]
    by_cases h:a.size = i
    ·subst h
     simp
    ·have hi:i < a.size:=by simp at h1; omega
     simp [h,hi]
  unfold World.freeze
  rw [if_neg (by decide)]
  show ({ w.alloc (.cells C 5) with heap:=(w.heap.push (.cells C 5)).modify w.heap.size _ }:World) = _
  rw [hm]
  rfl
 simp [convert,run_underlying Tryz.underlying68,run_underlying Tryz.underlying5,markStringish,hsh]
 exact hfr
set_option maxRecDepth 100000 in
set_option maxHeartbeats 2000000 in
theorem l10Node_any (a b:ByteArray) (ha:a.size≤100) (hb:b.size≤100) (w:World) :
  Calls Tryz.prog 88 #[.string a,.string b] w fun e w' => e = .returned (.string (nodeT a b))∧Below w.heap.size w w':=by
 obtain ⟨w1,gc,cv,hr,hbw⟩:=bytesOfR (⟨#[1]⟩ ++ a ++ b) w
 have hs:(⟨#[1]⟩ ++ a ++ b:ByteArray).size = 1 + a.size + b.size:=nodeX_size a b
 have HH:Hid (∀ (g c:Nat) (w:World),Code8 w (some ⟨g,0,none⟩) (1 + a.size + b.size) (strB (nodeX a b))→Calls Tryz.prog 86 #[.slice (some ⟨g,0,none⟩) (1 + a.size + b.size) c] w fun e w' => e = .returned (.string (nodeT a b))∧Below w.heap.size w w'):=fun g c w h => by
  have:=l03Hash_any g 0 (1 + a.size + b.size) c (strB (nodeX a b)) (strB_lt _) (by omega) w h
  rwa [hashS_text _ _ (nodeX_size a b)] at this
 rw [hs] at cv hr
 have K1:Hid (Code8 w1 (some ⟨w.heap.size,0,none⟩) (1 + a.size + b.size) (strB (nodeX a b))):=hr.code
 have B1:Hid (Below w.heap.size w w1):=hbw
 generalize nodeT a b = RT at *
 generalize strB (nodeX a b) = NX at *
 obtain ⟨N,hN⟩:∃ N,N = 1 + a.size + b.size:=⟨_,rfl⟩
 rw [← hN] at cv hr K1 HH
 clear hN
 have s1:(⟨#[1]⟩ ++ a:ByteArray).size≤101:=by rw [ByteArray.size_append]; show 1 + _≤_; omega
 obtain ⟨Z1,hZ1⟩:∃ Z:ByteArray,(⟨#[1]⟩:ByteArray) = Z:=⟨_,rfl⟩
 rw [hZ1] at cv s1
 have z1:Z1.size = 1:=by rw [← hZ1]; rfl
 have q1:1 + a.size≤9223372036854775807:=by omega
 have q2:1 + a.size + b.size≤9223372036854775807:=by omega
 clear hr hbw hs
 go_enter Tryz.func88,Tryz.ntmps88
 go_wp2_with fail
 clear cv
 refine (HH.out _ _ _ K1.out).mono ?_
 rintro e w2 ⟨rfl,hb2⟩
 have B2:Hid (Below w.heap.size w w2):=B1.out.trans (hb2.mono B1.out.size)
 clear hb2 HH B1 K1
 go_wp2
 go_ret
 exact ⟨rfl,B2.out⟩
set_option maxRecDepth 100000 in
set_option maxHeartbeats 4000000 in
theorem l10Hash_any (x:Lf) (hx:x.Ok) (w:World) :
  Calls Tryz.prog 87 #[.agg #[.int .i64 x.v,.string x.h]] w fun e w' => e = .returned (.string (leafT x))∧Below w.heap.size w w':=by
 obtain ⟨k,hk⟩:∃ k:Nat,x.v = (k:Int):=⟨x.v.toNat,by have:=hx.1.1; omega⟩
 have hk2:k < 4294967296:=by have:=hx.1.2; omega
 have hs:x.h.size≤100:=by have:=hx.2; omega
 have TX:Hid (⟨#[0]⟩ ++ kstr (fourF k) 0 4 ++ x.h = leafX x):=by show _ = leafX x; unfold leafX fourT; rw [show x.v.toNat = k from by omega]
 have TZ:Hid ((leafX x).size = 5 + x.h.size):=leafX_size x
 have HH:Hid (∀ (g c:Nat) (w:World),Code8 w (some ⟨g,0,none⟩) (5 + x.h.size) (strB (leafX x))→Calls Tryz.prog 86 #[.slice (some ⟨g,0,none⟩) (5 + x.h.size) c] w fun e w' => e = .returned (.string (leafT x))∧Below w.heap.size w w'):=fun g c w h => by
  have:=l03Hash_any g 0 (5 + x.h.size) c (strB (leafX x)) (strB_lt _) (by omega) w h
  rwa [hashS_text _ _ (leafX_size x)] at this
 have FO:Hid (∀ w:World,Calls Tryz.prog 56 #[.int .i64 (k:Int)] w fun e w' => (e = .returned (.slice (some ⟨w.heap.size,0,none⟩) 4 4)∧Own8 w' w.heap.size 4 (fourF k))∧Below w.heap.size w w'):=fun w => (l02FourB_any k (by omega) w).mono fun e w' h => ⟨⟨h.1,h.2.1⟩,h.2.2⟩
 obtain ⟨v,s⟩:=x
 dsimp only at hk hs TX TZ HH ⊢
 subst hk
 generalize leafT ⟨(k:Int),s⟩ = RT at *
 generalize leafX ⟨(k:Int),s⟩ = TT at *
 obtain ⟨N,hN⟩:∃ N,N = 5 + s.size:=⟨_,rfl⟩
 rw [← hN] at TZ HH
 have z4:(kstr (fourF k) 0 4).size = 4:=kstr_size _ _ _
 generalize hS4:kstr (fourF k) 0 4 = S4 at *
 have H4:Hid (kstr (fourF k) 0 4 = S4):=hS4
 obtain ⟨Z0,hZ0⟩:∃ Z:ByteArray,(⟨#[0]⟩:ByteArray) = Z:=⟨_,rfl⟩
 rw [hZ0] at TX
 have z0:Z0.size = 1:=by rw [← hZ0]; rfl
 clear hx hS4 hk2 hN
 have A0:Hid (Below w.heap.size w (w.alloc (.cells #[.int .i64 (k:Int),.string s] 106))):=(Below.refl _ _).alloc (Nat.le_refl _) _
 have BX:Hid (Box2 (w.alloc (.cells #[.int .i64 (k:Int),.string s] 106)) w.heap.size 106 (.int .i64 (k:Int)) (.string s)):=Box2.made _ _ _ _
 go_enter Tryz.func87,Tryz.ntmps87
 go_upto_region 1 with fail
 generalize (w.alloc (.cells #[.int .i64 (k:Int),.string s] 106)) = v0 at *
 obtain ⟨pb,hpb⟩:∃ x,x = w.heap.size:=⟨_,rfl⟩
 rw [← hpb] at BX ⊢
 clear hpb
 have H:Below v0.heap.size v0 v0.drew:=(Below.refl _ _).drew
 refine wp_region_noPanic ?_
 refine wp_region_held_drew (S:=fun w' => (Below v0.heap.size v0 w')) (by kernel_rfl) H (fun _ => ?_)
 generalize v0.drew = y0 at *
 refine tkH (i:=0) (v:=.pointer (some ⟨pb,0,none⟩)) rfl (by kernel_rfl) (by rfl) ?_ H ?_
 ·intro w' hSw; go_simp
 refine ch13 ?_
 refine tkH (i:=1) (v:=.int .i64 (k:Int)) rfl (by kernel_rfl) (by rfl) ?_ H ?_
 ·intro w' hSw; have t0:=(BX.out.below hSw).c0; have t1:=(BX.out.below hSw).c1; clear hSw; go_simp
 refine ch13 ?_
 refine tkH (i:=5) (v:=.pointer (some ⟨pb,1,none⟩)) rfl (by kernel_rfl) (by rfl) ?_ H ?_
 ·intro w' hSw; go_simp
 refine ch13 ?_
 refine tkH (i:=6) (v:=.string s) rfl (by kernel_rfl) (by rfl) ?_ H ?_
 ·intro w' hSw; have t0:=(BX.out.below hSw).c0; have t1:=(BX.out.below hSw).c1; clear hSw; go_simp
 refine ch13 ?_
 refine wpAnyH_ready (rs:=[2]) (by kernel_rfl) (by simp) ?_
 refine AllReadyH.cons rfl (fun KK hK => ?_) AllReadyH.nil
 go_simp
 refine (FO.out _).mono ?_
 rintro e y1 ⟨⟨rfl,ho⟩,hb⟩
 replace H:(Below v0.heap.size v0 y1):=(H).trans (hb.mono (H).size)
 have CF:Hid (Code8 y1 (some ⟨y0.heap.size,0,none⟩) 4 (fourF k)):=ho.code
 obtain ⟨fb,hfb⟩:∃ x,x = y0.heap.size:=⟨_,rfl⟩
 rw [← hfb] at CF ⊢
 clear hb ho hfb
 refine hK.out _ _ H (fun _ => ?_)
 clear hK KK
 refine ch13 ?_
 refine wpAnyH_strong (S':=fun w' => (Code8 w' (some ⟨fb,0,none⟩) 4 (fourF k))∧(Below v0.heap.size v0 w')) (fun _ h => h.2) _ _ _ _ ?_
 replace H:(Code8 y1 (some ⟨fb,0,none⟩) 4 (fourF k))∧(Below v0.heap.size v0 y1):=⟨CF.out,H⟩
 clear CF
 refine tkH (i:=3) (v:=.string S4) rfl (by kernel_rfl) (by rfl) ?_ H ?_
 ·intro w' hSw; have q0:=kstr_of_code (c:=4) hSw.1; rw [H4.out] at q0; clear hSw; go_simp
 refine ch13 ?_
 refine tkH (i:=4) (v:=.string (Z0 ++ S4)) rfl (by kernel_rfl) (by rfl) ?_ H ?_
 ·intro w' hSw; go_simp
 refine ch13 ?_
 refine tkH (i:=7) (v:=.string TT) rfl (by kernel_rfl) (by rfl) ?_ H ?_
 ·intro w' hSw; have q1:=TX.out; have q2:5 + s.size≤9223372036854775807:=by omega
  clear hSw; go_simp
 refine ch13 ?_
 refine wpAnyH_ready (rs:=[8]) (by kernel_rfl) (by simp) ?_
 refine AllReadyH.cons rfl (fun KK hK => ?_) AllReadyH.nil
 obtain ⟨y2,tc,hcv,hx,hb⟩:=bytesOfR TT y1
 rw [TZ.out] at hcv hx
 go_simp
 replace H:(Code8 y2 (some ⟨fb,0,none⟩) 4 (fourF k))∧(Below v0.heap.size v0 y2):=⟨(H.1).below hb,(H.2).trans (hb.mono (H.2).size)⟩
 have CT:Hid (Code8 y2 (some ⟨y1.heap.size,0,none⟩) N (strB TT)):=hx.code
 obtain ⟨tb,htb⟩:∃ x,x = y1.heap.size:=⟨_,rfl⟩
 rw [← htb] at CT ⊢
 clear hcv hx hb htb
 refine hK.out _ _ H (fun _ => ?_)
 clear hK KK
 refine ch13 ?_
 refine wpAnyH_ready (rs:=[9]) (by kernel_rfl) (by simp) ?_
 refine AllReadyH.cons rfl (fun KK hK => ?_) AllReadyH.nil
 go_simp
 refine (HH.out tb _ _ CT.out).mono ?_
 rintro e y3 ⟨rfl,hb⟩
 replace H:(Code8 y3 (some ⟨fb,0,none⟩) 4 (fourF k))∧(Below v0.heap.size v0 y3):=⟨(H.1).below hb,(H.2).trans (hb.mono (H.2).size)⟩
 clear hb 
 refine hK.out _ _ H (fun _ => ?_)
 clear hK KK
 refine ch13 ?_
 refine tkH (i:=10) (v:=.string RT) rfl (by kernel_rfl) (by rfl) ?_ H ?_
 ·intro w' hSw; go_simp
 refine ch13 ?_
 refine wpAnyH_done (by kernel_rfl) ?_ _
 refine NoPanic.normal ?_
 have B2:Hid (Below w.heap.size w y3):=A0.out.trans ((H.2).mono A0.out.size)
 clear H CT HH FO TX TZ H4 hZ0 A0 BX
 go_wp2
 go_ret
 exact ⟨rfl,B2.out⟩
set_option maxRecDepth 100000 in
set_option maxHeartbeats 4000000 in
theorem l10Tree_any (n:Nat):∀ (a:Option Addr) (c:Nat) (LF:Nat→Lf),n≤32→n≤c→c≤maxLen→(∀ i,i < n→(LF i).Ok)→∀ w:World,Els w 2 a n (lfF LF) →
  Calls Tryz.prog 55 #[.slice a n c] w fun e w' => e = .returned (.string (treeT LF 0 n))∧Below w.heap.size w w':=by
 induction n using Nat.strongRecOn with
 | ind n ih =>
  intro a c LF h32 hc hcm hok w h
  rcases (show n = 0∨n = 1∨2≤n by omega) with rfl | rfl | h2
  ·rw [treeT_none]
   have HH:Hid (∀ (b:Nat) (w:World),Code8 w (some ⟨b,0,none⟩) 1 (fun _ => 2)→Calls Tryz.prog 86 #[.slice (some ⟨b,0,none⟩) 1 1] w fun e w' => e = .returned (.string noneT)∧Below w.heap.size w w'):=fun b w h => by
    have h':Code8 w (some ⟨b,0,none⟩) 1 (strB ⟨#[2]⟩):=fun i hi => by
     obtain rfl:i = 0:=by omega
     exact h 0 (by omega)
    exact l03Hash_any _ 0 1 1 (strB ⟨#[2]⟩) (strB_lt _) (by omega) w h'
   have cv:=conv_rowT w #[.int .u8 2] 1 1
   have K:Hid (Code8 (w.alloc (.cells #[.int .u8 2] 5 (1,2))) (some ⟨w.heap.size,0,none⟩) 1 (fun _ => 2)):=code8_of (fun i hi => by
    obtain rfl:i = 0:=by omega
    rw [World.cell?_alloc_mark]
    rfl)
   have HB:Hid (Below w.heap.size w (w.alloc (.cells #[.int .u8 2] 5 (1,2)))):=(Below.refl _ _).alloc (Nat.le_refl _) _
   have HC:=HH.out _ _ K.out
   have HC':Hid _:=HC
   have cv':(convert 68 68 (.slice (some ⟨w.heap.size,0,none⟩) 1 1)).run Tryz.prog (w.alloc (.cells #[.int .u8 2] 5)) = .ok (.slice (some ⟨w.heap.size,0,none⟩) 1 1) (w.alloc (.cells #[.int .u8 2] 5 (1,2))):=cv
   generalize noneT = RT at *
   clear HH h hok K HC cv ih
   go_enter Tryz.func55,Tryz.ntmps55
   go_wp2_with fail
   refine Calls.mono HC'.out ?_
   rintro e w1 ⟨rfl,hb⟩
   have B1:Hid (Below w.heap.size w w1):=HB.out.trans (hb.mono HB.out.size)
   clear hb HC' HB cv'
   go_wp2
   go_ret
   exact ⟨rfl,B1.out⟩
  ·rw [treeT_one]
   have LR:Hid (Calls Tryz.prog 87 #[.agg #[.int .i64 (LF 0).v,.string (LF 0).h]] w fun e w' => e = .returned (.string (leafT (LF 0)))∧Below w.heap.size w w'):=l10Hash_any _ (hok 0 (by omega)) w
   obtain ⟨b',off',rfl,hcc⟩:=h 0 (by omega)
   have c0:=hcc 0 (by omega)
   have c1:=hcc 1 (by omega)
   simp only [lfF,lfV,Nat.zero_mul,Nat.add_zero] at c0 c1
   generalize leafT (LF 0) = RT at *
   clear h hok hcc ih
   go_enter Tryz.func55,Tryz.ntmps55
   go_wp2_with fail
   refine LR.out.mono ?_
   rintro e w1 ⟨rfl,hb⟩
   have B1:Hid (Below w.heap.size w w1):=hb
   clear hb LR c0 c1
   go_wp2
   go_ret
   exact ⟨rfl,B1.out⟩
  ·have g1:=gh_lt h2
   have g0:=gh_pos (n:=n) (by omega)
   obtain ⟨b,off,rfl,_⟩:=h.opened (by omega)
   have SP:SlP (some ⟨b,off,none⟩) n c:=⟨(fun e => by cases e),.inr ⟨b,off,rfl⟩,hc,hcm⟩
   obtain ⟨k,hk⟩:∃ k,k = gh n:=⟨_,rfl⟩
   have CT:=run_cut_to (P:=Tryz.prog) 103 leaf_under 2 leaf_sizeOf SP k (by omega)
   have CF:=run_cut_from (P:=Tryz.prog) 103 leaf_under 2 leaf_sizeOf SP k (by omega)
   have hcut:cutA (some ⟨b,off,none⟩) c k 2 = some ⟨b,off + k * 2,none⟩:=by
    unfold cutA
    rw [if_neg (by omega)]
    exact congrArg some (Go.WideShapes.add_plain ..)
   rw [hcut] at CF
   have F1:Hid (∀ w:World,Els w 2 (some ⟨b,off,none⟩) n (lfF LF)→Calls Tryz.prog 55 #[.slice (some ⟨b,off,none⟩) k c] w fun e w' => e = .returned (.string (treeT LF 0 k))∧Below w.heap.size w w'):=fun w h => ih k (by omega) (some ⟨b,off,none⟩) c LF (by omega) (by omega) hcm (fun i hi => hok i (by omega)) w (h.less (by omega))
   have F2:Hid (∀ w:World,Els w 2 (some ⟨b,off,none⟩) n (lfF LF)→Calls Tryz.prog 55 #[.slice (some ⟨b,off + k * 2,none⟩) (n - k) (c - k)] w fun e w' => e = .returned (.string (treeT LF k (n - k)))∧Below w.heap.size w w'):=fun w h => by
    have:=ih (n - k) (by omega) (some ⟨b,off + k * 2,none⟩) (c - k) (fun i => LF (k + i)) (by omega) (by omega) (by omega) (fun i hi => hok _ (by omega)) w (h.behind k (by omega))
    rwa [treeT_congr (F:=fun i => LF (k + i)) (G:=LF) (o:=0) (p:=k) (fun i hi => by rw [Nat.zero_add])] at this
   have NR:Hid (∀ w:World,Calls Tryz.prog 88 #[.string (treeT LF 0 k),.string (treeT LF k (n - k))] w fun e w' => e = .returned (.string (treeT LF 0 n))∧Below w.heap.size w w'):=fun w => by
    have:=l10Node_any (treeT LF 0 k) (treeT LF k (n - k)) (by rw [treeT_size]; omega) (by rw [treeT_size]; omega) w
    rw [hk] at this ⊢
    rw [treeT_two _ _ _ h2,Nat.zero_add]
    exact this
   generalize treeT LF 0 n = RT at *
   generalize treeT LF 0 k = R1 at *
   generalize treeT LF k (n - k) = R2 at *
   have HE:Hid (Els w 2 (some ⟨b,off,none⟩) n (lfF LF)):=h
   have n0:((n:Int) == 0) = false:=by simp; omega
   have n1:((n:Int) == 1) = false:=by simp; omega
   have ek:((n:Int) + 1) / 2 = (k:Int):=by rw [hk]; unfold gh; omega
   have CT':Hid _:=CT
   have CF':Hid _:=CF
   clear h hok ih hcut SP hk g1 g0 CT CF
   go_enter Tryz.func55,Tryz.ntmps55
   go_upto_region 7 with fail
   have H:Below w.heap.size w w.drew:=(Below.refl _ _).drew
   refine wp_region_noPanic ?_
   refine wp_region_held_drew (S:=fun w' => (Below w.heap.size w w')) (by kernel_rfl) H (fun _ => ?_)
   generalize w.drew = y0 at *
   refine tkH (i:=0) (v:=.slice (some ⟨b,off,none⟩) n c) rfl (by kernel_rfl) (by rfl) ?_ H ?_
   ·intro w' hSw; go_simp
   refine ch30 ?_
   refine tkH (i:=1) (v:=.int .i64 (k:Int)) rfl (by kernel_rfl) (by rfl) ?_ H ?_
   ·intro w' hSw; go_simp
   refine ch30 ?_
   refine tkH (i:=2) (v:=.slice (some ⟨b,off,none⟩) k c) rfl (by kernel_rfl) (by rfl) ?_ H ?_
   ·intro w' hSw; have CC:=CT'.out; go_simp
   refine ch30 ?_
   refine tkH (i:=4) (v:=.slice (some ⟨b,off,none⟩) n c) rfl (by kernel_rfl) (by rfl) ?_ H ?_
   ·intro w' hSw; go_simp
   refine ch30 ?_
   refine tkH (i:=5) (v:=.int .i64 (k:Int)) rfl (by kernel_rfl) (by rfl) ?_ H ?_
   ·intro w' hSw; go_simp
   refine ch30 ?_
   refine tkH (i:=6) (v:=.slice (some ⟨b,off + k * 2,none⟩) (n - k) (c - k)) rfl (by kernel_rfl) (by rfl) ?_ H ?_
   ·intro w' hSw; have CC:=CF'.out; go_simp
   refine ch30 ?_
   refine wpAnyH_ready (rs:=[3]) (by kernel_rfl) (by simp) ?_
   refine AllReadyH.cons rfl (fun KK hK => ?_) AllReadyH.nil
   go_simp
   refine (F1.out _ (HE.out.below H)).mono ?_
   rintro e y1 ⟨rfl,hb⟩
   replace H:(Below w.heap.size w y1):=(H).trans (hb.mono (H).size)
   clear hb 
   refine hK.out _ _ H (fun _ => ?_)
   clear hK KK
   refine ch30 ?_
   refine wpAnyH_ready (rs:=[7]) (by kernel_rfl) (by simp) ?_
   refine AllReadyH.cons rfl (fun KK hK => ?_) AllReadyH.nil
   go_simp
   refine (F2.out _ (HE.out.below H)).mono ?_
   rintro e y2 ⟨rfl,hb⟩
   replace H:(Below w.heap.size w y2):=(H).trans (hb.mono (H).size)
   clear hb 
   refine hK.out _ _ H (fun _ => ?_)
   clear hK KK
   refine ch30 ?_
   refine wpAnyH_ready (rs:=[8]) (by kernel_rfl) (by simp) ?_
   refine AllReadyH.cons rfl (fun KK hK => ?_) AllReadyH.nil
   go_simp
   refine (NR.out _).mono ?_
   rintro e y3 ⟨rfl,hb⟩
   replace H:(Below w.heap.size w y3):=(H).trans (hb.mono (H).size)
   clear hb 
   refine hK.out _ _ H (fun _ => ?_)
   clear hK KK
   refine ch30 ?_
   refine tkH (i:=9) (v:=.string RT) rfl (by kernel_rfl) (by rfl) ?_ H ?_
   ·intro w' hSw; go_simp
   refine ch30 ?_
   refine wpAnyH_done (by kernel_rfl) ?_ _
   refine NoPanic.normal ?_
   have B1:Hid (Below w.heap.size w y3):=H
   clear H HE F1 F2 NR CT' CF' n0 n1 ek
   go_wp2
   go_ret
   exact ⟨rfl,B1.out⟩
def BsA (p v:Int) (s r:ByteArray) (cd:Int):Prop :=
 (65536 < s.size∧r = ⟨#[]⟩∧cd = 2)∨(s.size≤65536∧¬ ((0≤p∧p≤31)∧(0≤v∧v≤4294967295))∧r = ⟨#[]⟩∧cd = 4)∨(s.size≤65536∧((0≤p∧p≤31)∧(0≤v∧v≤4294967295))∧200 < s.size∧r = ⟨#[]⟩∧cd = 1)∨(s.size≤200∧((0≤p∧p≤31)∧(0≤v∧v≤4294967295))∧r = bsumT p.toNat v.toNat s∧cd = 0)
theorem within_any (x n:Int) (r:Bool) (hr:r = decide (0≤x∧x < n)) (w:World) :
  Calls Tryz.prog 142 #[.int .i64 x,.int .i64 n] w fun e w' => e = .returned (.bool r)∧w = w':=by
 by_cases h1:0≤x
 ·by_cases h2:x < n
  ·obtain rfl:r = true:=by rw [hr]; simp; omega
   clear hr
   go_enter Tryz.func142,Tryz.ntmps142
   go_wp2
   go_ret
   exact ⟨rfl,rfl⟩
  ·obtain rfl:r = false:=by rw [hr]; simp; omega
   clear hr
   go_enter Tryz.func142,Tryz.ntmps142
   go_wp2
   go_ret
   exact ⟨rfl,rfl⟩
 ·obtain rfl:r = false:=by rw [hr]; simp; omega
  clear hr
  go_enter Tryz.func142,Tryz.ntmps142
  go_wp2
  go_ret
  exact ⟨rfl,rfl⟩
theorem block_rowM (w:World):RowM (w.alloc (.cells #[.int .u8 98,.int .u8 108,.int .u8 111,.int .u8 99,.int .u8 107] 5 (5,6))) w.heap.size 5 5 (strB blockL):=by
 refine ⟨Nat.le_refl _,fun i hi => ?_,fun i hi => ⟨?_,?_⟩,by simp⟩
 ·rw [World.cell?_alloc_mark]
  rcases (show i = 0∨i = 1∨i = 2∨i = 3∨i = 4 by omega) with rfl | rfl | rfl | rfl | rfl <;> rfl
 ·rw [World.cell?_alloc_mark]
  rcases (show i = 0∨i = 1∨i = 2∨i = 3∨i = 4 by omega) with rfl | rfl | rfl | rfl | rfl <;> rfl
 ·rw [World.frozen?_alloc_mark]
  simp
  intro h
  omega
set_option maxRecDepth 100000 in
set_option maxHeartbeats 2000000 in
theorem implBs_ok (p v:Nat) (s:ByteArray) (hp:p≤31) (hv:v≤4294967295) (hs:s.size≤200) (w:World) (ht:Tabs w) :
  Calls Tryz.prog 102 #[.int .i64 (p:Int),.int .i64 (v:Int),.string s] w fun e w' => e = .returned (.tuple #[.string (bsumT p v s),.int .i64 0])∧Below w.heap.size w w':=by
 have e1:¬ (65536:Int) < (s.size:Int):=by omega
 have e2:¬ (200:Int) < (s.size:Int):=by omega
 have I1:Hid (∀ w:World,Calls Tryz.prog 142 #[.int .i64 (p:Int),.int .i64 32] w fun e w' => e = .returned (.bool true)∧w = w'):=fun w => within_any p 32 true (by simp; omega) w
 have I2:Hid (∀ w:World,Calls Tryz.prog 150 #[.int .i64 (v:Int)] w fun e w' => e = .returned (.bool true)∧w = w'):=fun w => isWord_t v true (by simp; omega) w
 have A1:Hid (∀ (B g c:Nat) (w:World),B≤g→B≤w.heap.size→RowM w g 5 c (strB blockL)→Calls Tryz.prog 62 #[.slice (some ⟨g,0,none⟩) 5 c,.int .i64 (p:Int),.int .i64 4] w fun e w' => RetM B w' e 9 (numF 5 4 p (strB blockL))∧Below B w w'):=fun B g c w hg hB h => appendNumberM_any B g 5 c p 4 _ (by omega) (by omega) w hg hB h
 have A2:Hid (∀ (B g c:Nat) (w:World),B≤g→B≤w.heap.size→RowM w g 9 c (numF 5 4 p (strB blockL))→Calls Tryz.prog 62 #[.slice (some ⟨g,0,none⟩) 9 c,.int .i64 (v:Int),.int .i64 4] w fun e w' => RetM B w' e 13 (numF 9 4 v (numF 5 4 p (strB blockL)))∧Below B w w'):=fun B g c w hg hB h => appendNumberM_any B g 9 c v 4 _ (by omega) (by omega) w hg hB h
 have HH:Hid (∀ (g c:Nat) (w:World),Code8 w (some ⟨g,0,none⟩) (13 + s.size) (strB (bsumX p v s))→Tabs w→Calls Tryz.prog 103 #[.slice (some ⟨g,0,none⟩) (13 + s.size) c] w fun e w' => e = .returned (.string (bsumT p v s))∧Below w.heap.size w w'):=fun g c w h ht => by
  have:=hashed_any g 0 (13 + s.size) c (strB (bsumX p v s)) (strB_lt _) (by omega) w h ht
  rwa [hashS_text _ _ (bsumX_size p v s)] at this
 have HC:Hid (∀ i,i < 13 + s.size→Sha.cat 13 (numF 9 4 v (numF 5 4 p (strB blockL))) (strB s) i = strB (bsumX p v s) i):=fun i hi => bsumX_is p v s _ (fun _ _ => rfl) i hi
 have T0:Hid (Tabs w):=ht
 have R1:Hid (RowM (w.alloc (.cells #[.int .u8 98,.int .u8 108,.int .u8 111,.int .u8 99,.int .u8 107] 5 (5,6))) w.heap.size 5 5 (strB blockL)):=block_rowM w
 have B1:Hid (Below w.heap.size w (w.alloc (.cells #[.int .u8 98,.int .u8 108,.int .u8 111,.int .u8 99,.int .u8 107] 5 (5,6)))):=(Below.refl _ _).alloc (Nat.le_refl _) _
 have cv:(convert 68 68 (.slice (some ⟨w.heap.size,0,none⟩) 5 5)).run Tryz.prog (w.alloc (.cells #[.int .u8 98,.int .u8 108,.int .u8 111,.int .u8 99,.int .u8 107] 5)) = .ok (.slice (some ⟨w.heap.size,0,none⟩) 5 5) (w.alloc (.cells #[.int .u8 98,.int .u8 108,.int .u8 111,.int .u8 99,.int .u8 107] 5 (5,6))):=conv_rowT w #[.int .u8 98,.int .u8 108,.int .u8 111,.int .u8 99,.int .u8 107] 5 5
 generalize bsumT p v s = RT at *
 generalize strB (bsumX p v s) = TX at *
 generalize numF 9 4 v (numF 5 4 p (strB blockL)) = N2 at *
 generalize numF 5 4 p (strB blockL) = N1 at *
 generalize strB blockL = N0 at *
 clear ht hp hv
 go_enter Tryz.func102,Tryz.ntmps102
 go_wp2_with fail
 refine (I1.out _).mono ?_
 rintro e w1 ⟨rfl,rfl⟩
 go_wp2_with fail
 refine (I2.out _).mono ?_
 rintro e w1 ⟨rfl,rfl⟩
 clear I1 I2
 go_wp2_with fail
 generalize (w.alloc (.cells #[.int .u8 98,.int .u8 108,.int .u8 111,.int .u8 99,.int .u8 107] 5 (5,6))) = v1 at *
 refine (A1.out w.heap.size _ _ _ (Nat.le_refl _) B1.out.size R1.out).mono ?_
 rintro e v2 ⟨⟨g2,c2,rfl,hg2,hr2⟩,hb⟩
 have B2:Hid (Below w.heap.size w v2):=B1.out.trans hb
 have R2:Hid (RowM v2 g2 9 c2 N1):=hr2
 have HG2:Hid (w.heap.size≤g2):=hg2
 clear hb hr2 hg2 R1 B1 A1 cv
 go_wp2_with fail
 refine (A2.out w.heap.size _ _ _ HG2.out B2.out.size R2.out).mono ?_
 rintro e v3 ⟨⟨g3,c3,rfl,hg3,hr3⟩,hb⟩
 have B3:Hid (Below w.heap.size w v3):=B2.out.trans hb
 obtain ⟨g4,c4,v4,hap,hr4,hb4,hg4⟩:=appendMT v3 w.heap.size g3 13 c3 N2 s hg3 B3.out.size (by omega) hr3 68
 have K4:Hid (Code8 v4 (some ⟨g4,0,none⟩) (13 + s.size) TX):=(hr4.congr HC.out).code
 have B4:Hid (Below w.heap.size w v4):=B3.out.trans hb4
 have HAP:Hid _:=hap
 clear hb hr3 hg3 R2 B2 A2 HG2 hr4 hb4 hg4 B3 hap
 go_wp2_with (at_builtin; refine Lib.wpList_append_run _ rfl (.tmp 30) (.tmp 31) _ _ rfl _ _ rfl rfl _ _ HAP.out ?_)
 clear HAP
 refine (HH.out _ _ _ K4.out (T0.out.below B4.out)).mono ?_
 rintro e v5 ⟨rfl,hb⟩
 have B5:Hid (Below w.heap.size w v5):=B4.out.trans (hb.mono B4.out.size)
 clear hb K4 B4 HH T0 HC
 go_wp2
 go_ret2
 exact ⟨rfl,B5.out⟩
set_option maxRecDepth 100000 in
set_option maxHeartbeats 2000000 in
theorem implBs_any (p v:Int) (s r:ByteArray) (cd:Int) (h:BsA p v s r cd) (w:World) (ht:Tabs w) :
  Calls Tryz.prog 102 #[.int .i64 p,.int .i64 v,.string s] w fun e w' => e = .returned (.tuple #[.string r,.int .i64 cd])∧Below w.heap.size w w':=by
 rcases h with ⟨h1,rfl,rfl⟩ | ⟨h1,h2,rfl,rfl⟩ | ⟨h1,⟨⟨p0,p1⟩,v0,v1⟩,h3,rfl,rfl⟩ | ⟨h1,⟨⟨p0,p1⟩,v0,v1⟩,rfl,rfl⟩
 ·have e1:(65536:Int) < (s.size:Int):=by omega
  clear h1 ht
  go_enter Tryz.func102,Tryz.ntmps102
  go_wp2
  go_ret2
  exact ⟨rfl,Below.refl _ _⟩
 ·have e1:¬ (65536:Int) < (s.size:Int):=by omega
  by_cases g1:0≤p∧p≤31
  ·have I1:Hid (∀ w:World,Calls Tryz.prog 142 #[.int .i64 p,.int .i64 32] w fun e w' => e = .returned (.bool true)∧w = w'):=fun w => within_any p 32 true (by simp; omega) w
   have I2:Hid (∀ w:World,Calls Tryz.prog 150 #[.int .i64 v] w fun e w' => e = .returned (.bool false)∧w = w'):=fun w => isWord_t v false (by simp; omega) w
   clear g1 h2 h1 ht
   go_enter Tryz.func102,Tryz.ntmps102
   go_wp2_with fail
   refine (I1.out _).mono ?_
   rintro e w1 ⟨rfl,rfl⟩
   go_wp2_with fail
   refine (I2.out _).mono ?_
   rintro e w1 ⟨rfl,rfl⟩
   go_wp2
   go_ret2
   exact ⟨rfl,Below.refl _ _⟩
  ·have I1:Hid (∀ w:World,Calls Tryz.prog 142 #[.int .i64 p,.int .i64 32] w fun e w' => e = .returned (.bool false)∧w = w'):=fun w => within_any p 32 false (by simp; omega) w
   clear g1 h2 h1 ht
   go_enter Tryz.func102,Tryz.ntmps102
   go_wp2_with fail
   refine (I1.out _).mono ?_
   rintro e w1 ⟨rfl,rfl⟩
   go_wp2
   go_ret2
   exact ⟨rfl,Below.refl _ _⟩
 ·have e1:¬ (65536:Int) < (s.size:Int):=by omega
  have e2:(200:Int) < (s.size:Int):=by omega
  have I1:Hid (∀ w:World,Calls Tryz.prog 142 #[.int .i64 p,.int .i64 32] w fun e w' => e = .returned (.bool true)∧w = w'):=fun w => within_any p 32 true (by simp; omega) w
  have I2:Hid (∀ w:World,Calls Tryz.prog 150 #[.int .i64 v] w fun e w' => e = .returned (.bool true)∧w = w'):=fun w => isWord_t v true (by simp; omega) w
  clear h1 h3 ht p0 p1 v0 v1
  go_enter Tryz.func102,Tryz.ntmps102
  go_wp2_with fail
  refine (I1.out _).mono ?_
  rintro e w1 ⟨rfl,rfl⟩
  go_wp2_with fail
  refine (I2.out _).mono ?_
  rintro e w1 ⟨rfl,rfl⟩
  go_wp2
  go_ret2
  exact ⟨rfl,Below.refl _ _⟩
 ·obtain ⟨p,rfl⟩:∃ n:Nat,p = (n:Int):=⟨p.toNat,by omega⟩
  obtain ⟨v,rfl⟩:∃ n:Nat,v = (n:Int):=⟨v.toNat,by omega⟩
  rw [Int.toNat_natCast,Int.toNat_natCast]
  exact implBs_ok p v s (by omega) (by omega) h1 w ht
set_option maxRecDepth 100000 in
set_option maxHeartbeats 4000000 in
theorem l10Sum_any (p v:Nat) (s:ByteArray) (hp:p < 4294967296) (hv:v < 4294967296) (hs:s.size≤200) (w:World) :
  Calls Tryz.prog 54 #[.int .i64 (p:Int),.int .i64 (v:Int),.string s] w fun e w' => e = .returned (.string (bsumT p v s))∧Below w.heap.size w w':=by
 have TX:Hid (⟨#[98,108,111,99,107]⟩ ++ kstr (fourF p) 0 4 ++ kstr (fourF v) 0 4 ++ s = bsumX p v s):=rfl
 have TZ:Hid ((bsumX p v s).size = 13 + s.size):=bsumX_size p v s
 have HH:Hid (∀ (g c:Nat) (w:World),Code8 w (some ⟨g,0,none⟩) (13 + s.size) (strB (bsumX p v s))→Calls Tryz.prog 86 #[.slice (some ⟨g,0,none⟩) (13 + s.size) c] w fun e w' => e = .returned (.string (bsumT p v s))∧Below w.heap.size w w'):=fun g c w h => by
  have:=l03Hash_any g 0 (13 + s.size) c (strB (bsumX p v s)) (strB_lt _) (by omega) w h
  rwa [hashS_text _ _ (bsumX_size p v s)] at this
 have FP:Hid (∀ w:World,Calls Tryz.prog 56 #[.int .i64 (p:Int)] w fun e w' => (e = .returned (.slice (some ⟨w.heap.size,0,none⟩) 4 4)∧Own8 w' w.heap.size 4 (fourF p))∧Below w.heap.size w w'):=fun w => (l02FourB_any p hp w).mono fun e w' h => ⟨⟨h.1,h.2.1⟩,h.2.2⟩
 have FV:Hid (∀ w:World,Calls Tryz.prog 56 #[.int .i64 (v:Int)] w fun e w' => (e = .returned (.slice (some ⟨w.heap.size,0,none⟩) 4 4)∧Own8 w' w.heap.size 4 (fourF v))∧Below w.heap.size w w'):=fun w => (l02FourB_any v hv w).mono fun e w' h => ⟨⟨h.1,h.2.1⟩,h.2.2⟩
 generalize bsumT p v s = RT at *
 generalize bsumX p v s = TT at *
 obtain ⟨N,hN⟩:∃ N,N = 13 + s.size:=⟨_,rfl⟩
 rw [← hN] at TZ HH
 have z4:(kstr (fourF p) 0 4).size = 4:=kstr_size _ _ _
 have z5:(kstr (fourF v) 0 4).size = 4:=kstr_size _ _ _
 generalize hS4:kstr (fourF p) 0 4 = S4 at *
 generalize hS5:kstr (fourF v) 0 4 = S5 at *
 have H4:Hid (kstr (fourF p) 0 4 = S4):=hS4
 have H5:Hid (kstr (fourF v) 0 4 = S5):=hS5
 obtain ⟨Z0,hZ0⟩:∃ Z:ByteArray,(⟨#[98,108,111,99,107]⟩:ByteArray) = Z:=⟨_,rfl⟩
 rw [hZ0] at TX
 have z0:Z0.size = 5:=by rw [← hZ0]; rfl
 clear hS4 hS5 hp hv hN
 go_enter Tryz.func54,Tryz.ntmps54
 go_upto_region 1 with fail
 have H:Below w.heap.size w w.drew:=(Below.refl _ _).drew
 refine wp_region_noPanic ?_
 refine wp_region_held_drew (S:=fun w' => (Below w.heap.size w w')) (by kernel_rfl) H (fun _ => ?_)
 generalize w.drew = y0 at *
 refine tkH (i:=0) (v:=.int .i64 (p:Int)) rfl (by kernel_rfl) (by rfl) ?_ H ?_
 ·intro w' hSw; go_simp
 refine ch19 ?_
 refine tkH (i:=4) (v:=.int .i64 (v:Int)) rfl (by kernel_rfl) (by rfl) ?_ H ?_
 ·intro w' hSw; go_simp
 refine ch19 ?_
 refine tkH (i:=8) (v:=.string s) rfl (by kernel_rfl) (by rfl) ?_ H ?_
 ·intro w' hSw; go_simp
 refine ch19 ?_
 refine wpAnyH_ready (rs:=[1]) (by kernel_rfl) (by simp) ?_
 refine AllReadyH.cons rfl (fun KK hK => ?_) AllReadyH.nil
 go_simp
 refine (FP.out _).mono ?_
 rintro e y1 ⟨⟨rfl,ho⟩,hb⟩
 replace H:(Below w.heap.size w y1):=(H).trans (hb.mono (H).size)
 have CF:Hid (Code8 y1 (some ⟨y0.heap.size,0,none⟩) 4 (fourF p)):=ho.code
 obtain ⟨fp,hfb⟩:∃ x,x = y0.heap.size:=⟨_,rfl⟩
 rw [← hfb] at CF ⊢
 clear hb ho hfb
 refine hK.out _ _ H (fun _ => ?_)
 clear hK KK
 refine ch19 ?_
 refine wpAnyH_strong (S':=fun w' => (Code8 w' (some ⟨fp,0,none⟩) 4 (fourF p))∧(Below w.heap.size w w')) (fun _ h => h.2) _ _ _ _ ?_
 replace H:(Code8 y1 (some ⟨fp,0,none⟩) 4 (fourF p))∧(Below w.heap.size w y1):=⟨CF.out,H⟩
 clear CF
 refine tkH (i:=2) (v:=.string S4) rfl (by kernel_rfl) (by rfl) ?_ H ?_
 ·intro w' hSw; have q0:=kstr_of_code (c:=4) hSw.1; rw [H4.out] at q0; clear hSw; go_simp
 refine ch19 ?_
 refine tkH (i:=3) (v:=.string (Z0 ++ S4)) rfl (by kernel_rfl) (by rfl) ?_ H ?_
 ·intro w' hSw; go_simp
 refine ch19 ?_
 refine wpAnyH_ready (rs:=[5]) (by kernel_rfl) (by simp) ?_
 refine AllReadyH.cons rfl (fun KK hK => ?_) AllReadyH.nil
 go_simp
 refine (FV.out _).mono ?_
 rintro e y2 ⟨⟨rfl,ho⟩,hb⟩
 replace H:(Code8 y2 (some ⟨fp,0,none⟩) 4 (fourF p))∧(Below w.heap.size w y2):=⟨(H.1).below hb,(H.2).trans (hb.mono (H.2).size)⟩
 have CF:Hid (Code8 y2 (some ⟨y1.heap.size,0,none⟩) 4 (fourF v)):=ho.code
 obtain ⟨fv,hfb⟩:∃ x,x = y1.heap.size:=⟨_,rfl⟩
 rw [← hfb] at CF ⊢
 clear hb ho hfb
 refine hK.out _ _ H (fun _ => ?_)
 clear hK KK
 refine ch19 ?_
 refine wpAnyH_strong (S':=fun w' => (Code8 w' (some ⟨fv,0,none⟩) 4 (fourF v))∧(Code8 w' (some ⟨fp,0,none⟩) 4 (fourF p))∧(Below w.heap.size w w')) (fun _ h => h.2) _ _ _ _ ?_
 replace H:(Code8 y2 (some ⟨fv,0,none⟩) 4 (fourF v))∧(Code8 y2 (some ⟨fp,0,none⟩) 4 (fourF p))∧(Below w.heap.size w y2):=⟨CF.out,H⟩
 clear CF
 refine tkH (i:=6) (v:=.string S5) rfl (by kernel_rfl) (by rfl) ?_ H ?_
 ·intro w' hSw; have q0:=kstr_of_code (c:=4) hSw.1; rw [H5.out] at q0; clear hSw; go_simp
 refine ch19 ?_
 refine tkH (i:=7) (v:=.string (Z0 ++ S4 ++ S5)) rfl (by kernel_rfl) (by rfl) ?_ H ?_
 ·intro w' hSw; go_simp
 refine ch19 ?_
 refine tkH (i:=9) (v:=.string TT) rfl (by kernel_rfl) (by rfl) ?_ H ?_
 ·intro w' hSw; have q1:=TX.out; have q2:13 + s.size≤9223372036854775807:=by omega
  clear hSw; go_simp
 refine ch19 ?_
 refine wpAnyH_ready (rs:=[10]) (by kernel_rfl) (by simp) ?_
 refine AllReadyH.cons rfl (fun KK hK => ?_) AllReadyH.nil
 obtain ⟨y3,tc,hcv,hx,hb⟩:=bytesOfR TT y2
 rw [TZ.out] at hcv hx
 go_simp
 replace H:(Code8 y3 (some ⟨fv,0,none⟩) 4 (fourF v))∧(Code8 y3 (some ⟨fp,0,none⟩) 4 (fourF p))∧(Below w.heap.size w y3):=⟨(H.1).below hb,(H.2.1).below hb,(H.2.2).trans (hb.mono (H.2.2).size)⟩
 have CT:Hid (Code8 y3 (some ⟨y2.heap.size,0,none⟩) N (strB TT)):=hx.code
 obtain ⟨tb,htb⟩:∃ x,x = y2.heap.size:=⟨_,rfl⟩
 rw [← htb] at CT ⊢
 clear hcv hx hb htb
 refine hK.out _ _ H (fun _ => ?_)
 clear hK KK
 refine ch19 ?_
 refine wpAnyH_ready (rs:=[11]) (by kernel_rfl) (by simp) ?_
 refine AllReadyH.cons rfl (fun KK hK => ?_) AllReadyH.nil
 go_simp
 refine (HH.out tb _ _ CT.out).mono ?_
 rintro e y4 ⟨rfl,hb⟩
 replace H:(Code8 y4 (some ⟨fv,0,none⟩) 4 (fourF v))∧(Code8 y4 (some ⟨fp,0,none⟩) 4 (fourF p))∧(Below w.heap.size w y4):=⟨(H.1).below hb,(H.2.1).below hb,(H.2.2).trans (hb.mono (H.2.2).size)⟩
 clear hb 
 refine hK.out _ _ H (fun _ => ?_)
 clear hK KK
 refine ch19 ?_
 refine tkH (i:=12) (v:=.string RT) rfl (by kernel_rfl) (by rfl) ?_ H ?_
 ·intro w' hSw; go_simp
 refine ch19 ?_
 refine wpAnyH_done (by kernel_rfl) ?_ _
 refine NoPanic.normal ?_
 have B2:Hid (Below w.heap.size w y4):=H.2.2
 clear H CT HH FP FV TX TZ H4 H5 hZ0
 go_wp2
 go_ret
 exact ⟨rfl,B2.out⟩
set_option maxRecDepth 100000 in
set_option maxHeartbeats 1000000 in
theorem pieceLeaf_any (p v:Int) (s r:ByteArray) (cd:Int) (h:BsA p v s r cd) (w:World) (ht:Tabs w) :
  Calls Tryz.prog 68 #[.int .i64 p,.int .i64 v,.string s] w fun e w' => e = .returned (.agg #[.int .i64 v,.string r])∧Below w.heap.size w w':=by
 have A0:Hid (Below w.heap.size w (w.alloc (.cells #[.int .i64 0,.string ⟨#[]⟩] 106))):=(Below.refl _ _).alloc (Nat.le_refl _) _
 have X0:Hid (Box2 (w.alloc (.cells #[.int .i64 0,.string ⟨#[]⟩] 106)) w.heap.size 106 (.int .i64 0) (.string ⟨#[]⟩)):=Box2.made _ _ _ _
 have BS:Hid (Calls Tryz.prog 102 #[.int .i64 p,.int .i64 v,.string s] (w.alloc (.cells #[.int .i64 0,.string ⟨#[]⟩] 106)) fun e w' => e = .returned (.tuple #[.string r,.int .i64 cd])∧Below (w.alloc (.cells #[.int .i64 0,.string ⟨#[]⟩] 106)).heap.size (w.alloc (.cells #[.int .i64 0,.string ⟨#[]⟩] 106)) w'):=implBs_any p v s r cd h _ (ht.below A0.out)
 clear h ht
 go_enter Tryz.func68,Tryz.ntmps68
 go_wp2_with fail
 refine BS.out.mono ?_
 generalize (w.alloc (.cells #[.int .i64 0,.string ⟨#[]⟩] 106)) = u at *
 rintro e x ⟨rfl,hb⟩
 have X1:Hid (Box2 x w.heap.size 106 (.int .i64 0) (.string ⟨#[]⟩)):=X0.out.below hb
 have A1:Hid (Below w.heap.size w x):=A0.out.trans (hb.mono A0.out.size)
 have ho:OnlyB w.heap.size x ((x.setCell ⟨w.heap.size,0,none⟩ (.int .i64 v)).setCell ⟨w.heap.size,1,none⟩ (.string r)):=((OnlyB.refl _ x).setCell 0 _).setCell 1 _
 have X5:Hid (Box2 ((x.setCell ⟨w.heap.size,0,none⟩ (.int .i64 v)).setCell ⟨w.heap.size,1,none⟩ (.string r)) w.heap.size 106 (.int .i64 v) (.string r)):=(X1.out.set0 _).set1 _
 have A5:Hid (Below w.heap.size w ((x.setCell ⟨w.heap.size,0,none⟩ (.int .i64 v)).setCell ⟨w.heap.size,1,none⟩ (.string r))):=A1.out.trans (ho.toBelow (Nat.le_refl _) A1.out.size)
 have x0:=X1.out.c0
 have x1:=X1.out.c1
 have f0:=X1.out.fr 0
 have f1:=X1.out.fr 1
 clear ho hb A0 X0 BS X1 A1
 go_wp2
 generalize ((x.setCell ⟨w.heap.size,0,none⟩ (.int .i64 v)).setCell ⟨w.heap.size,1,none⟩ (.string r)) = u5 at *
 clear x0 x1 f0 f1
 have y0:=X5.out.c0
 have y1:=X5.out.c1
 exact ret_cell (b:=w.heap.size) (v:=.agg #[.int .i64 v,.string r]) Tryz.results68 rfl (by go_simp) ⟨rfl,A5.out⟩
end Go.Proofs.YtcpjeopnhgoonaaGreatDoor
