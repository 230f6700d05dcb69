/-
  Texts of the proof, joined.
-/
import Derived.Test.YtcpjeopnhgoonaaGreatDoorF42
import Derived.Test.YtcpjeopnhgoonaaGreatDoorF43
namespace Go.Proofs.YtcpjeopnhgoonaaGreatDoor
open Go.ChangeShapes Go.WideShapes Go.ChangeAt Go.RowKit
set_option linter.unusedVariables false
def PlM (w:World) (tb cg:Nat):Prop:=X6 w tb∧cg < w.heap.size∧w.cell? ⟨cg,0,none⟩ = some (.string erP)
theorem PlM.below {w w':World} {tb cg:Nat} (h:PlM w tb cg) (hb:Below w.heap.size w w'):PlM w' tb cg:=⟨h.1.below hb,Nat.lt_of_lt_of_le h.2.1 hb.size,(World.cell?_of_block (hb.block cg h.2.1)).trans h.2.2⟩
def PlJ (v wr:World) (n fg fc sb fb:Nat) (TK:ByteArray) (fr ac se i:Value):Prop:=Below v.heap.size v wr∧fb + 2≤wr.heap.size∧((i = .int .i64 0∧fr = .slice (some ⟨fg,0,none⟩) (n - 2) fc∧ac = .slice (some ⟨fb,0,none⟩) 0 0∧se = .slice (some ⟨fb + 1,0,none⟩) 0 0∧EO wr fb 53 5 (.slice (some ⟨fb,0,none⟩) 0 0) 0 (avF (fun _ => ⟨1,2,TK,0,fun _ => false,0⟩))∧EO wr fb 9 1 (.slice (some ⟨fb + 1,0,none⟩) 0 0) 0 (pxF (fun _ => TK))∧Box3 wr sb 64 (.int .i64 1) (.slice none 0 0) (.string ⟨#[]⟩)∧CelI wr fg 2)∨(i = .int .i64 1∧∃ ab aC sg sC pg pC,ac = .slice (some ⟨ab,0,none⟩) 1 aC∧se = .slice (some ⟨sg,0,none⟩) 1 sC∧EO wr fb 53 5 (.slice (some ⟨ab,0,none⟩) 1 aC) 1 (avF (fun _ => ⟨1,2,TK,0,fun _ => false,0⟩))∧RtF wr sg pg TK∧(sg≠sb∧pg≠sb)∧Box3 wr sb 64 (.int .i64 1) (.slice (some ⟨pg,0,none⟩) 1 pC) (.string ⟨#[]⟩)))
theorem plcCells (u:World):∀ j,j < 2→(u.alloc (.cells #[.int .i64 2,.int .i64 1] 74)).cell? ⟨u.heap.size,0 + j,none⟩ = some (pcV ⟨2,1⟩ j):=fun j hj => by
 have hr:=World.rowIs_alloc u #[.int .i64 2,.int .i64 1] 74 (fun i => pcV ⟨2,1⟩ i) (fun i hi => by
  match i,hi with
  | 0,_ => rfl
  | 1,_ => rfl)
 have:=hr.cell (i:=j) (by simpa using hj)
 simpa using this
theorem strCells1 (u:World) (T:ByteArray):∀ j,j < 1→(u.alloc (.cells #[.string T] 9)).cell? ⟨u.heap.size,0 + j,none⟩ = some (pxV T j):=fun j hj => by
 obtain rfl:j = 0:=by omega
 have hr:=World.rowIs_alloc u #[.string T] 9 (fun i => pxV T i) (fun i hi => by
  obtain rfl:i = 0:=by simpa using hi
  rfl)
 have:=hr.cell (i:=0) (by simp)
 simpa using this
theorem EO.one {w:World} {B:Nat} {t:TypeId} {s:Nat} {v:Value} {F:Nat→Nat→Value} (h:EO w B t s v 1 F):∃ g c,v = .slice (some ⟨g,0,none⟩) 1 c∧B≤g∧g < w.heap.size∧∀ j,j < s→w.cell? ⟨g,j,none⟩ = some (F 0 j):=by
 obtain ⟨a,c,rfl⟩:=h.form
 obtain ⟨g,hr,hg⟩:=h.rowE
 obtain rfl:a = some ⟨g,0,none⟩:=hr.a (by omega)
 refine ⟨g,c,rfl,hg (by omega),(h.ge g rfl).2,fun j hj => ?_⟩
 have:=hr.c 0 (by omega) j hj
 simpa using this
set_option maxRecDepth 100000 in
set_option maxHeartbeats 8000000 in
theorem l13Plan_new (k:ByteArray) (n:Nat) (hk:k.size = 32) (h4:4≤n) (hn:n≤64) (a0 a1 a2:Option Addr) (c0 c1 c2:Nat) (fa:Option Addr) (fC:Nat) (w:World) (h:DiskV w (newD n) a0 a1 a2) :
  Calls Tryz.prog 21 #[.string k,.agg #[.slice a0 n c0,.slice a1 0 c1,.slice a2 0 c2],.slice fa 0 fC] w fun e w' => RetPl w.heap.size k e w'∧Below w.heap.size w w':=by
 have A0:Hid (Below w.heap.size w (w.alloc (.cells #[.slice a0 n c0,.slice a1 0 c1,.slice a2 0 c2] 25))):=(Below.refl _ _).alloc (Nat.le_refl _) _
 have X0:Hid (Box3 (w.alloc (.cells #[.slice a0 n c0,.slice a1 0 c1,.slice a2 0 c2] 25)) w.heap.size 25 (.slice a0 n c0) (.slice a1 0 c1) (.slice a2 0 c2)):=Box3.made _ _ _ _ _
 have NW:Hid (Calls Tryz.prog 31 #[.string k,.agg #[.slice a0 n c0,.slice a1 0 c1,.slice a2 0 c2]] (w.alloc (.cells #[.slice a0 n c0,.slice a1 0 c1,.slice a2 0 c2] 25)) fun e w' => e = .returned (.agg #[.int .i64 0,.int .i64 0,.slice none 0 0,.string ⟨#[]⟩,.slice none 0 0,.slice none 0 0])∧Below (w.alloc (.cells #[.slice a0 n c0,.slice a1 0 c1,.slice a2 0 c2] 25)).heap.size (w.alloc (.cells #[.slice a0 n c0,.slice a1 0 c1,.slice a2 0 c2] 25)) w'):=l13Newest_new k n hn h4 a0 a1 a2 c0 c1 c2 _ (h.below A0.out)
 have LB:Hid (∀ w:World,Calls Tryz.prog 32 #[.slice fa 0 fC] w fun e w' => e = .returned (.slice (some ⟨w.heap.size,0,none⟩) 1 1)∧w' = w.alloc (.cells #[.int .u8 0] 5)):=fun w => l11Bytes_none fa fC w
 have CU:Hid (∀ (b:Nat) (w:World),Code8 w (some ⟨b,0,none⟩) 1 (fun _ => 0)→Calls Tryz.prog 33 #[.slice (some ⟨b,0,none⟩) 1 1] w fun e w' => (∃ cg cC,e = .returned (.slice (some ⟨cg,0,none⟩) 1 cC)∧cg < w'.heap.size∧w'.cell? ⟨cg,0,none⟩ = some (.string erP))∧Below w.heap.size w w'):=fun b w h => (l12Cut_any b 0 1 1 (fun _ => 0) (by omega) (Nat.le_refl _) w h).mono (by
  rintro e w' ⟨⟨a',c',rfl,ho⟩,hb⟩
  rw [er_pcs] at ho ⊢
  obtain ⟨g,c,hv,_,hl,hc⟩:=ho.one
  cases hv
  exact ⟨⟨g,c',rfl,hl,hc 0 (by omega)⟩,hb⟩)
 have FR:Hid (∀ w:World,Calls Tryz.prog 34 #[.agg #[.int .i64 0,.slice none 0 0,.string ⟨#[]⟩],.int .i64 (n:Int)] w fun e w' => (∃ fg fc,e = .returned (.slice (some ⟨fg,0,none⟩) (n - 2) fc)∧n - 2≤fc∧fc≤maxLen∧w.heap.size≤fg∧CelI w' fg 2)∧Below w.heap.size w w'):=fun w => (l12Free_any 0 none 0 0 erC ⟨#[]⟩ n (by omega) hn (by omega) w (fun i hi => absurd hi (Nat.not_lt_zero _))).mono (by
  rintro e w' ⟨⟨a',c',rfl,hi⟩,hb⟩
  rw [er_free_len erC n h4] at hi ⊢
  have hs:=EO.slp hi
  obtain ⟨fg,rfl,hc⟩:=IE.cel hi (by omega)
  rw [er_free_0 erC n h4] at hc
  exact ⟨⟨fg,c',rfl,hs.le,hs.mx,(EO.ge hi fg rfl).1,hc⟩,hb⟩)
 have SE:Hid (∀ w:World,Calls Tryz.prog 36 #[.string k,.int .i64 0,.int .i64 1,.string erP] w fun e w' => e = .returned (.string (erT k))∧Below w.heap.size w w'):=fun w => l12Seal_any k 0 1 erP hk (by omega) (by omega) (by rw [erP_size]; omega) w
 have RT:Hid (∀ (sg pg sC pC:Nat) (w:World),RtF w sg pg (erT k)→Calls Tryz.prog 37 #[.slice (some ⟨sg,0,none⟩) 1 sC,.slice (some ⟨pg,0,none⟩) 1 pC] w fun e w' => e = .returned (.string (erR k))∧Below w.heap.size w w'):=fun sg pg sC pC w h => l13Root_one k sg pg sC pC w h
 have SB:Hid (∀ (sg pg pC:Nat) (w:World),RtF w sg pg (erT k)→Calls Tryz.prog 39 #[.agg #[.int .i64 1,.slice (some ⟨pg,0,none⟩) 1 pC,.string (erR k)]] w fun e w' => (∃ zg zc,e = .returned (.slice (some ⟨zg,0,none⟩) 37 zc)∧(convert 68 9 (.slice (some ⟨zg,0,none⟩) 37 zc)).run Tryz.prog w' = .ok (.string (erSup k)) w')∧Below w.heap.size w w'):=fun sg pg pC w h => (l12Bytes_any 1 (some ⟨pg,0,none⟩) 1 pC erC (erR k) (erS_ok k) w (fun i hi => ⟨pg,0,rfl,fun j hj => by
  obtain rfl:i = 0:=by omega
  rcases (show j = 0∨j = 1 by omega) with rfl | rfl
  ·exact h.2.2.1
  ·exact h.2.2.2⟩)).mono (by
  rintro e w' ⟨⟨a',c',rfl,ho⟩,hb⟩
  obtain ⟨zg,hr,_⟩:=OL.byR ho rfl
  rw [erS_len] at hr ⊢
  have hcd:=hr.code
  rcases hr with hz | ⟨rfl,_⟩
  ·cases hz
  ·exact ⟨⟨zg,c',rfl,kstr_of_code hcd⟩,hb⟩)
 have SL:Hid (∀ w:World,Calls Tryz.prog 38 #[.string k,.int .i64 1,.agg #[.int .i64 1,.string (erSup k)]] w fun e w' => (∃ zg zc,e = .returned (.slice (some ⟨zg,0,none⟩) 57 zc)∧(convert 68 9 (.slice (some ⟨zg,0,none⟩) 57 zc)).run Tryz.prog w' = .ok (.string (planT k 1 (erSup k))) w')∧Below w.heap.size w w'):=fun w => (l06Bytes_any k (erSup k) 1 1 hk (by omega) (by omega) (by rw [erSup_size]; omega) w).mono (by
  rintro e w' ⟨⟨zg,zc,rfl,_,hr⟩,hb⟩
  unfold planT
  rw [erSup_size] at hr ⊢
  exact ⟨⟨zg,zc,rfl,kstr_of_code hr.code⟩,hb⟩)
 have AC:Hid (∀ i,i < 4→erAC k i = catE 1 (fun _ => ⟨1,2,erT k,0,fun _ => false,0⟩) (fun i => if i = 1 then ⟨1,1,planT k 1 (erSup k),0,fun _ => false,0⟩ else ⟨2,0,⟨#[]⟩,0,fun _ => false,0⟩) i):=fun i hi => by
  rcases (show i = 0∨i = 1∨i = 2∨i = 3 by omega) with rfl | rfl | rfl | rfl <;> rfl
 unfold RetPl
 generalize erAC k = AK at *
 generalize planT k 1 (erSup k) = PT at *
 generalize erSup k = SU at *
 generalize erR k = RK at *
 generalize erT k = TK at *
 have N4:Hid (4≤n∧n≤64):=⟨h4,hn⟩
 clear h hn h4 hk
 go_enter Tryz.func21,Tryz.ntmps21
 have y0:=X0.out.c0
 have y1:=X0.out.c1
 have y2:=X0.out.c2
 go_wp2_with fail
 refine NW.out.mono ?_
 generalize (w.alloc (.cells #[.slice a0 n c0,.slice a1 0 c1,.slice a2 0 c2] 25)) = u at *
 rintro e v ⟨rfl,hb⟩
 have A1:Hid (Below w.heap.size w (v.alloc (.cells #[.int .i64 0,.int .i64 0,.slice none 0 0,.string ⟨#[]⟩,.slice none 0 0,.slice none 0 0] 66))):=(A0.out.trans (hb.mono A0.out.size)).alloc (A0.out.trans (hb.mono A0.out.size)).size _
 have X1:Hid (Box3 (v.alloc (.cells #[.int .i64 0,.int .i64 0,.slice none 0 0,.string ⟨#[]⟩,.slice none 0 0,.slice none 0 0] 66)) w.heap.size 25 (.slice a0 n c0) (.slice a1 0 c1) (.slice a2 0 c2)):=(X0.out.below hb).alloc _
 have Z1:Hid (X6 (v.alloc (.cells #[.int .i64 0,.int .i64 0,.slice none 0 0,.string ⟨#[]⟩,.slice none 0 0,.slice none 0 0] 66)) v.heap.size):=X6.made v
 clear hb A0 X0 NW y0 y1 y2 u
 go_wp2_with fail
 generalize (v.alloc (.cells #[.int .i64 0,.int .i64 0,.slice none 0 0,.string ⟨#[]⟩,.slice none 0 0,.slice none 0 0] 66)) = v1 at *
 generalize v.heap.size = tb at *
 clear v
 refine (LB.out v1).mono ?_
 rintro e v2 ⟨rfl,hv⟩
 have hb:Below v1.heap.size v1 v2:=by rw [hv]; exact (Below.refl _ _).alloc (Nat.le_refl _) _
 have C2:Hid (Code8 v2 (some ⟨v1.heap.size,0,none⟩) 1 (fun _ => 0)):=by rw [hv]; exact code0 v1
 replace X1:=hid (X1.out.below hb)
 replace A1:=hid (A1.out.trans (hb.mono A1.out.size))
 replace Z1:=hid (Z1.out.below hb)
 clear hb hv LB
 generalize v1.heap.size = gb at *
 clear v1
 obtain ⟨z0,z1,z2,z3,z4,z5⟩:=Z1.out.cell
 go_wp2_with fail
 refine (CU.out gb v2 C2.out).mono ?_
 rintro e v ⟨⟨cg,cC,rfl,hcg,hce⟩,hb⟩
 replace X1:=hid (X1.out.below hb)
 replace A1:=hid (A1.out.trans (hb.mono A1.out.size))
 have PM:Hid (PlM v tb cg):=⟨Z1.out.below hb,hcg,hce⟩
 clear hb hcg hce C2 CU Z1 z0 z1 z2 z3 z4 z5
 clear v2
 obtain ⟨sb,hsb⟩:∃ x,x = v.heap.size:=⟨_,rfl⟩
 have SX:Hid (Box3 (v.alloc (.cells #[.int .i64 1,.slice none 0 0,.string ⟨#[]⟩] 64)) sb 64 (.int .i64 1) (.slice none 0 0) (.string ⟨#[]⟩)):=by rw [hsb]; exact Box3.made _ _ _ _ _
 have BV:Hid (Below v.heap.size v (v.alloc (.cells #[.int .i64 1,.slice none 0 0,.string ⟨#[]⟩] 64))):=(Below.refl _ _).alloc (Nat.le_refl _) _
 replace X1:=hid (X1.out.alloc (.cells #[.int .i64 1,.slice none 0 0,.string ⟨#[]⟩] 64))
 have SV:Hid (v.heap.size≤sb):=hid (by omega)
 obtain ⟨z0,z1,z2,z3,z4,z5⟩:=(PM.out.below BV.out).1.cell
 have x0:=X1.out.c0
 have zv:=PM.out.1.cell.1
 go_wp2_with fail
 rw [← hsb]
 clear hsb
 generalize (v.alloc (.cells #[.int .i64 1,.slice none 0 0,.string ⟨#[]⟩] 64)) = v3 at *
 refine (FR.out v3).mono ?_
 rintro e v4 ⟨⟨fg,fc,rfl,hf1,hf2,hf4,hf3⟩,hb⟩
 have FN:Hid (fg≠sb):=hid (fun e => by have:=SX.out.lt; omega)
 replace SX:=hid (SX.out.below hb)
 replace BV:=hid (BV.out.trans (hb.mono BV.out.size))
 have FG:Hid (CelI v4 fg 2):=hf3
 have FL:Hid (n - 2≤fc∧fc≤maxLen):=⟨hf1,hf2⟩
 have SS:Hid (sb < v4.heap.size):=SX.out.lt
 have FS:Hid (fg < v4.heap.size):=hf3.1
 clear hb hf1 hf2 hf3 hf4 x0 zv z0 z1 z2 z3 z4 z5 X1 FR v3
 obtain ⟨fb,hfb⟩:∃ x,x = v4.heap.size:=⟨_,rfl⟩
 have EA:Hid (EO ((v4.alloc (.cells #[] 53)).alloc (.cells #[] 9)) fb 53 5 (.slice (some ⟨fb,0,none⟩) 0 0) 0 (avF (fun _ => ⟨1,2,TK,0,fun _ => false,0⟩))):=by rw [hfb]; exact (EO.lit v4 _ _ _ (Nat.le_refl _) _).below ((Below.refl _ _).alloc (Nat.le_refl _) _)
 have ES:Hid (EO ((v4.alloc (.cells #[] 53)).alloc (.cells #[] 9)) fb 9 1 (.slice (some ⟨fb + 1,0,none⟩) 0 0) 0 (pxF (fun _ => TK))):=by
  have:=EO.lit (v4.alloc (.cells #[] 53)) fb 9 1 (by rw [hfb]; simp) (pxF (fun _ => TK))
  rw [show (v4.alloc (.cells #[] 53)).heap.size = fb + 1 by rw [hfb]; simp] at this
  exact this
 have hb:Below v4.heap.size v4 ((v4.alloc (.cells #[] 53)).alloc (.cells #[] 9)):=((Below.refl _ _).alloc (Nat.le_refl _) _).alloc (by simp) _
 replace SX:=hid (SX.out.below hb)
 replace FG:=hid (FG.out.below hb)
 replace BV:=hid (BV.out.trans (hb.mono BV.out.size))
 have FB:Hid (fb + 2≤((v4.alloc (.cells #[] 53)).alloc (.cells #[] 9)).heap.size):=hid (by rw [hfb]; simp)
 rw [← hfb] at SS FS
 clear hb
 go_wp2
 rw [← hfb]
 clear hfb
 generalize ((v4.alloc (.cells #[] 53)).alloc (.cells #[] 9)) = v5 at *
 clear v4
 go_loopw [14,15,16,17] (fun fr ac se i wr => PlJ v wr n fg fc sb fb TK fr ac se i) (fun _ _ _ i _ => 1 - (intOf i).toNat)
 case atStart => exact ⟨BV.out,FB.out,.inl ⟨rfl,rfl,rfl,rfl,EA.out,ES.out,SX.out,FG.out⟩⟩
 case round =>
  clear BV FB EA ES SX FG
  obtain ⟨hb,hfb,⟨rfl,rfl,rfl,rfl,ea,es,sx,hfg⟩ | ⟨rfl,ab,aC,sg,sC,pg,pC,rfl,rfl,ea,hrt,hne,sx⟩⟩:=hrel
  ·have BV:Hid (Below v.heap.size v wr):=hb
   have FB:Hid (fb + 2≤wr.heap.size):=hfb
   have EA:Hid (EO wr fb 53 5 (.slice (some ⟨fb,0,none⟩) 0 0) 0 (avF (fun _ => ⟨1,2,TK,0,fun _ => false,0⟩))):=ea
   have ES:Hid (EO wr fb 9 1 (.slice (some ⟨fb + 1,0,none⟩) 0 0) 0 (pxF (fun _ => TK))):=es
   have SX:Hid (Box3 wr sb 64 (.int .i64 1) (.slice none 0 0) (.string ⟨#[]⟩)):=sx
   have FG:Hid (CelI wr fg 2):=hfg
   clear hb hfb ea es sx hfg RT SB SL
   go_wp2_with fail
   have hb:Below wr.heap.size wr wr.drew:=(Below.refl _ _).drew
   replace BV:=hid (BV.out.trans (hb.mono BV.out.size))
   replace FB:=hid (Nat.le_trans FB.out hb.size)
   replace EA:=hid (EA.out.below hb)
   replace ES:=hid (ES.out.below hb)
   replace SX:=hid (SX.out.below hb)
   replace FG:=hid (FG.out.below hb)
   clear hb
   have H:Below v.heap.size v wr.drew:=BV.out
   refine wp_region_noPanic ?_
   refine wp_region_held_drew (S:=fun w' => Below v.heap.size v w') (by kernel_rfl) H (fun _ => ?_)
   generalize wr.drew = p0 at *
   refine tkH (i:=0) (v:=.int .i64 0) rfl (by kernel_rfl) (by rfl) ?_ H ?_
   ·intro w' hSw; go_simp
   refine ch159 ?_
   refine tkH (i:=1) (v:=.pointer (some ⟨tb,4,none⟩)) rfl (by kernel_rfl) (by rfl) ?_ H ?_
   ·intro w' hSw; go_simp
   refine ch159 ?_
   refine tkH (i:=2) (v:=.slice none 0 0) rfl (by kernel_rfl) (by rfl) ?_ H ?_
   ·intro w' hSw; obtain ⟨_,_,_,_,t4,_⟩:=(PM.out.below hSw).1.cell; clear hSw; go_simp
   refine ch159 ?_
   refine tkH (i:=3) (v:=.int .i64 0) rfl (by kernel_rfl) (by rfl) ?_ H ?_
   ·intro w' hSw; go_simp
   refine ch159 ?_
   refine tkH (i:=4) (v:=.bool false) rfl (by kernel_rfl) (by rfl) ?_ H ?_
   ·intro w' hSw; go_simp
   refine ch159 ?_
   refine tkH (i:=5) (v:=.bool false) rfl (by kernel_rfl) (by rfl) ?_ H ?_
   ·intro w' hSw; go_simp
   refine ch159 ?_
   refine wpAnyH_take (i:=6) (v:=undef) rfl (by kernel_rfl) (by kernel_rfl) (by kernel_rfl) (fun _ _ _ h => h) (Or.inr ⟨by rfl,rfl⟩) H ?_
   refine ch159 ?_
   refine wpAnyH_take (i:=7) (v:=undef) rfl (by kernel_rfl) (by kernel_rfl) (by kernel_rfl) (fun _ _ _ h => h) (Or.inr ⟨by rfl,rfl⟩) H ?_
   refine ch159 ?_
   refine wpAnyH_take (i:=8) (v:=undef) rfl (by kernel_rfl) (by kernel_rfl) (by kernel_rfl) (fun _ _ _ h => h) (Or.inr ⟨by rfl,rfl⟩) H ?_
   refine ch159 ?_
   refine wpAnyH_take (i:=9) (v:=undef) rfl (by kernel_rfl) (by kernel_rfl) (by kernel_rfl) (fun _ _ _ h => h) (Or.inr ⟨by rfl,rfl⟩) H ?_
   refine ch159 ?_
   refine wpAnyH_take (i:=10) (v:=undef) rfl (by kernel_rfl) (by kernel_rfl) (by kernel_rfl) (fun _ _ _ h => h) (Or.inr ⟨by rfl,rfl⟩) H ?_
   refine ch159 ?_
   refine wpAnyH_take (i:=11) (v:=undef) rfl (by kernel_rfl) (by kernel_rfl) (by kernel_rfl) (fun _ _ _ h => h) (Or.inr ⟨by rfl,rfl⟩) H ?_
   refine ch159 ?_
   refine wpAnyH_take (i:=12) (v:=undef) rfl (by kernel_rfl) (by kernel_rfl) (by kernel_rfl) (fun _ _ _ h => h) (Or.inr ⟨by rfl,rfl⟩) H ?_
   refine ch159 ?_
   refine wpAnyH_take (i:=13) (v:=undef) rfl (by kernel_rfl) (by kernel_rfl) (by kernel_rfl) (fun _ _ _ h => h) (Or.inr ⟨by rfl,rfl⟩) H ?_
   refine ch159 ?_
   refine wpAnyH_take (i:=14) (v:=undef) rfl (by kernel_rfl) (by kernel_rfl) (by kernel_rfl) (fun _ _ _ h => h) (Or.inr ⟨by rfl,rfl⟩) H ?_
   refine ch159 ?_
   refine wpAnyH_take (i:=15) (v:=undef) rfl (by kernel_rfl) (by kernel_rfl) (by kernel_rfl) (fun _ _ _ h => h) (Or.inr ⟨by rfl,rfl⟩) H ?_
   refine ch159 ?_
   refine tkH (i:=16) (v:=.bool false) rfl (by kernel_rfl) (by rfl) ?_ H ?_
   ·intro w' hSw; go_simp
   refine ch159 ?_
   refine wpAnyH_done (by kernel_rfl) ?_ _
   refine NoPanic.normal ?_
   have BV:Hid (Below v.heap.size v p0):=H
   clear H
   have nz:¬ n - 2 = 0:=(by have:=N4.out; omega)
   have nz2:¬ ((n - 2:Nat):Int) = 0:=(by omega)
   have nz3:(((n - 2:Nat):Int) == 0) = false:=(by simp; omega)
   have hce:=(PM.out.below BV.out).2.2
   go_wp2_with fail
   refine (SE.out p0).mono ?_
   rintro e s0 ⟨rfl,hb⟩
   replace BV:=hid (BV.out.trans (hb.mono BV.out.size))
   replace FB:=hid (Nat.le_trans FB.out hb.size)
   replace EA:=hid (EA.out.below hb)
   replace ES:=hid (ES.out.below hb)
   replace SX:=hid (SX.out.below hb)
   replace FG:=hid (FG.out.below hb)
   clear hb hce nz nz2 nz3 SE
   go_wp2_with fail
   have hb:Below s0.heap.size s0 s0.drew:=(Below.refl _ _).drew
   replace BV:=hid (BV.out.trans (hb.mono BV.out.size))
   replace FB:=hid (Nat.le_trans FB.out hb.size)
   replace EA:=hid (EA.out.below hb)
   replace ES:=hid (ES.out.below hb)
   replace SX:=hid (SX.out.below hb)
   replace FG:=hid (FG.out.below hb)
   clear hb
   have H:CelI s0.drew fg 2:=FG.out
   refine wp_region_noPanic ?_
   refine wp_region_held_drew (S:=fun w' => CelI w' fg 2) (by kernel_rfl) H (fun _ => ?_)
   generalize s0.drew = t0 at *
   refine tkH (i:=0) (v:=.pointer (some ⟨sb,1,none⟩)) rfl (by kernel_rfl) (by rfl) ?_ H ?_
   ·intro w' hSw; go_simp
   refine ch159 ?_
   refine tkH (i:=2) (v:=.slice (some ⟨fg,0,none⟩) (n - 2) fc) rfl (by kernel_rfl) (by rfl) ?_ H ?_
   ·intro w' hSw; go_simp
   refine ch159 ?_
   refine tkH (i:=3) (v:=.pointer (some ⟨fg,0,none⟩)) rfl (by kernel_rfl) (by rfl) ?_ H ?_
   ·intro w' hSw; have nz:¬ n - 2 = 0:=(by have:=N4.out; omega); go_simp
   refine ch159 ?_
   refine tkH (i:=4) (v:=.int .i64 2) rfl (by kernel_rfl) (by rfl) ?_ H ?_
   ·intro w' hSw; have t0:=hSw.2; clear hSw; go_simp
   refine ch159 ?_
   refine tkH (i:=5) (v:=.int .i64 1) rfl (by kernel_rfl) (by rfl) ?_ H ?_
   ·intro w' hSw; go_simp
   refine ch159 ?_
   refine tkH (i:=6) (v:=.agg #[.int .i64 2,.int .i64 1]) rfl (by kernel_rfl) (by rfl) ?_ H ?_
   ·intro w' hSw; go_simp
   refine ch159 ?_
   refine wpAnyH_ready (rs:=[1,7]) (by kernel_rfl) (by simp) ?_
   refine (AllReadyH.cons rfl (fun KK hK => ?_) (AllReadyH.cons rfl (fun KK hK => ?_) AllReadyH.nil))
   have t0:=SX.out.c1
   go_simp
   clear t0
   refine hK.out _ _ H (fun _ => ?_)
   clear hK KK
   refine ch159 ?_
   apply tg8
   rotate_left
   exact trivial
   have hb:Below t0.heap.size t0 (t0.alloc (.cells #[.int .i64 2,.int .i64 1] 74)):=(Below.refl _ _).alloc (Nat.le_refl _) _
   have CX:Hid (∀ j,j < 2→(t0.alloc (.cells #[.int .i64 2,.int .i64 1] 74)).cell? ⟨t0.heap.size,0 + j,none⟩ = some (pcV ⟨2,1⟩ j)):=plcCells t0
   go_simp
   replace H:=CelI.below H hb
   replace FB:=hid (Nat.le_trans FB.out hb.size)
   replace EA:=hid (EA.out.below hb)
   replace ES:=hid (ES.out.below hb)
   replace SX:=hid (SX.out.below hb)
   replace FG:=hid (FG.out.below hb)
   replace BV:=hid (BV.out.trans (hb.mono BV.out.size))
   generalize (t0.alloc (.cells #[.int .i64 2,.int .i64 1] 74)) = t1 at *
   generalize t0.heap.size = qb at *
   clear hb
   refine hK.out _ _ H (fun _ => ?_)
   clear hK KK
   refine ch159 ?_
   apply tg9
   rotate_left
   exact trivial
   case' q8 =>
    refine rdH (i:=7) (by kernel_rfl) rfl (fun KK hK => ?_)
    have hb:Below t0.heap.size t0 (t0.alloc (.cells #[.int .i64 2,.int .i64 1] 74)):=(Below.refl _ _).alloc (Nat.le_refl _) _
    have CX:Hid (∀ j,j < 2→(t0.alloc (.cells #[.int .i64 2,.int .i64 1] 74)).cell? ⟨t0.heap.size,0 + j,none⟩ = some (pcV ⟨2,1⟩ j)):=plcCells t0
    go_simp
    replace H:=CelI.below H hb
    replace FB:=hid (Nat.le_trans FB.out hb.size)
    replace EA:=hid (EA.out.below hb)
    replace ES:=hid (ES.out.below hb)
    replace SX:=hid (SX.out.below hb)
    replace FG:=hid (FG.out.below hb)
    replace BV:=hid (BV.out.trans (hb.mono BV.out.size))
    generalize (t0.alloc (.cells #[.int .i64 2,.int .i64 1] 74)) = t1 at *
    generalize t0.heap.size = qb at *
    clear hb
    refine hK.out _ _ H (fun _ => ?_)
    clear hK KK
    refine ch159 ?_
   case' q9 =>
    refine rdH (i:=1) (by kernel_rfl) rfl (fun KK hK => ?_)
    have t0:=SX.out.c1
    go_simp
    clear t0
    refine hK.out _ _ H (fun _ => ?_)
    clear hK KK
    refine ch159 ?_
   case' q8 | q9 =>
    refine rdH (i:=8) (by kernel_rfl) rfl (fun KK hK => ?_)
    obtain ⟨pv,t2,hr,he,hg,-⟩:=appPlc t1 (fb + 2) (.slice none 0 0) 0 qb erC ⟨2,1⟩ FB.out (by omega) (EO.nil _ _ _ _ _) CX.out
    rw [if_pos (by rfl)]
    refine Lib.wp_append_run _ (.tmp 109) (.tmp 115) 62 62 rfl _ _ rfl rfl _ _ (hr _) ?_
    have hb:Below t1.heap.size t1 t2:=(Below.refl _ _).grown hg (Nat.le_refl _) (fun k hk => by cases hk)
    obtain ⟨pg,pC,rfl,hpB,hpl,hpc⟩:=EO.one he
    have PC:Hid (fb + 2≤pg∧pg < t2.heap.size∧t2.cell? ⟨pg,0,none⟩ = some (.int .i64 2)∧t2.cell? ⟨pg,1,none⟩ = some (.int .i64 1)):=⟨hpB,hpl,hpc 0 (by omega),hpc 1 (by omega)⟩
    replace H:=CelI.below H hb
    replace FB:=hid (Nat.le_trans FB.out hb.size)
    replace EA:=hid (EA.out.below hb)
    replace ES:=hid (ES.out.below hb)
    replace SX:=hid (SX.out.below hb)
    replace FG:=hid (FG.out.below hb)
    replace BV:=hid (BV.out.trans (hb.mono BV.out.size))
    clear hr he hg hpB hpl hpc hb CX
    refine hK.out _ _ H (fun _ => ?_)
    clear hK KK
    refine ch159 ?_
    refine tkH (i:=9) (v:=.pointer (some ⟨sb,1,none⟩)) rfl (by kernel_rfl) (by rfl) ?_ H ?_
    ·intro w' hSw; go_simp
    refine ch159 ?_
   case' q8 | q9 =>
    refine rdH (i:=10) (by kernel_rfl) rfl (fun KK hK => ?_)
    have ho:OnlyB sb t2 (t2.setCell ⟨sb,1,none⟩ (.slice (some ⟨pg,0,none⟩) 1 pC)):=(OnlyB.refl _ _).setCell 1 _
    have x1:=SX.out.c1
    have f1:=SX.out.fr 1
    have SX2:Hid (Box3 (t2.setCell ⟨sb,1,none⟩ (.slice (some ⟨pg,0,none⟩) 1 pC)) sb 64 (.int .i64 1) (.slice (some ⟨pg,0,none⟩) 1 pC) (.string ⟨#[]⟩)):=SX.out.set1 _
    replace EA:=hid (EA.out.onlyB ho SS.out)
    replace ES:=hid (ES.out.onlyB ho SS.out)
    replace FB:=hid (Nat.le_trans FB.out ho.size)
    replace BV:=hid (BV.out.trans (ho.toBelow SV.out BV.out.size))
    replace PC:Hid (fb + 2≤pg∧pg < (t2.setCell ⟨sb,1,none⟩ (.slice (some ⟨pg,0,none⟩) 1 pC)).heap.size∧(t2.setCell ⟨sb,1,none⟩ (.slice (some ⟨pg,0,none⟩) 1 pC)).cell? ⟨pg,0,none⟩ = some (.int .i64 2)∧(t2.setCell ⟨sb,1,none⟩ (.slice (some ⟨pg,0,none⟩) 1 pC)).cell? ⟨pg,1,none⟩ = some (.int .i64 1)):=⟨PC.out.1,Nat.lt_of_lt_of_le PC.out.2.1 ho.size,(World.cell?_of_block (ho.block pg PC.out.2.1 (fun e => by have:=SS.out; have:=PC.out.1; omega))).trans PC.out.2.2.1,(World.cell?_of_block (ho.block pg PC.out.2.1 (fun e => by have:=SS.out; have:=PC.out.1; omega))).trans PC.out.2.2.2⟩
    replace FG:Hid (CelI (t2.setCell ⟨sb,1,none⟩ (.slice (some ⟨pg,0,none⟩) 1 pC)) fg 2):=⟨Nat.lt_of_lt_of_le H.1 ho.size,(World.cell?_of_block (ho.block fg H.1 FN.out)).trans H.2⟩
    clear ho
    go_simp
    clear x1 f1 SX H
    have H:=FG.out
    generalize (t2.setCell ⟨sb,1,none⟩ (.slice (some ⟨pg,0,none⟩) 1 pC)) = t3 at *
    refine hK.out _ _ H (fun _ => ?_)
    clear hK KK
    refine ch159 ?_
   case' q8 | q9 =>
    refine wpAnyH_done (by kernel_rfl) ?_ _
    refine NoPanic.normal ?_
    clear H
    have CX:Hid (∀ j,j < 1→(t3.alloc (.cells #[.string TK] 9)).cell? ⟨t3.heap.size,0 + j,none⟩ = some (pxV TK j)):=strCells1 t3 TK
    have hb:Below t3.heap.size t3 (t3.alloc (.cells #[.string TK] 9)):=(Below.refl _ _).alloc (Nat.le_refl _) _
    replace BV:=hid (BV.out.trans (hb.mono BV.out.size))
    replace FB:=hid (Nat.le_trans FB.out hb.size)
    replace EA:=hid (EA.out.below hb)
    replace ES:=hid (ES.out.below hb)
    replace SX2:=hid (SX2.out.below hb)
    replace FG:=hid (FG.out.below hb)
    replace PC:Hid (fb + 2≤pg∧pg < (t3.alloc (.cells #[.string TK] 9)).heap.size∧(t3.alloc (.cells #[.string TK] 9)).cell? ⟨pg,0,none⟩ = some (.int .i64 2)∧(t3.alloc (.cells #[.string TK] 9)).cell? ⟨pg,1,none⟩ = some (.int .i64 1)):=⟨PC.out.1,Nat.lt_of_lt_of_le PC.out.2.1 hb.size,(World.cell?_of_block (hb.block pg PC.out.2.1)).trans PC.out.2.2.1,(World.cell?_of_block (hb.block pg PC.out.2.1)).trans PC.out.2.2.2⟩
    clear hb
    obtain ⟨sv,r1,hr,he,hg,hloc⟩:=appPx (t3.alloc (.cells #[.string TK] 9)) fb _ 0 t3.heap.size (fun _ => TK) TK (by have:=FB.out; omega) (by omega) ES.out CX.out
    obtain ⟨sg,sC,rfl,hsB,hsl,hsc⟩:=EO.one he
    have SN:Hid (sg≠fb):=hid (by
      have:=FB.out
      rcases hloc with q | q
      ·have:=Option.some.inj (show some sg = some (fb + 1) from q); omega
      ·have:=Option.some.inj (show some sg = some (t3.alloc (.cells #[.string TK] 9)).heap.size from q); omega)
    have hfr:Below fb (t3.alloc (.cells #[.string TK] 9)) r1:=grownB (Nat.le_succ fb) (by have:=FB.out; omega) hg
    have kp:∀ g,g < (t3.alloc (.cells #[.string TK] 9)).heap.size→g≠fb + 1→r1.heap[g]? = (t3.alloc (.cells #[.string TK] 9)).heap[g]?:=fun g h1 h2 => hg.block g h1 (fun e => h2 (Option.some.inj (show some g = some (fb + 1) from e)))
    have hfs:fb + 2≤r1.heap.size:=Nat.le_trans FB.out hfr.size
    replace BV:=hid (BV.out.trans (hfr.mono (by have:=SV.out; have:=SS.out; omega)))
    replace EA:=hid (EA.out.keep (fun g e => by cases e; exact kp fb (by have:=FB.out; omega) (by omega)))
    replace SX2:=hid (World.rowIs.of_block SX2.out (kp sb SX2.out.lt (by have:=SS.out; omega)))
    replace FG:Hid (CelI r1 fg 2):=⟨Nat.lt_of_lt_of_le FG.out.1 hfr.size,(World.cell?_of_block (kp fg FG.out.1 (by have:=FS.out; omega))).trans FG.out.2⟩
    have RF:Hid (RtF r1 sg pg TK):=⟨⟨hsl,by have:=hsc 0 (by omega); simpa [pxF,pxV,updE] using this⟩,Nat.lt_of_lt_of_le PC.out.2.1 hfr.size,(World.cell?_of_block (kp pg PC.out.2.1 (by have:=PC.out.1; omega))).trans PC.out.2.2.1,(World.cell?_of_block (kp pg PC.out.2.1 (by have:=PC.out.1; omega))).trans PC.out.2.2.2⟩
    have NE:Hid ((sg≠sb∧pg≠sb)∧pg≠fb):=hid (by have:=PC.out.1; have:=SS.out; omega)
    have FB2:Hid (fb + 2≤r1.heap.size):=hfs
    clear CX ES he hloc hg kp hfr hfs hsB hsl hsc PC FB
    have hb:Below r1.heap.size r1 (r1.alloc (.cells #[.int .i64 1,.int .i64 2,.string TK,.slice none 0 0,.int .i64 0] 53)):=(Below.refl _ _).alloc (Nat.le_refl _) _
    obtain ⟨av,r2,hr2,he,hg,-⟩:=appActs (r1.alloc (.cells #[.int .i64 1,.int .i64 2,.string TK,.slice none 0 0,.int .i64 0] 53)) fb _ 0 (fun _ => ⟨1,2,TK,0,fun _ => false,0⟩) r1.heap.size 1 1 (fun _ => ⟨1,2,TK,0,fun _ => false,0⟩) (by have:=FB2.out; have:=hb.size; omega) (by omega) (EA.out.below hb) (erCells r1 TK)
    rw [catE_zero] at he
    obtain ⟨ab,aC,rfl,-,-⟩:=he.actR (by omega)
    have E2:Hid (EO r2 fb 53 5 (.slice (some ⟨ab,0,none⟩) 1 aC) 1 (avF (fun _ => ⟨1,2,TK,0,fun _ => false,0⟩))):=he
    have hfr:Below fb (r1.alloc (.cells #[.int .i64 1,.int .i64 2,.string TK,.slice none 0 0,.int .i64 0] 53)) r2:=grownB (Nat.le_refl fb) (by have:=FB2.out; have:=hb.size; omega) hg
    have kp:∀ g,g < r1.heap.size→g≠fb→r2.heap[g]? = r1.heap[g]?:=fun g h1 h2 => (hg.block g (Nat.lt_of_lt_of_le h1 hb.size) (fun e => h2 (Option.some.inj (show some g = some fb from e)))).trans (hb.block g h1)
    have hsz:r1.heap.size≤r2.heap.size:=Nat.le_trans hb.size hfr.size
    have BV2:Hid (Below v.heap.size v r2):=hid ((BV.out.trans (hb.mono BV.out.size)).trans (hfr.mono (by have:=SV.out; have:=SS.out; omega)))
    have SX3:=hid (World.rowIs.of_block SX2.out (kp sb SX2.out.lt (by have:=SS.out; omega)))
    have RF2:Hid (RtF r2 sg pg TK):=⟨⟨Nat.lt_of_lt_of_le RF.out.1.1 hsz,(World.cell?_of_block (kp sg RF.out.1.1 SN.out)).trans RF.out.1.2⟩,Nat.lt_of_lt_of_le RF.out.2.1 hsz,(World.cell?_of_block (kp pg RF.out.2.1 NE.out.2)).trans RF.out.2.2.1,(World.cell?_of_block (kp pg RF.out.2.1 NE.out.2)).trans RF.out.2.2.2⟩
    have FB3:Hid (fb + 2≤r2.heap.size):=Nat.le_trans FB2.out hsz
    have xf:=FG.out.2
    have nz:¬ n - 2 = 0:=(by have:=N4.out; omega)
    have hcut:(Instr.slice 71 (.slice (some ⟨fg,0,none⟩) (n - 2) fc) (some (.int .i64 1)) none none).run Tryz.prog r2 = .ok (.slice (cutA (some ⟨fg,0,none⟩) fc 1 1) (n - 2 - 1) (fc - 1)) r2:=run_cut_from (P:=Tryz.prog) 71 rfl 1 (fun w => by kernel_rfl) ⟨(fun e => by cases e),.inr ⟨fg,0,rfl⟩,FL.out.1,FL.out.2⟩ 1 (by omega) r2
    clear he hg kp hfr hsz hb BV EA SX2 RF FB2 FG
    go_wp2_with (at_builtin; first | refine Lib.wpList_append_run _ rfl (.tmp 118) (.tmp 120) 22 22 rfl (.slice (some ⟨fb + 1,0,none⟩) 0 0) (.slice (some ⟨t3.heap.size,0,none⟩) 1 1) rfl rfl _ _ (hr _) ?_ | refine Lib.wpList_append_run _ rfl (.tmp 122) (.tmp 128) 41 41 rfl (.slice (some ⟨fb,0,none⟩) 0 0) (.slice (some ⟨r1.heap.size,0,none⟩) 1 1) rfl rfl _ _ (hr2 _) ?_)
    exact ⟨⟨BV2.out,FB3.out,.inr ⟨rfl,ab,aC,sg,sC,pg,pC,rfl,rfl,E2.out,RF2.out,NE.out.1,SX3.out⟩⟩,by simp [intOf]⟩
  ·have BV:Hid (Below v.heap.size v wr):=hb
   have FB:Hid (fb + 2≤wr.heap.size):=hfb
   have EA:Hid (EO wr fb 53 5 (.slice (some ⟨ab,0,none⟩) 1 aC) 1 (avF (fun _ => ⟨1,2,TK,0,fun _ => false,0⟩))):=ea
   have RF:Hid (RtF wr sg pg TK):=hrt
   have NE:Hid (sg≠sb∧pg≠sb):=hne
   have SX:Hid (Box3 wr sb 64 (.int .i64 1) (.slice (some ⟨pg,0,none⟩) 1 pC) (.string ⟨#[]⟩)):=sx
   have x1:=sx.c1
   clear hb hfb ea hrt hne sx SE
   go_wp2_with fail
   refine (RT.out sg pg sC pC wr RF.out).mono ?_
   rintro e e1 ⟨rfl,hb⟩
   replace BV:=hid (BV.out.trans (hb.mono BV.out.size))
   replace FB:=hid (Nat.le_trans FB.out hb.size)
   replace EA:=hid (EA.out.below hb)
   replace RF:=hid (RF.out.below hb)
   replace SX:=hid (SX.out.below hb)
   clear hb x1 RT
   have ho:OnlyB sb e1 (e1.setCell ⟨sb,2,none⟩ (.string RK)):=(OnlyB.refl _ _).setCell 2 _
   have SX2:Hid (Box3 (e1.setCell ⟨sb,2,none⟩ (.string RK)) sb 64 (.int .i64 1) (.slice (some ⟨pg,0,none⟩) 1 pC) (.string RK)):=SX.out.set2 _
   have x2:=SX.out.c2
   have f2:=SX.out.fr 2
   replace BV:=hid (BV.out.trans (ho.toBelow SV.out BV.out.size))
   replace FB:=hid (Nat.le_trans FB.out ho.size)
   replace EA:=hid (EA.out.onlyB ho SS.out)
   replace RF:Hid (RtF (e1.setCell ⟨sb,2,none⟩ (.string RK)) sg pg TK):=⟨⟨Nat.lt_of_lt_of_le RF.out.1.1 ho.size,(World.cell?_of_block (ho.block sg RF.out.1.1 NE.out.1)).trans RF.out.1.2⟩,Nat.lt_of_lt_of_le RF.out.2.1 ho.size,(World.cell?_of_block (ho.block pg RF.out.2.1 NE.out.2)).trans RF.out.2.2.1,(World.cell?_of_block (ho.block pg RF.out.2.1 NE.out.2)).trans RF.out.2.2.2⟩
   have q0:=SX2.out.c0
   have q1:=SX2.out.c1
   have q2:=SX2.out.c2
   clear ho SX
   go_wp2_with fail
   generalize (e1.setCell ⟨sb,2,none⟩ (.string RK)) = e2 at *
   refine (SB.out sg pg pC e2 RF.out).mono ?_
   rintro e e3 ⟨⟨zg,zc,rfl,hcv⟩,hb⟩
   replace BV:=hid (BV.out.trans (hb.mono BV.out.size))
   replace FB:=hid (Nat.le_trans FB.out hb.size)
   replace EA:=hid (EA.out.below hb)
   replace SX2:=hid (SX2.out.below hb)
   clear hb x2 f2 q0 q1 q2 RF SB NE
   go_wp2_with fail
   refine (SL.out e3).mono ?_
   rintro e e4 ⟨⟨zh,zd,rfl,hcw⟩,hb⟩
   replace BV:=hid (BV.out.trans (hb.mono BV.out.size))
   replace FB:=hid (Nat.le_trans FB.out hb.size)
   replace EA:=hid (EA.out.below hb)
   replace SX2:=hid (SX2.out.below hb)
   clear hb hcv SL
   have hb:Below e4.heap.size e4 (e4.alloc (.cells (planL 1 PT) 53)):=(Below.refl _ _).alloc (Nat.le_refl _) _
   obtain ⟨av,r2,hr,he,hg,-⟩:=appActs (e4.alloc (.cells (planL 1 PT) 53)) fb _ 1 (fun _ => ⟨1,2,TK,0,fun _ => false,0⟩) e4.heap.size 3 3 (fun i => if i = 1 then ⟨1,1,PT,0,fun _ => false,0⟩ else ⟨2,0,⟨#[]⟩,0,fun _ => false,0⟩) (by have:=FB.out; have:=hb.size; omega) (by omega) (EA.out.below hb) (planCells (PlanR.made e4 1 PT))
   obtain ⟨rb,rc,rfl,hrb,hac⟩:=he.actR (by omega)
   have hfr:Below fb (e4.alloc (.cells (planL 1 PT) 53)) r2:=grownB (EA.out.ge ab rfl).1 (by have:=FB.out; have:=hb.size; omega) hg
   have BV2:Hid (Below v.heap.size v r2):=hid ((BV.out.trans (hb.mono BV.out.size)).trans (hfr.mono (by have:=SV.out; have:=SS.out; omega)))
   have SX3:Hid (Box3 r2 sb 64 (.int .i64 1) (.slice (some ⟨pg,0,none⟩) 1 pC) (.string RK)):=World.rowIs.of_block (SX2.out.below hb) (hfr.block sb SS.out)
   have HA:Hid (ActR r2 rb 4 AK):=⟨hac.1,fun i hi => by rw [AC.out i hi]; exact hac.2 i hi⟩
   have RB:Hid (w.heap.size≤rb):=hid (by have:=A1.out.size; have:=SV.out; have:=SS.out; omega)
   clear he hg hac hrb hfr hb BV SX2 EA FB AC
   unfold planL at hr
   go_wp2_with (at_builtin; refine Lib.wpList_append_run _ rfl (.tmp 146) (.tmp 154) 41 41 rfl (.slice (some ⟨ab,0,none⟩) 1 aC) (.slice (some ⟨e4.heap.size,0,none⟩) 3 3) rfl rfl _ _ (hr _) ?_)
   clear hr hcw
   have hb:Below r2.heap.size r2 r2.drew:=(Below.refl _ _).drew
   replace BV2:=hid (BV2.out.trans (hb.mono BV2.out.size))
   replace SX3:=hid (SX3.out.below hb)
   replace HA:=hid (HA.out.below hb)
   clear hb
   have H:Box3 r2.drew sb 64 (.int .i64 1) (.slice (some ⟨pg,0,none⟩) 1 pC) (.string RK):=SX3.out
   refine wp_region_noPanic ?_
   refine wp_region_held_drew (S:=fun w' => Box3 w' sb 64 (.int .i64 1) (.slice (some ⟨pg,0,none⟩) 1 pC) (.string RK)) (by kernel_rfl) H (fun _ => ?_)
   generalize r2.drew = x0 at *
   refine tkH (i:=0) (v:=.slice (some ⟨rb,0,none⟩) 4 rc) rfl (by kernel_rfl) (by rfl) ?_ H ?_
   ·intro w' hSw; go_simp
   refine ch159 ?_
   refine tkH (i:=1) (v:=.pointer (some ⟨sb,2,none⟩)) rfl (by kernel_rfl) (by rfl) ?_ H ?_
   ·intro w' hSw; go_simp
   refine ch159 ?_
   refine tkH (i:=2) (v:=.string RK) rfl (by kernel_rfl) (by rfl) ?_ H ?_
   ·intro w' hSw; have t0:=hSw.c2; clear hSw; go_simp
   refine ch159 ?_
   refine tkH (i:=3) (v:=.slice (some ⟨rb,0,none⟩) 4 rc) rfl (by kernel_rfl) (by rfl) ?_ H ?_
   ·intro w' hSw; go_simp
   refine ch159 ?_
   refine tkH (i:=4) (v:=.string RK) rfl (by kernel_rfl) (by rfl) ?_ H ?_
   ·intro w' hSw; go_simp
   refine ch159 ?_
   refine tkH (i:=5) (v:=.int .i64 0) rfl (by kernel_rfl) (by rfl) ?_ H ?_
   ·intro w' hSw; go_simp
   refine ch159 ?_
   refine wpAnyH_done (by kernel_rfl) ?_ _
   refine NoPanic.normal ?_
   clear H
   go_wp2
   exact bodyPost_ret (results_tmp3 Tryz.results21 _ _ _) rfl ⟨⟨rb,rc,rfl,RB.out,HA.out⟩,A1.out.trans (BV2.out.mono A1.out.size)⟩
end Go.Proofs.YtcpjeopnhgoonaaGreatDoor
