/-
  Texts of the proof, joined.
-/
import Derived.Test.YtcpjeopnhgoonaaGreatDoorF27
namespace Go.Proofs.YtcpjeopnhgoonaaGreatDoor
open Go.ChangeShapes Go.WideShapes Go.ChangeAt Go.RowKit
set_option linter.unusedVariables false
def macT (k s:ByteArray) (m:Nat) (fx:Nat→Nat) (n:Nat) (f:Nat→Nat):Nat→Nat:=Sha.mac (Sha.keyF 32 (strB (tagS k))) (16 + m + n) (Sha.cat 16 (numF 12 4 m (strB s)) (Sha.cat m fx f))
def tagT (k s:ByteArray) (m:Nat) (fx:Nat→Nat) (n:Nat) (f:Nat→Nat):ByteArray:=kstr (macT k s m fx n f) 0 16
theorem macT_lt (k s:ByteArray) (m:Nat) (fx:Nat→Nat) (n:Nat) (f:Nat→Nat) (i:Nat):macT k s m fx n f i < 256:=Sha.mac_lt _ _ _ _
theorem tagT_size (k s:ByteArray) (m:Nat) (fx:Nat→Nat) (n:Nat) (f:Nat→Nat):(tagT k s m fx n f).size = 16:=kstr_size _ _ _
theorem keyF_tag (k:ByteArray):Sha.keyF 32 (fun i => pairF k (32 + i)) = Sha.keyF 32 (strB (tagS k)):=by
 funext j
 unfold Sha.keyF
 by_cases h:j < 32
 ·have e:strB (tagS k) j = pairF k (32 + j):=by unfold tagS; rw [strB_kstr _ 32 32 j (pairF_lt _ _) h]
  simp [h,e]
 ·simp [h]
theorem numF_lt {k sz x:Nat} {f:Nat→Nat} (hf:∀ i,f i < 256) (j:Nat):numF k sz x f j < 256:=by
 unfold numF
 split
 ·exact hf _
 ·exact Nat.mod_lt _ (by omega)
def Trip (w:World) (sb:Nat) (x y z:Value):Prop:=w.cell? ⟨sb,0,none⟩ = some x∧w.cell? ⟨sb,1,none⟩ = some y∧w.cell? ⟨sb,2,none⟩ = some z
theorem Trip.below {w w':World} {sb:Nat} {x y z:Value} (h:Trip w sb x y z) (hb:Below w.heap.size w w'):Trip w' sb x y z :=
 ⟨by rw [hb.cell (p:=⟨sb,0,none⟩) (strBlock h.1)]; exact h.1,by rw [hb.cell (p:=⟨sb,1,none⟩) (strBlock h.2.1)]; exact h.2.1,by rw [hb.cell (p:=⟨sb,2,none⟩) (strBlock h.2.2)]; exact h.2.2⟩
theorem Trip.made (w:World) (x y z:Value) (t:TypeId):Trip (w.alloc (.cells #[x,y,z] t)) w.heap.size x y z:=⟨by simp,by simp,by simp⟩
theorem concatT_any (sb b0 o0 n0 c0 b1 o1 n1 c1 b2 o2 n2 c2:Nat) (f0 f1 f2:Nat→Nat) (h1:1≤n0) (h2:n0 + n1 + n2≤1000000) (w:World) (ht:Trip w sb (.slice (some ⟨b0,o0,none⟩) n0 c0) (.slice (some ⟨b1,o1,none⟩) n1 c1) (.slice (some ⟨b2,o2,none⟩) n2 c2)) (k0:Code8 w (some ⟨b0,o0,none⟩) n0 f0) (k1:Code8 w (some ⟨b1,o1,none⟩) n1 f1) (k2:Code8 w (some ⟨b2,o2,none⟩) n2 f2) :
  Calls Tryz.prog 190 #[.slice (some ⟨sb,0,none⟩) 3 3] w fun e w' => (∃ g c,e = .returned (.slice (some ⟨g,0,none⟩) (n0 + n1 + n2) c)∧Own8 w' g (n0 + n1 + n2) (Sha.cat n0 f0 (Sha.cat n1 f1 f2)))∧Below w.heap.size w w':=by
 have P:Parts w sb 3 (fun k => if k = 0 then some ⟨b0,o0,none⟩ else if k = 1 then some ⟨b1,o1,none⟩ else some ⟨b2,o2,none⟩) (fun k => if k = 0 then n0 else if k = 1 then n1 else n2) (fun k => if k = 0 then c0 else if k = 1 then c1 else c2) (fun k => if k = 0 then f0 else if k = 1 then f1 else f2):=by
  refine ⟨fun k hk => ?_,fun k hk => ?_,fun k hk => ?_⟩
  ·rcases (show k = 0∨k = 1∨k = 2 by omega) with rfl | rfl | rfl
   ·exact ht.1
   ·exact ht.2.1
   ·exact ht.2.2
  ·rcases (show k = 0∨k = 1∨k = 2 by omega) with rfl | rfl | rfl
   ·exact k0
   ·exact k1
   ·exact k2
  ·rcases (show k = 0∨k = 1∨k = 2 by omega) with rfl | rfl | rfl
   ·exact .inr ⟨_,_,rfl⟩
   ·exact .inr ⟨_,_,rfl⟩
   ·exact .inr ⟨_,_,rfl⟩
 have hN:catN (fun k => if k = 0 then n0 else if k = 1 then n1 else n2) 3 = n0 + n1 + n2:=by show 0 + n0 + n1 + n2 = _; omega
 have:=concatN_any sb 3 _ _ _ _ (by omega) (by rw [hN]; omega) (by rw [hN]; omega) _ P
 rw [hN,cat3] at this
 refine this.mono ?_
 rintro e w' ⟨⟨g,cc,rfl,ho⟩,hb'⟩
 obtain ⟨g',c',_,e',h8⟩:=own8_of_own ho (by intro e; cases e)
 cases e'
 exact ⟨⟨g,cc,rfl,h8⟩,hb'⟩
set_option maxRecDepth 100000 in
set_option maxHeartbeats 4000000 in
theorem tag_any (k s:ByteArray) (q xb xo m xc b o n c:Nat) (fx f:Nat→Nat) (hs:s.size = 12) (hm:m≤65536) (hn:n≤65536) (hfx:∀ i,fx i < 256) (hf:∀ i,f i < 256) (w:World) (h:SealAt w q (pairF k) s (.slice (some ⟨xb,xo,none⟩) m xc)) (hx:Code8 w (some ⟨xb,xo,none⟩) m fx) (hc:Code8 w (some ⟨b,o,none⟩) n f) (ht:Tabs w) :
  Calls Tryz.prog 148 #[.pointer (some ⟨q,0,none⟩),.slice (some ⟨b,o,none⟩) n c] w fun e w' => RetM w.heap.size w' e 16 (strB (tagT k s m fx n f))∧Below w.heap.size w w':=by
 have AN:Hid (∀ (g c:Nat) (w1:World),w.heap.size≤g→w.heap.size≤w1.heap.size→RowM w1 g 12 c (strB s)→Calls Tryz.prog 62 #[.slice (some ⟨g,0,none⟩) 12 c,.int .i64 (m:Int),.int .i64 4] w1 fun e w' => RetM w.heap.size w' e 16 (numF 12 4 m (strB s))∧Below w.heap.size w1 w'):=fun g c w1 h1 h2 h => appendNumberM_any w.heap.size g 12 c m 4 (strB s) (by omega) (by omega) w1 h1 h2 h
 have NM:Hid (∀ (w:World),Code8 w (some ⟨q,32,none⟩) 32 (fun i => pairF k (32 + i))→Tabs w→Calls Tryz.prog 186 #[.slice (some ⟨q,32,none⟩) 32 32] w fun e w' => e = .returned (.agg (bA 64 (Sha.keyF 32 (strB (tagS k)))))∧Below w.heap.size w w'):=fun w h ht => by
  rw [← keyF_tag]
  exact newMacKey_any q 32 32 32 _ (fun i => pairF_lt _ _) (by omega) w h ht
 have CO:Hid (∀ (sb hb hc:Nat) (w:World),Trip w sb (.slice (some ⟨hb,0,none⟩) 16 hc) (.slice (some ⟨xb,xo,none⟩) m xc) (.slice (some ⟨b,o,none⟩) n c)→Code8 w (some ⟨hb,0,none⟩) 16 (numF 12 4 m (strB s))→Code8 w (some ⟨xb,xo,none⟩) m fx→Code8 w (some ⟨b,o,none⟩) n f→Calls Tryz.prog 190 #[.slice (some ⟨sb,0,none⟩) 3 3] w fun e w' => (∃ g c,e = .returned (.slice (some ⟨g,0,none⟩) (16 + m + n) c)∧Own8 w' g (16 + m + n) (Sha.cat 16 (numF 12 4 m (strB s)) (Sha.cat m fx f)))∧Below w.heap.size w w'):=fun sb hb hc w ht k0 k1 k2 => concatT_any sb hb 0 16 hc xb xo m xc b o n c _ _ _ (by omega) (by omega) w ht k0 k1 k2
 have MA:Hid (∀ (g c:Nat) (w:World),Own8 w g (16 + m + n) (Sha.cat 16 (numF 12 4 m (strB s)) (Sha.cat m fx f))→Tabs w→Calls Tryz.prog 187 #[.agg (bA 64 (Sha.keyF 32 (strB (tagS k)))),.slice (some ⟨g,0,none⟩) (16 + m + n) c] w fun e w' => e = .returned (.string (kstr (macT k s m fx n f) 0 32))∧Below w.heap.size w w'):=fun g c w h ht => mac_any _ (Sha.keyF_lt (strB_lt _)) g 0 (16 + m + n) c _ (Sha.cat_lt (numF_lt (strB_lt s)) (Sha.cat_lt hfx hf)) (by omega) w h.code ht
 have hex:(kstr (macT k s m fx n f) 0 32).extract 0 16 = tagT k s m fx n f:=by
  have:=kstr_extract (kstr (macT k s m fx n f) 0 32) 0 16 (by rw [kstr_size]; omega)
  rw [Nat.zero_add] at this
  rw [this]
  exact kstr_congr (fun i hi => by rw [Nat.zero_add,strB_kstr _ 0 32 i (by rw [Nat.zero_add]; exact macT_lt _ _ _ _ _ _ _) (by omega),Nat.zero_add])
 have hms:(kstr (macT k s m fx n f) 0 32).size = 32:=kstr_size _ _ _
 have hts:(tagT k s m fx n f).size = 16:=tagT_size _ _ _ _ _ _
 generalize kstr (macT k s m fx n f) 0 32 = MS at *
 generalize tagT k s m fx n f = TT at *
 generalize bA 64 (Sha.keyF 32 (strB (tagS k))) = KA at *
 generalize pairF k = G at *
 generalize hHF:numF 12 4 m (strB s) = HF at *
 clear hHF
 have HS:Hid (SealAt w q G s (.slice (some ⟨xb,xo,none⟩) m xc)):=h
 have HX:Hid (Code8 w (some ⟨xb,xo,none⟩) m fx):=hx
 have HC:Hid (Code8 w (some ⟨b,o,none⟩) n f):=hc
 have HT:Hid (Tabs w):=ht
 clear h hx hc ht hfx hf
 obtain ⟨w1,c1,hcv,hr1,hb1⟩:=bytesOfR s w.drew
 rw [hs] at hcv hr1
 have R1:Hid (RowM w1 w.heap.size 12 c1 (strB s)):=hr1
 have B1:Hid (Below w.heap.size w w1):=(Below.refl _ w).drew.trans hb1
 change (convert 9 68 (.string s)).run Tryz.prog w.drew = .ok (.slice (some ⟨w.heap.size,0,none⟩) 12 c1) w1 at hcv
 clear hr1 hb1
 go_enter Tryz.func148,Tryz.ntmps148
 go_upto_region 1 with fail
 have H:=HS.out.drew
 refine wp_region_noPanic ?_
 refine wp_region_held_drew (S:=fun w' => SealAt w' q G s (.slice (some ⟨xb,xo,none⟩) m xc)) (by kernel_rfl) H (fun _ => ?_)
 refine tkH (i:=0) (v:=.pointer (some ⟨q,0,none⟩)) rfl (by kernel_rfl) (by rfl) ?_ H ?_
 ·intro w' hSw; go_simp
 refine ch36 ?_
 refine tkH (i:=1) (v:=.pointer (some ⟨q,0,none⟩)) rfl (by kernel_rfl) (by rfl) ?_ H ?_
 ·intro w' hSw; go_simp
 refine ch36 ?_
 refine tkH (i:=2) (v:=.pointer (some ⟨q,64,none⟩)) rfl (by kernel_rfl) (by rfl) ?_ H ?_
 ·intro w' hSw; go_simp
 refine ch36 ?_
 refine tkH (i:=3) (v:=.string s) rfl (by kernel_rfl) (by rfl) ?_ H ?_
 ·intro w' hSw; have:=hSw.nonce; clear hSw; go_simp
 refine ch36 ?_
 refine tkH (i:=5) (v:=.pointer (some ⟨q,0,none⟩)) rfl (by kernel_rfl) (by rfl) ?_ H ?_
 ·intro w' hSw; go_simp
 refine ch36 ?_
 refine tkH (i:=6) (v:=.pointer (some ⟨q,0,none⟩)) rfl (by kernel_rfl) (by rfl) ?_ H ?_
 ·intro w' hSw; go_simp
 refine ch36 ?_
 refine tkH (i:=7) (v:=.pointer (some ⟨q,65,none⟩)) rfl (by kernel_rfl) (by rfl) ?_ H ?_
 ·intro w' hSw; go_simp
 refine ch36 ?_
 refine tkH (i:=8) (v:=.slice (some ⟨xb,xo,none⟩) m xc) rfl (by kernel_rfl) (by rfl) ?_ H ?_
 ·intro w' hSw; have:=hSw.extra; clear hSw; go_simp
 refine ch36 ?_
 refine tkH (i:=9) (v:=.int .i64 (m:Int)) rfl (by kernel_rfl) (by rfl) ?_ H ?_
 ·intro w' hSw; go_simp
 refine ch36 ?_
 refine wpAnyH_ready (rs:=[4]) (by kernel_rfl) (by simp) ?_
 refine AllReadyH.cons rfl (fun KK hK => ?_) AllReadyH.nil
 go_simp
 replace H:SealAt w1 q G s (.slice (some ⟨xb,xo,none⟩) m xc):=HS.out.below B1.out
 refine hK.out _ _ H (fun _ => ?_)
 clear hK KK hcv
 refine ch36 ?_
 refine wpAnyH_ready (rs:=[10]) (by kernel_rfl) (by simp) ?_
 refine AllReadyH.cons rfl (fun KK hK => ?_) AllReadyH.nil
 go_simp
 refine (AN.out w.heap.size c1 w1 (Nat.le_refl _) B1.out.size R1.out).mono ?_
 rintro e w2 ⟨⟨g2,c2,rfl,hg2,hr2⟩,hb2⟩
 have R2:Hid (RowM w2 g2 16 c2 HF):=hr2
 have B2:Hid (Below w.heap.size w w2):=B1.out.trans hb2
 replace H:SealAt w2 q G s (.slice (some ⟨xb,xo,none⟩) m xc):=HS.out.below B2.out
 clear hr2 hb2 hg2 R1 B1 AN
 refine hK.out _ _ H (fun _ => ?_)
 clear hK KK
 refine ch36 ?_
 refine tkH (i:=11) (v:=.slice (some ⟨g2,0,none⟩) 16 c2) rfl (by kernel_rfl) (by rfl) ?_ H ?_
 ·intro w' hSw; go_simp
 refine ch36 ?_
 clear H
 refine wpAnyH_done (by kernel_rfl) ?_ _
 refine NoPanic.normal ?_
 go_upto_region 2 with fail
 have H2:SealAt w2 q G s (.slice (some ⟨xb,xo,none⟩) m xc):=HS.out.below B2.out
 have H:=H2.drew
 refine wp_region_noPanic ?_
 refine wp_region_held_drew (S:=fun w' => SealAt w' q G s (.slice (some ⟨xb,xo,none⟩) m xc)) (by kernel_rfl) H (fun _ => ?_)
 refine tkH (i:=0) (v:=.pointer (some ⟨q,0,none⟩)) rfl (by kernel_rfl) (by rfl) ?_ H ?_
 ·intro w' hSw; go_simp
 refine ch36 ?_
 refine tkH (i:=1) (v:=.pointer (some ⟨q,0,none⟩)) rfl (by kernel_rfl) (by rfl) ?_ H ?_
 ·intro w' hSw; go_simp
 refine ch36 ?_
 refine tkH (i:=2) (v:=.pointer (some ⟨q,0,none⟩)) rfl (by kernel_rfl) (by rfl) ?_ H ?_
 ·intro w' hSw; go_simp
 refine ch36 ?_
 refine tkH (i:=3) (v:=.pointer (some ⟨q,32,none⟩)) rfl (by kernel_rfl) (by rfl) ?_ H ?_
 ·intro w' hSw; go_simp
 refine ch36 ?_
 refine tkH (i:=4) (v:=.slice (some ⟨q,32,none⟩) 32 32) rfl (by kernel_rfl) (by rfl) ?_ H ?_
 ·intro w' hSw; go_simp
 refine ch36 ?_
 refine tkH (i:=6) (v:=.slice (some ⟨g2,0,none⟩) 16 c2) rfl (by kernel_rfl) (by rfl) ?_ H ?_
 ·intro w' hSw; go_simp
 refine ch36 ?_
 refine tkH (i:=7) (v:=.pointer (some ⟨q,0,none⟩)) rfl (by kernel_rfl) (by rfl) ?_ H ?_
 ·intro w' hSw; go_simp
 refine ch36 ?_
 refine tkH (i:=8) (v:=.pointer (some ⟨q,0,none⟩)) rfl (by kernel_rfl) (by rfl) ?_ H ?_
 ·intro w' hSw; go_simp
 refine ch36 ?_
 refine tkH (i:=9) (v:=.pointer (some ⟨q,65,none⟩)) rfl (by kernel_rfl) (by rfl) ?_ H ?_
 ·intro w' hSw; go_simp
 refine ch36 ?_
 refine tkH (i:=10) (v:=.slice (some ⟨xb,xo,none⟩) m xc) rfl (by kernel_rfl) (by rfl) ?_ H ?_
 ·intro w' hSw; have:=hSw.extra; clear hSw; go_simp
 refine ch36 ?_
 refine tkH (i:=11) (v:=.slice (some ⟨b,o,none⟩) n c) rfl (by kernel_rfl) (by rfl) ?_ H ?_
 ·intro w' hSw; go_simp
 refine ch36 ?_
 have B3:Hid (Below w.heap.size w w2.drew):=B2.out.drew
 have R3:Hid (RowM w2.drew g2 16 c2 HF):=R2.out
 clear R2 B2 H2
 generalize w2.drew = w3 at *
 refine wpAnyH_ready (rs:=[5,12]) (by kernel_rfl) (by simp) ?_
 refine AllReadyH.cons rfl (fun KK hK => ?_) (AllReadyH.cons rfl (fun KK hK => ?_) AllReadyH.nil)
 ·go_simp
  refine (NM.out w3 (H.part 32 32 (by omega)) (HT.out.below B3.out)).mono ?_
  rintro e w5 ⟨rfl,hb5⟩
  have B5:Hid (Below w.heap.size w w5):=B3.out.trans (hb5.mono B3.out.size)
  replace H:SealAt w5 q G s (.slice (some ⟨xb,xo,none⟩) m xc):=HS.out.below B5.out
  have R5:Hid (RowM w5 g2 16 c2 HF):=R3.out.below hb5
  refine hK.out _ _ H (fun _ => ?_)
  clear hK KK hb5 B3 R3
  refine ch36 ?_
  have A6:Below w5.heap.size w5 (w5.alloc (.cells #[.slice (some ⟨g2,0,none⟩) 16 c2,.slice (some ⟨xb,xo,none⟩) m xc,.slice (some ⟨b,o,none⟩) n c] 68)):=(Below.refl _ _).alloc (Nat.le_refl _) _
  have TR6:Hid (Trip (w5.alloc (.cells #[.slice (some ⟨g2,0,none⟩) 16 c2,.slice (some ⟨xb,xo,none⟩) m xc,.slice (some ⟨b,o,none⟩) n c] 68)) w5.heap.size (.slice (some ⟨g2,0,none⟩) 16 c2) (.slice (some ⟨xb,xo,none⟩) m xc) (.slice (some ⟨b,o,none⟩) n c)):=Trip.made _ _ _ _ _
  have B6:Hid (Below w.heap.size w (w5.alloc (.cells #[.slice (some ⟨g2,0,none⟩) 16 c2,.slice (some ⟨xb,xo,none⟩) m xc,.slice (some ⟨b,o,none⟩) n c] 68))):=B5.out.trans (A6.mono B5.out.size)
  have R6:Hid (RowM (w5.alloc (.cells #[.slice (some ⟨g2,0,none⟩) 16 c2,.slice (some ⟨xb,xo,none⟩) m xc,.slice (some ⟨b,o,none⟩) n c] 68)) g2 16 c2 HF):=R5.out.below A6
  clear A6 B5 R5
  refine wpAnyH_ready (rs:=[12]) (by kernel_rfl) (by simp) ?_
  refine AllReadyH.cons rfl (fun KK hK => ?_) AllReadyH.nil
  go_simp
  replace H:=HS.out.below B6.out
  generalize w5.alloc (.cells #[.slice (some ⟨g2,0,none⟩) 16 c2,.slice (some ⟨xb,xo,none⟩) m xc,.slice (some ⟨b,o,none⟩) n c] 68) = w6 at *
  generalize w5.heap.size = sb at *
  refine hK.out _ _ H (fun _ => ?_)
  clear hK KK
  refine ch36 ?_
  refine wpAnyH_ready (rs:=[13]) (by kernel_rfl) (by simp) ?_
  refine AllReadyH.cons rfl (fun KK hK => ?_) AllReadyH.nil
  go_simp
  refine (CO.out sb g2 c2 w6 TR6.out R6.out.code (HX.out.below B6.out) (HC.out.below B6.out)).mono ?_
  rintro e w7 ⟨⟨g7,c7,rfl,ho7⟩,hb7⟩
  have O7:Hid (Own8 w7 g7 (16 + m + n) (Sha.cat 16 HF (Sha.cat m fx f))):=ho7
  have B7:Hid (Below w.heap.size w w7):=B6.out.trans (hb7.mono B6.out.size)
  replace H:SealAt w7 q G s (.slice (some ⟨xb,xo,none⟩) m xc):=HS.out.below B7.out
  clear ho7 hb7 B6 R6 TR6
  refine hK.out _ _ H (fun _ => ?_)
  clear hK KK
  refine ch36 ?_
  refine wpAnyH_ready (rs:=[14]) (by kernel_rfl) (by simp) ?_
  refine AllReadyH.cons rfl (fun KK hK => ?_) AllReadyH.nil
  go_simp
  refine (MA.out g7 c7 w7 O7.out (HT.out.below B7.out)).mono ?_
  rintro e w8 ⟨rfl,hb8⟩
  have B8:Hid (Below w.heap.size w w8):=B7.out.trans (hb8.mono B7.out.size)
  replace H:SealAt w8 q G s (.slice (some ⟨xb,xo,none⟩) m xc):=HS.out.below B8.out
  clear hb8 B7 O7
  refine hK.out _ _ H (fun _ => ?_)
  clear hK KK
  refine ch36 ?_
  refine tkH (i:=15) (v:=.string MS) rfl (by kernel_rfl) (by rfl) ?_ H ?_
  ·intro w' hSw; go_simp
  refine ch36 ?_
  clear H HS HX HC HT CO MA NM
  refine wpAnyH_done (by kernel_rfl) ?_ _
  refine NoPanic.normal ?_
  obtain ⟨w9,c9,hcv9,hr9,hb9⟩:=bytesOfR TT w8
  rw [hts] at hcv9 hr9
  have R9:Hid (RowM w9 w8.heap.size 16 c9 (strB TT)):=hr9
  have B9:Hid (Below w.heap.size w w9):=B8.out.trans (hb9.mono B8.out.size)
  have L9:Hid (w.heap.size≤w8.heap.size):=B8.out.size
  clear hr9 hb9 B8
  go_wp2
  go_ret
  exact ⟨⟨_,c9,rfl,L9.out,R9.out⟩,B9.out⟩
 ·have A4:Below w3.heap.size w3 (w3.alloc (.cells #[.slice (some ⟨g2,0,none⟩) 16 c2,.slice (some ⟨xb,xo,none⟩) m xc,.slice (some ⟨b,o,none⟩) n c] 68)):=(Below.refl _ _).alloc (Nat.le_refl _) _
  have TR4:Hid (Trip (w3.alloc (.cells #[.slice (some ⟨g2,0,none⟩) 16 c2,.slice (some ⟨xb,xo,none⟩) m xc,.slice (some ⟨b,o,none⟩) n c] 68)) w3.heap.size (.slice (some ⟨g2,0,none⟩) 16 c2) (.slice (some ⟨xb,xo,none⟩) m xc) (.slice (some ⟨b,o,none⟩) n c)):=Trip.made _ _ _ _ _
  have B4:Hid (Below w.heap.size w (w3.alloc (.cells #[.slice (some ⟨g2,0,none⟩) 16 c2,.slice (some ⟨xb,xo,none⟩) m xc,.slice (some ⟨b,o,none⟩) n c] 68))):=B3.out.trans (A4.mono B3.out.size)
  have R4:Hid (RowM (w3.alloc (.cells #[.slice (some ⟨g2,0,none⟩) 16 c2,.slice (some ⟨xb,xo,none⟩) m xc,.slice (some ⟨b,o,none⟩) n c] 68)) g2 16 c2 HF):=R3.out.below A4
  clear A4 B3 R3
  go_simp
  replace H:=HS.out.below B4.out
  generalize w3.alloc (.cells #[.slice (some ⟨g2,0,none⟩) 16 c2,.slice (some ⟨xb,xo,none⟩) m xc,.slice (some ⟨b,o,none⟩) n c] 68) = w4 at *
  generalize w3.heap.size = sb at *
  refine hK.out _ _ H (fun _ => ?_)
  clear hK KK
  refine ch36 ?_
  refine wpAnyH_ready (rs:=[5]) (by kernel_rfl) (by simp) ?_
  refine AllReadyH.cons rfl (fun KK hK => ?_) AllReadyH.nil
  go_simp
  refine (NM.out w4 (H.part 32 32 (by omega)) (HT.out.below B4.out)).mono ?_
  rintro e w6 ⟨rfl,hb6⟩
  have B6:Hid (Below w.heap.size w w6):=B4.out.trans (hb6.mono B4.out.size)
  replace H:SealAt w6 q G s (.slice (some ⟨xb,xo,none⟩) m xc):=HS.out.below B6.out
  have R6:Hid (RowM w6 g2 16 c2 HF):=R4.out.below hb6
  have TR6:Hid (Trip w6 sb (.slice (some ⟨g2,0,none⟩) 16 c2) (.slice (some ⟨xb,xo,none⟩) m xc) (.slice (some ⟨b,o,none⟩) n c)):=TR4.out.below hb6
  clear hb6 B4 R4 TR4
  refine hK.out _ _ H (fun _ => ?_)
  clear hK KK
  refine ch36 ?_
  refine wpAnyH_ready (rs:=[13]) (by kernel_rfl) (by simp) ?_
  refine AllReadyH.cons rfl (fun KK hK => ?_) AllReadyH.nil
  go_simp
  refine (CO.out sb g2 c2 w6 TR6.out R6.out.code (HX.out.below B6.out) (HC.out.below B6.out)).mono ?_
  rintro e w7 ⟨⟨g7,c7,rfl,ho7⟩,hb7⟩
  have O7:Hid (Own8 w7 g7 (16 + m + n) (Sha.cat 16 HF (Sha.cat m fx f))):=ho7
  have B7:Hid (Below w.heap.size w w7):=B6.out.trans (hb7.mono B6.out.size)
  replace H:SealAt w7 q G s (.slice (some ⟨xb,xo,none⟩) m xc):=HS.out.below B7.out
  clear ho7 hb7 B6 R6 TR6
  refine hK.out _ _ H (fun _ => ?_)
  clear hK KK
  refine ch36 ?_
  refine wpAnyH_ready (rs:=[14]) (by kernel_rfl) (by simp) ?_
  refine AllReadyH.cons rfl (fun KK hK => ?_) AllReadyH.nil
  go_simp
  refine (MA.out g7 c7 w7 O7.out (HT.out.below B7.out)).mono ?_
  rintro e w8 ⟨rfl,hb8⟩
  have B8:Hid (Below w.heap.size w w8):=B7.out.trans (hb8.mono B7.out.size)
  replace H:SealAt w8 q G s (.slice (some ⟨xb,xo,none⟩) m xc):=HS.out.below B8.out
  clear hb8 B7 O7
  refine hK.out _ _ H (fun _ => ?_)
  clear hK KK
  refine ch36 ?_
  refine tkH (i:=15) (v:=.string MS) rfl (by kernel_rfl) (by rfl) ?_ H ?_
  ·intro w' hSw; go_simp
  refine ch36 ?_
  clear H HS HX HC HT CO MA NM
  refine wpAnyH_done (by kernel_rfl) ?_ _
  refine NoPanic.normal ?_
  obtain ⟨w9,c9,hcv9,hr9,hb9⟩:=bytesOfR TT w8
  rw [hts] at hcv9 hr9
  have R9:Hid (RowM w9 w8.heap.size 16 c9 (strB TT)):=hr9
  have B9:Hid (Below w.heap.size w w9):=B8.out.trans (hb9.mono B8.out.size)
  have L9:Hid (w.heap.size≤w8.heap.size):=B8.out.size
  clear hr9 hb9 B8
  go_wp2
  go_ret
  exact ⟨⟨_,c9,rfl,L9.out,R9.out⟩,B9.out⟩
def slA (G:Nat→Nat) (s:ByteArray) (x:Value):Array Value:=((List.range 66).map (slV G s x)).toArray
theorem slA_size (G:Nat→Nat) (s:ByteArray) (x:Value):(slA G s x).size = 66:=by simp [slA]
theorem slA_at {G:Nat→Nat} {s:ByteArray} {x:Value} {k:Nat} (h:k < 66):(slA G s x)[k]? = some (slV G s x k):=by simp [slA,h]
theorem slA_one (G:Nat→Nat) (s:ByteArray) (a:Option Addr) (m c:Nat):(slA G s (.slice a m c)).all (·.oneCell') = true:=all_oneCell_toArray (fun v hv => by
 obtain ⟨i,hi,rfl⟩:=List.mem_map.1 hv
 unfold slV
 split
 ·rfl
 ·split <;> rfl)
theorem Tryz.infoSl:(Tryz.prog.info? 208).map (fun i => (i.zero.map (fun z => (z.cells.size,match z with | .agg _ => true | _ => false)),i.size)) = some (some (66,true),66):=by kernel_rfl
theorem Tryz.sizeSl:(Tryz.prog.info? 208).map (·.size) = some 66:=by
 have h:=Tryz.infoSl
 cases hq:Tryz.prog.info? 208 with
 | none => simp [hq] at h
 | some i => simp [hq] at h ⊢; exact h.2
theorem Tryz.placesSl:(match Tryz.prog.underlying 208 with | some (.struct fs) => fs.toList.mapM (fun f => (Tryz.prog.info? f.type).map fun i => (f.offset,i.size)) | _ => none) = some [(0,64),(64,1),(65,1)]:=by kernel_rfl
theorem Tryz.zeroSl:∃ Z:Array Value,(∀ w,(zeroValue 208).run Tryz.prog w = .ok (.agg Z) w)∧Z.size = 66∧(∃ it,Tryz.prog.info? 208 = some it∧it.zero = some (.agg Z)):=by
 have h:=Tryz.infoSl
 cases hq:Tryz.prog.info? 208 with
 | none => simp [hq] at h
 | some i =>
  simp only [hq,Option.map_some,Option.some.injEq,Prod.mk.injEq] at h
  cases hz:i.zero with
  | none => simp [hz] at h
  | some z =>
   simp only [hz,Option.map_some,Option.some.injEq,Prod.mk.injEq] at h
   cases z with
   | agg Z => exact ⟨Z,fun w => by simp [zeroValue,typeInfo,hq,hz],h.1.1,i,rfl,hz⟩
   | _ => simp at h
theorem structS:∃ fs,Tryz.prog.underlying 208 = some (.struct fs)∧fs.toList.mapM (fun f => (Tryz.prog.info? f.type).map fun i => (f.offset,i.size)) = some [(0,64),(64,1),(65,1)]:=by
 have hp:=Tryz.placesSl
 generalize Tryz.prog.underlying 208 = u at hp
 match u,hp with
 | some (.struct fs),hp => exact ⟨fs,rfl,hp⟩
theorem laid_sealer (G:Nat→Nat) (s:ByteArray) (x:Value) (Z:Array Value) (hs:Z.size = 66):laid 65 #[x] (laid 64 #[.string s] (laid 0 (bA 64 G) Z)) = slA G s x:=by
 apply Array.ext_getElem?
 intro i
 rw [laid_at,laid_at,laid_at]
 simp only [laid_size,bA_size,hs,show (#[x]:Array Value).size = 1 from rfl,show (#[Value.string s]:Array Value).size = 1 from rfl]
 by_cases hi:i < 66
 ·rw [slA_at hi]
  unfold slV
  by_cases h2:65≤i
  ·obtain rfl:i = 65:=by omega
   rw [if_pos (by omega),if_neg (by omega),if_neg (by omega)]
   rfl
  ·rw [if_neg (by omega)]
   by_cases h1:64≤i
   ·obtain rfl:i = 64:=by omega
    rw [if_pos (by omega),if_neg (by omega),if_pos rfl]
    rfl
   ·rw [if_neg (by omega),if_pos (by omega),if_pos (by omega),bA_at (by omega),Nat.sub_zero]
 ·rw [if_neg (by omega),if_neg (by omega),if_neg (by omega)]
  rw [Array.getElem?_eq_none (by omega),Array.getElem?_eq_none (by rw [slA_size]; omega)]
theorem built_sealer (G:Nat→Nat) (s:ByteArray) (a:Option Addr) (m c:Nat):Tryz.prog.built 208 [(0,.agg (bA 64 G)),(1,.string s),(2,.slice a m c)] = some (slA G s (.slice a m c)):=by
 obtain ⟨Z,-,hs,it,hi,hz⟩:=Tryz.zeroSl
 obtain ⟨fs,hu,hp⟩:=structS
 rw [built_struct hi hz hu hp]
 rw [fill_cons (off:=0) (size:=64) _ _ _ (.agg (bA 64 G)) _ rfl (bA_size _ _) (by show 0 + 64≤Z.size; omega)]
 rw [fill_cons (off:=64) (size:=1) _ _ _ _ _ rfl rfl (by rw [laid_size]; show 64 + 1≤Z.size; omega)]
 rw [fill_cons (off:=65) (size:=1) _ _ _ _ _ rfl rfl (by rw [laid_size,laid_size]; show 65 + 1≤Z.size; omega)]
 rw [cells_agg,cells_agg,show (Value.string s).cells = #[.string s] from rfl,show (Value.slice a m c).cells = #[.slice a m c] from rfl,laid_sealer G s _ Z hs]
 rfl
theorem wpList_buildS {P:Program} {ops:Array Oper} {rest:List Oper} {o:Oper} {a:Act} {w:World} {Q:Exit→Act→World→Prop} (hg:o.guard = none) (t:TypeId) (parts:Array (Nat × Operand)) (ho:o.op = .build t parts) (vals:List (Nat × Value)) (hv:(parts.map fun (i,x) => (i,a.eval x)).toList = vals)
  (cells:Array Value) (hf:P.built t vals = some cells) (h:wpList P ops Q rest (a.put o.dst (.agg cells)) w):wpList P ops Q (o :: rest) a w:=by
 refine wpList_build hg t parts ho ?_ ?_
 ·rw [hv,hf]; rfl
 ·rw [hv,hf]; exact h
theorem sealAt_stored (w:World) (Z:Array Value) (hZ:Z.size = 66) (G:Nat→Nat) (s:ByteArray) (x:Value):SealAt ((w.alloc (.cells Z 208)).setCells w.heap.size 0 (slA G s x).toList) w.heap.size G s x:=by
 have h0:(w.alloc (.cells Z 208)).rowIs w.heap.size 208 66 (fun i => Z.getD i undef):=by
  rw [← hZ]
  exact World.rowIs_alloc w Z 208 _ (fun i hi => by simp [Array.getD,hi])
 refine (rowIs_setCells (slA G s x).toList 0 _ _ h0).congr (fun i hi => ?_)
 have hl:(slA G s x).toList.length = 66:=by rw [Array.length_toList]; exact slA_size _ _ _
 rw [hl,if_pos (by omega),Nat.sub_zero,List.getD_eq_getElem?_getD,Array.getElem?_toList,slA_at hi]
 rfl
theorem sfault_ok (k s:ByteArray) (x y z:Nat) (hk:k.size = 32) (hs:s.size = 12) (hx:x≤65536) (hy:y≤z) (w:World) :
  Calls Tryz.prog 144 #[.string k,.string s,.int .i64 (x:Int),.int .i64 (y:Int),.int .i64 (z:Int)] w fun e w' => e = .returned (.int .i64 0)∧w = w':=by
 have e1:¬ (65536:Int) < k.size:=by omega
 have e2:¬ (65536:Int) < s.size:=by omega
 have e3:¬ (65536:Int) < (x:Int):=by omega
 have e4:¬ (z:Int) < (y:Int):=by omega
 have e5:((k.size:Int) != 32) = false:=by rw [hk]; rfl
 have e6:((s.size:Int) != 12) = false:=by rw [hs]; rfl
 clear hk hs
 go_enter Tryz.func144,Tryz.ntmps144
 go_wp2
 go_ret
 exact ⟨rfl,rfl⟩
def sealedF (k s:ByteArray) (m:Nat) (fx:Nat→Nat) (n:Nat) (f:Nat→Nat):Nat→Nat:=Sha.cat n (streamF k s f) (strB (tagT k s m fx n (streamF k s f)))
theorem streamF_lt (k s:ByteArray) {f:Nat→Nat} (hf:∀ i,f i < 256) (i:Nat):streamF k s f i < 256:=ctrF_lt (Gf.ws_lt (strB_lt _) _) (strB_lt s) hf i
set_option maxRecDepth 100000 in
set_option maxHeartbeats 4000000 in
theorem implSeal_yes (k s:ByteArray) (xb xo m xc b o n c:Nat) (fx f:Nat→Nat) (hk:k.size = 32) (hs:s.size = 12) (hm:m≤65536) (hn:n≤65520) (hfx:∀ i,fx i < 256) (hf:∀ i,f i < 256) (w:World) (hx:Code8 w (some ⟨xb,xo,none⟩) m fx) (hc:Code8 w (some ⟨b,o,none⟩) n f) (ht:Tabs w) :
  Calls Tryz.prog 100 #[.string k,.string s,.slice (some ⟨xb,xo,none⟩) m xc,.slice (some ⟨b,o,none⟩) n c] w fun e w' => RetB2 w w' e (n + 16) (sealedF k s m fx n f) (.int .i64 0)∧Below w.heap.size w w':=by
 obtain ⟨i0,hi⟩:=info_parts Tryz.info8
 have HI:Hid (Tryz.prog.info? 5 = some i0∧i0.zero = some (.int .u8 0)∧i0.size = 1∧i0.bytes = 1):=hi
 obtain ⟨Z,z0,hZ,-⟩:=Tryz.zeroSl
 have FA:Hid (∀ w:World,Calls Tryz.prog 144 #[.string k,.string s,.int .i64 (m:Int),.int .i64 (n:Int),.int .i64 65520] w fun e w' => e = .returned (.int .i64 0)∧w = w'):=sfault_ok k s m n 65520 hk hs hm (by omega)
 have KO:Hid (∀ w:World,Tabs w→Calls Tryz.prog 145 #[.string k] w fun e w' => e = .returned (.agg (bA 64 (pairF k)))∧Below w.heap.size w w'):=fun w ht => keysOf_any k hk w ht
 have ST:Hid (∀ (q:Nat) (w:World),SealAt w q (pairF k) s (.slice (some ⟨xb,xo,none⟩) m xc)→Code8 w (some ⟨b,o,none⟩) n f→Calls Tryz.prog 147 #[.pointer (some ⟨q,0,none⟩),.slice (some ⟨b,o,none⟩) n c] w fun e w' => RetC w w' e n (streamF k s f)∧Below w.heap.size w w'):=fun q w h hc => streamed_any k s _ q b o n c f hs (by omega) hf w h hc
 have TG:Hid (∀ (q g cg:Nat) (w:World),SealAt w q (pairF k) s (.slice (some ⟨xb,xo,none⟩) m xc)→Code8 w (some ⟨xb,xo,none⟩) m fx→Code8 w (some ⟨g,0,none⟩) n (streamF k s f)→Tabs w→Calls Tryz.prog 148 #[.pointer (some ⟨q,0,none⟩),.slice (some ⟨g,0,none⟩) n cg] w fun e w' => RetM w.heap.size w' e 16 (strB (tagT k s m fx n (streamF k s f)))∧Below w.heap.size w w'):=fun q g cg w h hx hc ht => tag_any k s q xb xo m xc g 0 n cg fx _ hs hm (by omega) hfx (streamF_lt k s hf) w h hx hc ht
 have BU:Hid (Tryz.prog.built 208 [(0,.agg (bA 64 (pairF k))),(1,.string s),(2,.slice (some ⟨xb,xo,none⟩) m xc)] = some (slA (pairF k) s (.slice (some ⟨xb,xo,none⟩) m xc))):=built_sealer (pairF k) s (some ⟨xb,xo,none⟩) m xc
 have SS:Hid (∀ w:World,SealAt ((w.alloc (.cells Z 208)).setCells w.heap.size 0 (slA (pairF k) s (.slice (some ⟨xb,xo,none⟩) m xc)).toList) w.heap.size (pairF k) s (.slice (some ⟨xb,xo,none⟩) m xc)):=fun w => sealAt_stored w Z hZ _ _ _
 have SO:Hid ((slA (pairF k) s (.slice (some ⟨xb,xo,none⟩) m xc)).all (·.oneCell') = true):=slA_one _ _ _ _ _
 have SN:Hid ((slA (pairF k) s (.slice (some ⟨xb,xo,none⟩) m xc)).size = 66):=slA_size _ _ _
 have TH:Hid (∀ w:World,(w.alloc (.cells Z 208)).there w.heap.size 0 66):=fun w => there_big w Z _ hZ
 have EQ:Hid (sealedF k s m fx n f = fun i => if i < n then streamF k s f i else strB (tagT k s m fx n (streamF k s f)) (i - n)):=rfl
 rw [EQ.out]
 clear EQ
 generalize slA (pairF k) s (.slice (some ⟨xb,xo,none⟩) m xc) = SA at *
 generalize bA 64 (pairF k) = AG at *
 generalize pairF k = G at *
 generalize tagT k s m fx n (streamF k s f) = TT at *
 generalize streamF k s f = F at *
 have HX:Hid (Code8 w (some ⟨xb,xo,none⟩) m fx):=hx
 have HC:Hid (Code8 w (some ⟨b,o,none⟩) n f):=hc
 have HT:Hid (Tabs w):=ht
 clear hx hc ht hfx hf hk hs hi hZ
 go_enter_defers Tryz.func100,Tryz.ntmps100
 go_upto_region 4 with (go_at_call 144; refine (FA.out _).mono ?_; rintro e w' ⟨rfl,rfl⟩)
 refine wp_region_lit ?_
 refine wpList_plain rfl fun K1 hK1 => ?_
 go_simp
 refine hK1 _ _ ?_
 clear hK1 K1
 refine wpList_plain rfl fun K1 hK1 => ?_
 go_simp
 refine (KO.out _ HT.out).mono ?_
 rintro e w1 ⟨rfl,hb1⟩
 refine hK1 _ _ ?_
 clear hK1 K1
 refine wpList_plain rfl fun K1 hK1 => ?_
 go_simp
 refine hK1 _ _ ?_
 clear hK1 K1
 refine wpList_plain rfl fun K1 hK1 => ?_
 go_simp
 refine hK1 _ _ ?_
 clear hK1 K1
 refine wpList_buildS rfl 208 #[(0,.tmp 24),(1,.tmp 25),(2,.tmp 26)] rfl [(0,.agg AG),(1,.string s),(2,.slice (some ⟨xb,xo,none⟩) m xc)] (by simp only [List.map_toArray,List.map_cons,List.map_nil]; rfl) SA BU.out ?_
 refine wpList_plain rfl fun K1 hK1 => ?_
 go_simp
 refine hK1 _ _ ?_
 clear hK1 K1
 have B1:Hid (Below w.heap.size w w1):=hb1
 have S2:Hid (SealAt ((w1.alloc (.cells Z 208)).setCells w1.heap.size 0 SA.toList) w1.heap.size G s (.slice (some ⟨xb,xo,none⟩) m xc)):=SS.out w1
 have B2:Hid (Below w.heap.size w ((w1.alloc (.cells Z 208)).setCells w1.heap.size 0 SA.toList)):=below_setCells B1.out.size _ _ _ (B1.out.alloc B1.out.size _)
 have hq:w.heap.size≤w1.heap.size:=B1.out.size
 clear hb1 KO FA B1
 refine wpList_store_mid rfl 208 (.tmp 11) (.tmp 27) rfl w1.heap.size 0 SA rfl rfl (by rw [SN.out]; exact TH.out w1) (by rw [SN.out]; exact Tryz.sizeSl) SO.out ?_
 generalize (w1.alloc (.cells Z 208)).setCells w1.heap.size 0 SA.toList = w2 at *
 generalize w1.heap.size = q at *
 clear BU SS SO SN TH z0
 go_wp2_with fail
 refine (ST.out q w2 S2.out (HC.out.below B2.out)).mono ?_
 rintro e w3 ⟨⟨g,cg,⟨hg,hcg⟩,rfl,ho⟩,hb3⟩
 have S3:Hid (SealAt w3 q G s (.slice (some ⟨xb,xo,none⟩) m xc)):=S2.out.below hb3
 have B3:Hid (Below w.heap.size w w3):=B2.out.trans (hb3.mono B2.out.size)
 have O3:Hid (OwnC cg w3 g n F):=ho
 have hgw:w.heap.size≤g:=Nat.le_trans B2.out.size hg
 have hgq:q≠g:=by have:=S2.out.lt; omega
 clear ho hb3 hg S2 B2 HC ST
 go_wp2_with fail
 refine (TG.out q g cg w3 S3.out (HX.out.below B3.out) O3.out.code (HT.out.below B3.out)).mono ?_
 rintro e w4 ⟨⟨tg,tc,rfl,htg,hr4⟩,hb4⟩
 have S4:Hid (SealAt w4 q G s (.slice (some ⟨xb,xo,none⟩) m xc)):=S3.out.below hb4
 have B4:Hid (Below w.heap.size w w4):=B3.out.trans (hb4.mono B3.out.size)
 have O4:Hid (w4.ownsRow w.heap.size 5 1 (.slice (some ⟨g,0,none⟩) n cg) n (bv n F)):=own_of_ownC (O3.out.below hb4) hgw
 have N4:Hid (∀ j u,(bv 16 (strB TT))[j]? = some u→w4.cell? ((⟨tg,0,none⟩:Addr).add j) = some u):=bv_news hr4.code
 have hw4:w.heap.size≤w4.heap.size:=B4.out.size
 clear hr4 hb4 htg S3 B3 O3 HX HT TG
 go_wp2_with (at_builtin; refine wpList_append_own _ rfl _ _ 68 rfl w.heap.size 5 i0 (.int .u8 0) 1 1 Tryz.underlying68 HI.out.1 HI.out.2.1 HI.out.2.2.1 HI.out.2.2.2 rfl (by decide) (.slice (some ⟨g,0,none⟩) n cg) n _ rfl O4.out ⟨tg,0,none⟩ 16 tc (bv 16 (strB TT)) rfl (by rw [bv_length,Nat.mul_one]) N4.out (bv_one _ _) (by unfold maxLen; omega) (by omega) hw4 ?_)
 intro v' w5 hown hgrow hnil
 have BG:Below w.heap.size w4 w5:=(Below.refl _ w4).grown hgrow hw4 (fun b hb => (O4.out.lt b hb).1)
 have B5:Hid (Below w.heap.size w w5):=B4.out.trans BG
 have S5:SealAt w5 q G s (.slice (some ⟨xb,xo,none⟩) m xc):=World.rowIs.of_block S4.out (hgrow.block q S4.out.lt (by intro e; simp [Value.ownBlock] at e; exact hgq e))
 rw [bv_append] at hown
 obtain ⟨g5,c5,hg5,rfl,h8⟩:=own8_of_own hown hnil
 have hne:g5≠q:=fun e => by
  obtain ⟨_,_,_,⟨_,ha,_⟩,_⟩:=h8
  obtain ⟨_,hb,_⟩:=S5
  rw [e,hb] at ha
  simp at ha
 have O5:Hid (Own8 w5 g5 (n + 16) (fun i => if i < n then F i else strB TT (i - n))):=h8
 have T5:Hid (w5.there q 0 64):=S5.there
 clear hown hgrow hnil BG h8 S5 S4 B4 O4 N4
 go_wp2
 refine leaves_cons (f:=146) (args:=#[.pointer (some ⟨q,0,none⟩)]) (by simp) (by simp [go_sem]) ?_
 refine (forget_deferred q .returning _ T5.out).mono ?_
 rintro e u' w6 ⟨rfl,rfl,ho⟩
 exact ⟨_,results_tmp2 rfl _ _ _,⟨g5,c5,hg5,rfl,O5.out.onlyB ho hne⟩,B5.out.trans (ho.toBelow hq B5.out.size)⟩
end Go.Proofs.YtcpjeopnhgoonaaGreatDoor
