/-
  Texts of the proof, joined.
-/
import Derived.Test.YtcpjeopnhgoonaaGreatDoorF26
import Derived.Defers
namespace Go.Proofs.YtcpjeopnhgoonaaGreatDoor
open Go.ChangeShapes Go.WideShapes Go.ChangeAt Go.RowKit
set_option linter.unusedVariables false
theorem Row8.drewK {w:World} {b n:Nat} {t:TypeId} {f:Nat→Nat} (h:Row8 w b t n f):Row8 w.drew b t n f:=h
theorem Tryz.infoKp:(Tryz.prog.info? 205).map (fun i => (i.zero,i.size)) = some (some (.agg (Array.replicate 64 (.int .u8 0))),64):=by kernel_rfl
theorem Tryz.zeroKp:∀ w,(zeroValue 205).run Tryz.prog w = .ok (.agg (Array.replicate 64 (.int .u8 0))) w:=(zero_of_info Tryz.infoKp).1
theorem Tryz.sizeKp:(Tryz.prog.info? 205).map (·.size) = some 64:=by kernel_rfl
set_option maxRecDepth 100000 in
set_option maxHeartbeats 2000000 in
theorem keysOf_any (k:ByteArray) (hk:k.size = 32) (w:World) (ht:Tabs w) :
  Calls Tryz.prog 145 #[.string k] w fun e w' => e = .returned (.agg (bA 64 (pairF k)))∧Below w.heap.size w w':=by
 have z1:=Tryz.zeroKp
 have SZ:Hid ((Tryz.prog.info? 5).map (·.size) = some 1):=size8
 have NM1:Hid (∀ (b c:Nat) (w:World),Code8 w (some ⟨b,0,none⟩) 4 sealF→Tabs w→Calls Tryz.prog 186 #[.slice (some ⟨b,0,none⟩) 4 c] w fun e w' => e = .returned (.agg (bA 64 (Sha.keyF 4 sealF)))∧Below w.heap.size w w'):=fun b c w h ht => newMacKey_any b 0 4 c sealF sealF_lt (by omega) w h ht
 have NM2:Hid (∀ (b c:Nat) (w:World),Code8 w (some ⟨b,0,none⟩) 32 (strB (secS k))→Tabs w→Calls Tryz.prog 186 #[.slice (some ⟨b,0,none⟩) 32 c] w fun e w' => e = .returned (.agg (bA 64 (Sha.keyF 32 (strB (secS k)))))∧Below w.heap.size w w'):=fun b c w h ht => newMacKey_any b 0 32 c _ (strB_lt _) (by omega) w h ht
 have MA:Hid (∀ (b c:Nat) (w:World),Code8 w (some ⟨b,0,none⟩) 32 (strB k)→Tabs w→Calls Tryz.prog 187 #[.agg (bA 64 (Sha.keyF 4 sealF)),.slice (some ⟨b,0,none⟩) 32 c] w fun e w' => e = .returned (.string (secS k))∧Below w.heap.size w w'):=fun b c w h ht => mac_any (Sha.keyF 4 sealF) (Sha.keyF_lt sealF_lt) b 0 32 c (strB k) (strB_lt k) (by omega) w h ht
 have DR:Hid (∀ (b c:Nat) (w:World),Code8 w (some ⟨b,0,none⟩) 4 keysF→Tabs w→Calls Tryz.prog 188 #[.agg (bA 64 (Sha.keyF 32 (strB (secS k)))),.slice (some ⟨b,0,none⟩) 4 c,.int .i64 64] w fun e w' => e = .returned (.string (kstr (pairF k) 0 64))∧Below w.heap.size w w'):=fun b c w h ht => drawn_any (Sha.keyF 32 (strB (secS k))) (Sha.keyF_lt (strB_lt _)) b 0 4 c 64 keysF keysF_lt (by omega) (by omega) w h ht
 have hss:(secS k).size = 32:=secS_size k
 have lG:∀ i,pairF k i < 256:=pairF_lt k
 generalize pairF k = G at *
 generalize secS k = SE at *
 generalize bA 64 (Sha.keyF 4 sealF) = K1 at *
 generalize bA 64 (Sha.keyF 32 (strB SE)) = K2 at *
 have HT:Hid (Tabs w):=ht
 have hbs:(kstr G 0 64).size = 64:=kstr_size _ _ _
 have hx1:(kstr G 0 64).extract 0 32 = kstr G 0 32:=by
  have:=kstr_extract (kstr G 0 64) 0 32 (by rw [hbs]; omega)
  rw [Nat.zero_add] at this
  rw [this]
  exact kstr_congr (fun i hi => by rw [Nat.zero_add,strB_kstr _ 0 64 i (by rw [Nat.zero_add]; exact lG _) (by omega),Nat.zero_add])
 have hx2:(kstr G 0 64).extract 32 64 = kstr G 32 32:=by
  have:=kstr_extract (kstr G 0 64) 32 32 (by rw [hbs]; omega)
  rw [this]
  exact kstr_congr (fun i hi => by rw [strB_kstr _ 0 64 (32 + i) (by rw [Nat.zero_add]; exact lG _) (by omega),Nat.zero_add])
 clear ht
 go_enter Tryz.func145,Tryz.ntmps145
 go_upto_region 1 with fail
 have A0:Below w.heap.size w (w.alloc (.cells (Array.replicate 64 (.int .u8 0)) 205)):=(Below.refl _ _).alloc (Nat.le_refl _) _
 have R0:Hid (Row8 (w.alloc (.cells (Array.replicate 64 (.int .u8 0)) 205)) w.heap.size 205 64 (fun _ => 0)):=Row8.zerosAt rfl _ _
 have B0:Hid (Below w.heap.size w (w.alloc (.cells (Array.replicate 64 (.int .u8 0)) 205))):=A0
 generalize w.alloc (.cells (Array.replicate 64 (.int .u8 0)) 205) = w0 at *
 have hcv1:=conv_rowS w0 #[.int .u8 115,.int .u8 101,.int .u8 97,.int .u8 108] 4 4
 have AA:Below w0.heap.size w0 (w0.alloc (.cells #[.int .u8 115,.int .u8 101,.int .u8 97,.int .u8 108] 5 (4,5))):=(Below.refl _ _).alloc (Nat.le_refl _) _
 have HAA:Hid _:=AA
 have HT1:Hid (Tabs (w0.alloc (.cells #[.int .u8 115,.int .u8 101,.int .u8 97,.int .u8 108] 5 (4,5)))):=(HT.out.below A0).below AA
 clear AA A0
 go_wp2_with fail
 refine (NM1.out w0.heap.size 4 _ (seal_code w0) HT1.out).mono ?_
 rintro e w1 ⟨rfl,hb1⟩
 have B1:Hid (Below w.heap.size w w1):=B0.out.trans ((HAA.out.trans (hb1.mono HAA.out.size)).mono B0.out.size)
 have R1:Hid (Row8 w1 w.heap.size 205 64 (fun _ => 0)):=R0.out.below (HAA.out.trans (hb1.mono HAA.out.size))
 clear hb1 HAA HT1 R0 B0 hcv1 NM1
 generalize w0.heap.size = b0 at *
 obtain ⟨w2,c2,hcv2,hk2,hb2,_⟩:=bytesOfM k w1
 rw [hk] at hcv2 hk2
 have HK2:Hid (Code8 w2 (some ⟨w1.heap.size,0,none⟩) 32 (strB k)):=hk2
 have B2:Hid (Below w.heap.size w w2):=B1.out.trans (hb2.mono B1.out.size)
 have R2:Hid (Row8 w2 w.heap.size 205 64 (fun _ => 0)):=R1.out.below hb2
 clear hk2 hb2 B1 R1
 generalize w1.heap.size = b1 at *
 go_wp2_with fail
 refine (MA.out b1 c2 _ HK2.out (HT.out.below B2.out)).mono ?_
 rintro e w3 ⟨rfl,hb3⟩
 have B3:Hid (Below w.heap.size w w3):=B2.out.trans (hb3.mono B2.out.size)
 have R3:Hid (Row8 w3 w.heap.size 205 64 (fun _ => 0)):=R2.out.below hb3
 clear hb3 B2 R2 HK2 hcv2 MA
 obtain ⟨w4,c4,hcv4,hk4,hb4,_⟩:=bytesOfM SE w3
 rw [hss] at hcv4 hk4
 have HK4:Hid (Code8 w4 (some ⟨w3.heap.size,0,none⟩) 32 (strB SE)):=hk4
 have B4:Hid (Below w.heap.size w w4):=B3.out.trans (hb4.mono B3.out.size)
 have R4:Hid (Row8 w4 w.heap.size 205 64 (fun _ => 0)):=R3.out.below hb4
 clear hk4 hb4 B3 R3
 generalize w3.heap.size = b3 at *
 go_wp2_with fail
 refine (NM2.out b3 c4 _ HK4.out (HT.out.below B4.out)).mono ?_
 rintro e w5 ⟨rfl,hb5⟩
 have B5:Hid (Below w.heap.size w w5):=B4.out.trans (hb5.mono B4.out.size)
 have R5:Hid (Row8 w5 w.heap.size 205 64 (fun _ => 0)):=R4.out.below hb5
 clear hb5 B4 R4 HK4 hcv4 NM2
 have hcv5:=conv_rowS w5 #[.int .u8 107,.int .u8 101,.int .u8 121,.int .u8 115] 4 4
 have AA:Below w5.heap.size w5 (w5.alloc (.cells #[.int .u8 107,.int .u8 101,.int .u8 121,.int .u8 115] 5 (4,5))):=(Below.refl _ _).alloc (Nat.le_refl _) _
 have B6:Hid (Below w.heap.size w (w5.alloc (.cells #[.int .u8 107,.int .u8 101,.int .u8 121,.int .u8 115] 5 (4,5)))):=B5.out.trans (AA.mono B5.out.size)
 have R6:Hid (Row8 (w5.alloc (.cells #[.int .u8 107,.int .u8 101,.int .u8 121,.int .u8 115] 5 (4,5))) w.heap.size 205 64 (fun _ => 0)):=R5.out.below AA
 clear AA B5 R5
 go_wp2_with fail
 refine (DR.out w5.heap.size 4 _ (keys_code w5) (HT.out.below B6.out)).mono ?_
 rintro e w7 ⟨rfl,hb7⟩
 have B7:Hid (Below w.heap.size w w7):=B6.out.trans (hb7.mono B6.out.size)
 have R7:Hid (Row8 w7 w.heap.size 205 64 (fun _ => 0)):=R6.out.below hb7
 clear hb7 B6 R6 hcv5 DR HT
 generalize hBO:kstr G 0 64 = BO at *
 have hS1:(kstr G 0 32).size = 32:=kstr_size _ _ _
 have hS2:(kstr G 32 32).size = 32:=kstr_size _ _ _
 have HE1:Hid (∀ i,i < 32→strB (kstr G 0 32) i = G i):=fun i hi => by rw [strB_kstr _ 0 32 i (by rw [Nat.zero_add]; exact lG _) hi,Nat.zero_add]
 have HE2:Hid (∀ i,i < 32→strB (kstr G 32 32) i = G (32 + i)):=fun i hi => by rw [strB_kstr _ 32 32 i (lG _) hi]
 clear hBO lG
 generalize kstr G 0 32 = S1 at *
 generalize kstr G 32 32 = S2 at *
 generalize w5.heap.size = b5 at *
 have Q8:Hid (Row8 (w7.alloc (.cells (Array.replicate 64 (.int .u8 0)) 205)) w7.heap.size 205 64 (fun _ => 0)):=Row8.zerosAt rfl _ _
 have P8:Hid (Row8 (w7.alloc (.cells (Array.replicate 64 (.int .u8 0)) 205)) w.heap.size 205 64 (fun _ => 0)):=R7.out.alloc _
 have B8:Hid (Below w.heap.size w (w7.alloc (.cells (Array.replicate 64 (.int .u8 0)) 205))):=B7.out.alloc B7.out.size _
 have hq:w.heap.size < w7.heap.size:=R7.out.lt
 go_upto_region 4 with fail
 generalize w7.alloc (.cells (Array.replicate 64 (.int .u8 0)) 205) = w8 at *
 generalize w7.heap.size = q at *
 clear B7 R7
 refine wp_region_noPanic ?_
 refine wp_region_held_drew (S:=fun _ => True) (by kernel_rfl) trivial (fun _ => ?_)
 refine wpAnyH_take (i:=0) (v:=.pointer (some ⟨q,0,none⟩)) rfl (by kernel_rfl) (by kernel_rfl) (by kernel_rfl) (fun _ _ _ h => h) (Or.inl ⟨by rfl,?_⟩) trivial ?_
 ·intro w' hSw; go_simp
 refine ch29 ?_
 refine wpAnyH_take (i:=1) (v:=.slice (some ⟨q,0,none⟩) 32 32) rfl (by kernel_rfl) (by kernel_rfl) (by kernel_rfl) (fun _ _ _ h => h) (Or.inl ⟨by rfl,?_⟩) trivial ?_
 ·intro w' hSw; go_simp
 refine ch29 ?_
 refine wpAnyH_take (i:=2) (v:=.string BO) rfl (by kernel_rfl) (by kernel_rfl) (by kernel_rfl) (fun _ _ _ h => h) (Or.inl ⟨by rfl,?_⟩) trivial ?_
 ·intro w' hSw; go_simp
 refine ch29 ?_
 refine wpAnyH_take (i:=3) (v:=.string S1) rfl (by kernel_rfl) (by kernel_rfl) (by kernel_rfl) (fun _ _ _ h => h) (Or.inl ⟨by rfl,?_⟩) trivial ?_
 ·intro w' hSw; go_simp
 refine ch29 ?_
 have Qd8:Row8 w8.drew q 205 64 (fun _ => 0):=Q8.out.drewK
 have Pd8:Row8 w8.drew w.heap.size 205 64 (fun _ => 0):=P8.out.drewK
 have CP:∀ ty,(Builtin.copy_ #[68,9] ty #[.slice (some ⟨q,0,none⟩) 32 32,.string S1]).run Tryz.prog w8.drew = .ok (goInt 32) (w8.drew.setCells q 0 (bv 32 (strB S1))):=fun ty => by
  have h:=run_copy_leM (P:=Tryz.prog) w8.drew 68 9 ty 5 q 0 32 32 S1 (bv 32 (strB S1)) Tryz.underlying68 SZ.out (by omega) (bv_textM S1 32 (by omega)) (fun j hj => by rw [bv_length] at hj; have:=(Qd8.there (0 + j) (by omega)).1; rwa [Nat.zero_add] at this) (fun j hj => by rw [bv_length] at hj; have:=(Qd8.there (0 + j) (by omega)).2; rwa [Nat.zero_add] at this)
  rw [bv_length] at h
  exact h
 have Q9:Hid (Row8 (w8.drew.setCells q 0 (bv 32 (strB S1))) q 205 64 (fun i => if i < 32 then G i else 0)):=(rowIs_setCells (bv 32 (strB S1)) 0 w8.drew _ Qd8).congr (fun i hi => by
  rw [bv_length]
  show _ = Value.int .u8 (((if i < 32 then G i else 0):Nat):Int)
  by_cases h:i < 32
  ·rw [if_pos (by omega),Nat.sub_zero,List.getD_eq_getElem?_getD,bv_at h,if_pos h,HE1.out i h]; rfl
  ·rw [if_neg (by omega),if_neg h])
 have P9:Hid (Row8 (w8.drew.setCells q 0 (bv 32 (strB S1))) w.heap.size 205 64 (fun _ => 0)):=Pd8.storedOther (by omega) _ _
 have B9:Hid (Below w.heap.size w (w8.drew.setCells q 0 (bv 32 (strB S1)))):=below_setCells (by omega) _ _ _ B8.out.drew
 refine wpAnyH_ready (rs:=[4]) (by kernel_rfl) (by simp) ?_
 refine AllReadyH.cons rfl (fun KK hK => ?_) AllReadyH.nil
 go_simp
 refine hK.out _ _ trivial (fun _ => ?_)
 clear hK KK CP Q8 P8 B8 Qd8 Pd8
 generalize w8.drew.setCells q 0 (bv 32 (strB S1)) = w9 at *
 refine ch29 ?_
 refine wpAnyH_done (by kernel_rfl) ?_ _
 refine NoPanic.normal ?_
 go_upto_region 5 with fail
 refine wp_region_noPanic ?_
 refine wp_region_held_drew (S:=fun _ => True) (by kernel_rfl) trivial (fun _ => ?_)
 refine wpAnyH_take (i:=0) (v:=.pointer (some ⟨q,32,none⟩)) rfl (by kernel_rfl) (by kernel_rfl) (by kernel_rfl) (fun _ _ _ h => h) (Or.inl ⟨by rfl,?_⟩) trivial ?_
 ·intro w' hSw; go_simp
 refine ch29 ?_
 refine wpAnyH_take (i:=1) (v:=.slice (some ⟨q,32,none⟩) 32 32) rfl (by kernel_rfl) (by kernel_rfl) (by kernel_rfl) (fun _ _ _ h => h) (Or.inl ⟨by rfl,?_⟩) trivial ?_
 ·intro w' hSw; go_simp
 refine ch29 ?_
 refine wpAnyH_take (i:=2) (v:=.string BO) rfl (by kernel_rfl) (by kernel_rfl) (by kernel_rfl) (fun _ _ _ h => h) (Or.inl ⟨by rfl,?_⟩) trivial ?_
 ·intro w' hSw; go_simp
 refine ch29 ?_
 refine wpAnyH_take (i:=3) (v:=.string S2) rfl (by kernel_rfl) (by kernel_rfl) (by kernel_rfl) (fun _ _ _ h => h) (Or.inl ⟨by rfl,?_⟩) trivial ?_
 ·intro w' hSw; go_simp
 refine ch29 ?_
 have Qd9:Row8 w9.drew q 205 64 (fun i => if i < 32 then G i else 0):=Q9.out.drewK
 have Pd9:Row8 w9.drew w.heap.size 205 64 (fun _ => 0):=P9.out.drewK
 have CP:∀ ty,(Builtin.copy_ #[68,9] ty #[.slice (some ⟨q,32,none⟩) 32 32,.string S2]).run Tryz.prog w9.drew = .ok (goInt 32) (w9.drew.setCells q 32 (bv 32 (strB S2))):=fun ty => by
  have h:=run_copy_leM (P:=Tryz.prog) w9.drew 68 9 ty 5 q 32 32 32 S2 (bv 32 (strB S2)) Tryz.underlying68 SZ.out (by omega) (bv_textM S2 32 (by omega)) (fun j hj => by rw [bv_length] at hj; have:=(Qd9.there (32 + j) (by omega)).1; rwa [Nat.zero_add] at this) (fun j hj => by rw [bv_length] at hj; have:=(Qd9.there (32 + j) (by omega)).2; rwa [Nat.zero_add] at this)
  rw [bv_length] at h
  exact h
 have Q10:Hid (Row8 (w9.drew.setCells q 32 (bv 32 (strB S2))) q 205 64 G):=(rowIs_setCells (bv 32 (strB S2)) 32 w9.drew _ Qd9).congr (fun i hi => by
  rw [bv_length]
  show (if 32≤i∧i < 32 + 32 then _ else Value.int .u8 (((if i < 32 then G i else 0):Nat):Int)) = _
  by_cases h:32≤i
  ·rw [if_pos (by omega),List.getD_eq_getElem?_getD,bv_at (by omega),HE2.out (i - 32) (by omega),show 32 + (i - 32) = i from by omega]; rfl
  ·rw [if_neg (by omega),if_pos (by omega)])
 have P10:Hid (Row8 (w9.drew.setCells q 32 (bv 32 (strB S2))) w.heap.size 205 64 (fun _ => 0)):=Pd9.storedOther (by omega) _ _
 have B10:Hid (Below w.heap.size w (w9.drew.setCells q 32 (bv 32 (strB S2)))):=below_setCells (by omega) _ _ _ B9.out.drew
 refine wpAnyH_ready (rs:=[4]) (by kernel_rfl) (by simp) ?_
 refine AllReadyH.cons rfl (fun KK hK => ?_) AllReadyH.nil
 go_simp
 refine hK.out _ _ trivial (fun _ => ?_)
 clear hK KK CP Q9 P9 B9 Qd9 Pd9
 generalize w9.drew.setCells q 32 (bv 32 (strB S2)) = w10 at *
 refine ch29 ?_
 refine wpAnyH_done (by kernel_rfl) ?_ _
 refine NoPanic.normal ?_
 go_upto_region 6 with fail
 refine wp_region_lit ?_
 refine wpList_load_mid rfl 205 (.tmp 5) rfl q 0 rfl (bv 64 G) _ Q10.out.range Tryz.underlying205 rfl (by rw [bv_length]; exact Tryz.sizeKp) ?_
 refine wpList_store_mid rfl 205 (.tmp 2) (.tmp 28) rfl w.heap.size 0 (bA 64 G) rfl rfl (by rw [bA_size]; exact P10.out.there) (by rw [bA_size]; exact Tryz.sizeKp) (bA_one _ _) ?_
 rw [bA_toList]
 have L:Hid ((loadVar 205 ⟨w.heap.size,0,none⟩).run Tryz.prog (w10.setCells (w.heap.size) 0 (bv 64 G)) = .ok (.agg (bA 64 G)) (w10.setCells (w.heap.size) 0 (bv 64 G))):=(P10.out.stored _).load Tryz.underlying205 rfl Tryz.sizeKp
 have B:Hid (Below w.heap.size w (w10.setCells (w.heap.size) 0 (bv 64 G))):=below_setCells (Nat.le_refl _) _ _ _ B10.out
 have eA:(bv 64 G).toArray = bA 64 G:=rfl
 rw [eA]
 generalize w10.setCells (w.heap.size) 0 (bv 64 G) = wf at *
 generalize hA:bA 64 G = AA at *
 have HA:Hid (bA 64 G = AA):=hA
 clear hA eA hx1 hx2 hbs hS1 hS2 hss hk z1 hq Q10 P10 B10 HE1 HE2 SZ
 go_wp2
 rw [HA.out]
 change bodyPost _ _ _ _ { tmps:=#[_,_,_,_,_,_,_,_,_,_,_,_,_,_,_,_,_,_,_,_,_,_,_,_,_,_,_,_,_],defers:=[] } _
 exact bodyPost_ret (v:=.agg AA) (results_cell_one (b:=w.heap.size) (o:=0) Tryz.results145 _ _ _ rfl L.out) rfl ⟨rfl,B.out⟩
theorem onlyB_setCellsK {b:Nat} {a:World} (vs:List Value):∀ (o:Nat) (w:World),OnlyB b a w→OnlyB b a (w.setCells b o vs):=by
 induction vs with
 | nil => intro o w h; exact h
 | cons v vs ih => intro o w h; exact ih (o + 1) _ (h.setCell o v)
theorem zeros_one:(Array.replicate 64 (Value.int .u8 0)).all (·.oneCell') = true:=by kernel_rfl
set_option maxRecDepth 100000 in
theorem forget_deferred (b:Nat) (u:FrameMode) (w:World) (hth:w.there b 0 64) :
  CallsD Tryz.prog 146 #[.pointer (some ⟨b,0,none⟩)] u w fun e u' w' => u' = u∧(e = .returned (.tuple #[])∧OnlyB b w w'):=by
 have z1:=Tryz.zeroKp
 have zs:Hid ((Array.replicate 64 (Value.int .u8 0)).size = 64):=Array.size_replicate
 have zo:Hid ((Array.replicate 64 (Value.int .u8 0)).all (·.oneCell') = true):=zeros_one
 generalize Array.replicate 64 (Value.int .u8 0) = Z at *
 have TH:Hid (w.there b 0 Z.size):=by show w.there b 0 Z.size; rw [zs.out]; exact hth
 have SZ:Hid ((Tryz.prog.info? 205).map (·.size) = some Z.size):=by show _ = _; rw [zs.out]; exact Tryz.sizeKp
 have O:Hid (OnlyB b w (w.setCells b 0 Z.toList)):=onlyB_setCellsK _ _ _ (OnlyB.refl _ _)
 clear hth
 go_enter_d Tryz.func146,Tryz.ntmps146
 go_wp2_with (refine wpList_store_mid rfl 205 (.tmp 4) (.tmp 3) rfl b 0 Z rfl rfl TH.out SZ.out zo.out ?_; generalize w.setCells b 0 Z.toList = wf at *)
 go_end0
 exact ⟨rfl,O.out⟩
def slV (G:Nat→Nat) (s:ByteArray) (x:Value) (i:Nat):Value:=if i < 64 then .int .u8 (G i:Nat) else if i = 64 then .string s else x
def SealAt (w:World) (q:Nat) (G:Nat→Nat) (s:ByteArray) (x:Value):Prop:=w.rowIs q 208 66 (slV G s x)
theorem SealAt.below {w w':World} {q:Nat} {G:Nat→Nat} {s:ByteArray} {x:Value} (h:SealAt w q G s x) (hb:Below w.heap.size w w'):SealAt w' q G s x:=World.rowIs.of_block h (hb.block q (World.rowIs.lt h))
theorem SealAt.lt {w:World} {q:Nat} {G:Nat→Nat} {s:ByteArray} {x:Value} (h:SealAt w q G s x):q < w.heap.size:=World.rowIs.lt h
theorem SealAt.drew {w:World} {q:Nat} {G:Nat→Nat} {s:ByteArray} {x:Value} (h:SealAt w q G s x):SealAt w.drew q G s x:=h
theorem SealAt.part {w:World} {q:Nat} {G:Nat→Nat} {s:ByteArray} {x:Value} (h:SealAt w q G s x) (o m:Nat) (hm:o + m≤64):Code8 w (some ⟨q,o,none⟩) m (fun i => G (o + i)):=code8_of (fun i hi => by
 rw [World.rowIs.cell h (by omega)]
 unfold slV
 rw [if_pos (by omega)])
theorem SealAt.nonce {w:World} {q:Nat} {G:Nat→Nat} {s:ByteArray} {x:Value} (h:SealAt w q G s x):w.cell? ⟨q,64,none⟩ = some (.string s):=World.rowIs.cell h (i:=64) (by omega)
theorem SealAt.extra {w:World} {q:Nat} {G:Nat→Nat} {s:ByteArray} {x:Value} (h:SealAt w q G s x):w.cell? ⟨q,65,none⟩ = some x:=World.rowIs.cell h (i:=65) (by omega)
theorem SealAt.there {w:World} {q:Nat} {G:Nat→Nat} {s:ByteArray} {x:Value} (h:SealAt w q G s x):w.there q 0 64:=fun j hj => by
 rw [Nat.zero_add]
 exact ⟨by rw [World.rowIs.cell h (by omega)]; rfl,World.rowIs.frozen h j⟩
def streamF (k s:ByteArray) (f:Nat→Nat):Nat→Nat:=ctrF (Gf.ws (strB (encS k)) 8 (3 * 8 + 28)) (8 + 6) (strB s) f
set_option maxRecDepth 100000 in
set_option maxHeartbeats 2000000 in
theorem streamed_any (k s:ByteArray) (x:Value) (q b o n c:Nat) (f:Nat→Nat) (hs:s.size = 12) (hn:n≤65536) (hf:∀ i,f i < 256) (w:World) (h:SealAt w q (pairF k) s x) (hc:Code8 w (some ⟨b,o,none⟩) n f) :
  Calls Tryz.prog 147 #[.pointer (some ⟨q,0,none⟩),.slice (some ⟨b,o,none⟩) n c] w fun e w' => RetC w w' e n (streamF k s f)∧Below w.heap.size w w':=by
 have CX:Hid (∀ w:World,Code8 w (some ⟨b,o,none⟩) n f→Calls Tryz.prog 189 #[.string (encS k),.string s,.slice (some ⟨b,o,none⟩) n c] w fun e w' => RetC2 w w' e n (streamF k s f) (.int .i64 0)∧Below w.heap.size w w'):=fun w h => implCtrC_yes (encS k) s 8 b o n c f (.inr rfl) (by rw [encS_size]) hs hn hf w h
 have hE:kstr (fun i => pairF k (0 + i)) 0 32 = encS k:=kstr_congr (fun i _ => by rw [Nat.zero_add,Nat.zero_add])
 have HE:Hid (kstr (fun i => pairF k (0 + i)) 0 32 = encS k):=hE
 have HS:Hid (SealAt w q (pairF k) s x):=h
 have HC:Hid (Code8 w (some ⟨b,o,none⟩) n f):=hc
 clear h hc hE hf
 generalize pairF k = G at *
 generalize encS k = E at *
 generalize streamF k s f = F at *
 go_enter Tryz.func147,Tryz.ntmps147
 go_upto_region 1 with fail
 have H:=HS.out.drew
 refine wp_region_noPanic ?_
 refine wp_region_held_drew (S:=fun w' => SealAt w' q G s x) (by kernel_rfl) H (fun _ => ?_)
 refine tkH (i:=0) (v:=.pointer (some ⟨q,0,none⟩)) rfl (by kernel_rfl) (by rfl) ?_ H ?_
 ·intro w' hSw; go_simp
 refine ch23 ?_
 refine tkH (i:=1) (v:=.pointer (some ⟨q,0,none⟩)) rfl (by kernel_rfl) (by rfl) ?_ H ?_
 ·intro w' hSw; go_simp
 refine ch23 ?_
 refine tkH (i:=2) (v:=.pointer (some ⟨q,0,none⟩)) rfl (by kernel_rfl) (by rfl) ?_ H ?_
 ·intro w' hSw; go_simp
 refine ch23 ?_
 refine tkH (i:=3) (v:=.pointer (some ⟨q,0,none⟩)) rfl (by kernel_rfl) (by rfl) ?_ H ?_
 ·intro w' hSw; go_simp
 refine ch23 ?_
 refine tkH (i:=4) (v:=.slice (some ⟨q,0,none⟩) 32 32) rfl (by kernel_rfl) (by rfl) ?_ H ?_
 ·intro w' hSw; go_simp
 refine ch23 ?_
 refine tkH (i:=5) (v:=.string E) rfl (by kernel_rfl) (by rfl) ?_ H ?_
 ·intro w' hSw; have:=kstr_of_code (c:=32) (hSw.part 0 32 (by omega)); rw [HE.out] at this; clear hSw; go_simp
 refine ch23 ?_
 refine tkH (i:=6) (v:=.pointer (some ⟨q,0,none⟩)) rfl (by kernel_rfl) (by rfl) ?_ H ?_
 ·intro w' hSw; go_simp
 refine ch23 ?_
 refine tkH (i:=7) (v:=.pointer (some ⟨q,0,none⟩)) rfl (by kernel_rfl) (by rfl) ?_ H ?_
 ·intro w' hSw; go_simp
 refine ch23 ?_
 refine tkH (i:=8) (v:=.pointer (some ⟨q,64,none⟩)) rfl (by kernel_rfl) (by rfl) ?_ H ?_
 ·intro w' hSw; go_simp
 refine ch23 ?_
 refine tkH (i:=9) (v:=.string s) rfl (by kernel_rfl) (by rfl) ?_ H ?_
 ·intro w' hSw; have:=hSw.nonce; clear hSw; go_simp
 refine ch23 ?_
 refine tkH (i:=10) (v:=.slice (some ⟨b,o,none⟩) n c) rfl (by kernel_rfl) (by rfl) ?_ H ?_
 ·intro w' hSw; go_simp
 refine ch23 ?_
 refine wpAnyH_ready (rs:=[11]) (by kernel_rfl) (by simp) ?_
 refine AllReadyH.cons rfl (fun KK hK => ?_) AllReadyH.nil
 go_simp
 refine (CX.out w.drew (HC.out.below (Below.refl _ w).drew)).mono ?_
 rintro e w1 ⟨⟨g,cg,⟨hg,hcg⟩,rfl,ho⟩,hb⟩
 have HO:Hid (OwnC cg w1 g n F):=ho
 have hB:Below w.heap.size w w1:=(Below.refl _ w).drew.trans hb
 have HB:Hid (Below w.heap.size w w1):=hB
 have HG:Hid (w.heap.size≤g∧n≤cg):=⟨hg,hcg⟩
 replace H:SealAt w1 q G s x:=H.below hb
 clear ho hb hB hg hcg
 refine hK.out _ _ H (fun _ => ?_)
 clear hK KK
 refine ch23 ?_
 refine tkH (i:=12) (v:=.tuple #[.slice (some ⟨g,0,none⟩) n cg,.int .i64 0]) rfl (by kernel_rfl) (by rfl) ?_ H ?_
 ·intro w' hSw; go_simp
 refine ch23 ?_
 refine tkH (i:=13) (v:=.slice (some ⟨g,0,none⟩) n cg) rfl (by kernel_rfl) (by rfl) ?_ H ?_
 ·intro w' hSw; go_simp
 refine ch23 ?_
 refine tkH (i:=14) (v:=.int .i64 0) rfl (by kernel_rfl) (by rfl) ?_ H ?_
 ·intro w' hSw; go_simp
 refine ch23 ?_
 refine tkH (i:=15) (v:=.slice (some ⟨g,0,none⟩) n cg) rfl (by kernel_rfl) (by rfl) ?_ H ?_
 ·intro w' hSw; go_simp
 refine ch23 ?_
 refine tkH (i:=16) (v:=.int .i64 0) rfl (by kernel_rfl) (by rfl) ?_ H ?_
 ·intro w' hSw; go_simp
 refine ch23 ?_
 clear H
 refine wpAnyH_done (by kernel_rfl) ?_ _
 refine NoPanic.normal ?_
 go_wp2
 go_ret
 exact ⟨⟨g,cg,HG.out,rfl,HO.out⟩,HB.out⟩
end Go.Proofs.YtcpjeopnhgoonaaGreatDoor
