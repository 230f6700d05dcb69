/-
  Texts of the proof, joined.
-/
import Derived.Test.YtcpjeopnhgoonaaGreatDoorF17
namespace Go.Proofs.YtcpjeopnhgoonaaGreatDoor
open Go.ChangeShapes Go.WideShapes Go.ChangeAt Go.RowKit
set_option linter.unusedVariables false
theorem e8_xor (a b:Nat) (ha:a < 256) (hb:b < 256):bits .xor .u8 (a:Int) (b:Int) = ((a ^^^ b:Nat):Int):=by
 have hx:a ^^^ b < 2 ^ 8:=Nat.xor_lt_two_pow (by omega) (by omega)
 show ((BitVec.ofInt 8 (a:Int) ^^^ BitVec.ofInt 8 (b:Int)).toNat:Int) % 256 = _
 rw [BitVec.toNat_xor,BitVec.ofInt_natCast,BitVec.toNat_ofNat,BitVec.ofInt_natCast,BitVec.toNat_ofNat,Nat.mod_eq_of_lt (by omega),Nat.mod_eq_of_lt (by omega)]
 omega
theorem run_copy_leM {P:Program} (w:World) (dT sT ty elem:TypeId) (b o dLen dCap:Nat) (s:ByteArray) (cs:List Value)
  (hu:P.underlying dT = some (.slice elem)) (hs:(P.info? elem).map (·.size) = some 1) (hn:s.size≤dLen) (hcs:cs = s.data.toList.map (fun b => .int .u8 b.toNat))
  (hc:∀ j,j < cs.length→(w.cell? ⟨b,o + j,none⟩).isSome = true) (hf:∀ j,j < cs.length→w.frozen? ⟨b,o + j,none⟩ = false) :
  (Builtin.copy_ #[dT,sT] ty #[.slice (some ⟨b,o,none⟩) dLen dCap,.string s]).run P w = .ok (goInt cs.length) (w.setCells b o cs):=by
 have h1:∀ v ∈ cs,v.oneCell' = true:=fun v hv => by
  rw [hcs] at hv
  obtain ⟨x,_,rfl⟩:=List.mem_map.1 hv
  rfl
 have hst:=run_storeCells_cells (P:=P) b o cs 0 w (by simpa using hc) (by simpa using hf) h1
 cases hq:P.info? elem with
 | none => simp [hq] at hs
 | some i =>
  have hl:s.data.toList.length = s.size:=by simp
  have hcl:cs.length = s.size:=by rw [hcs,List.length_map,hl]
  have hm:min s.size dLen = s.size:=Nat.min_eq_left hn
  simp [Builtin.copy_,run_underlying hu,Builtin.lenOf,Builtin.firstCells,sizeOf,typeInfo,hq,hm]
  rw [← hcs,List.take_of_length_le (by omega),hst,hcl]
  rfl
theorem bv_textM (s:ByteArray) (n:Nat) (h:s.size = n):bv n (strB s) = s.data.toList.map (fun b => .int .u8 b.toNat):=by
 apply List.ext_getElem
 ·rw [bv_length]; simp [h]
 ·intro i h1 h2
  have hi:i < n:=by rwa [bv_length] at h1
  have hi':i < s.size:=by omega
  have e:=bv_at (n:=n) (f:=strB s) hi
  rw [List.getElem?_eq_getElem h1] at e
  rw [Option.some.inj e,List.getElem_map,← ba_get s i hi']
  simp [strB,hi']
theorem bytesOfM (s:ByteArray) (w:World):∃ wz gc,(convert 9 68 (.string s)).run Tryz.prog w = .ok (.slice (some ⟨w.heap.size,0,none⟩) s.size gc) wz∧Code8 wz (some ⟨w.heap.size,0,none⟩) s.size (strB s)∧Below w.heap.size w wz∧s.size≤gc:=by
 refine ⟨_,_,run_bytes_of_string w 9 68 5 s Tryz.underlying9 Tryz.underlying68 Tryz.underlying5,code8_of (fun r hr => ?_),(Below.refl _ _).drew.alloc (Nat.le_refl _) _,grownCap_ge _ _ _ _⟩
 have hd:r < s.data.size:=hr
 have hrow:=bytesRow_at s (grownCap w s.size 0 5) r hd
 have hlt:r < (bytesRow s (grownCap w s.size 0 5)).size:=by
  rcases Nat.lt_or_ge r (bytesRow s (grownCap w s.size 0 5)).size with h | h
  ·exact h
  ·rw [Array.getElem?_eq_none h] at hrow; cases hrow
 rw [Nat.zero_add]
 have e:=World.cell?_alloc_mark w.drew (bytesRow s (grownCap w s.size 0 5)) 5 ((bytesRow s (grownCap w s.size 0 5)).size,(bytesRow s (grownCap w s.size 0 5)).size + 1) r
 refine e.trans ?_
 rw [hrow]
 simp [strB,hr,ByteArray.getElem_eq_getElem_data]
theorem Tryz.infoMk:(Tryz.prog.info? 238).map (fun i => (i.zero,i.size)) = some (some (.agg (Array.replicate 64 (.int .u8 0))),64):=by kernel_rfl
theorem Tryz.zeroMk:∀ w,(zeroValue 238).run Tryz.prog w = .ok (.agg (Array.replicate 64 (.int .u8 0))) w:=(zero_of_info Tryz.infoMk).1
theorem Tryz.sizeMk:(Tryz.prog.info? 238).map (·.size) = some 64:=by kernel_rfl
set_option maxRecDepth 100000 in
set_option maxHeartbeats 1000000 in
theorem masked_any (k:Nat→Nat) (m:Nat) (hk:∀ i,k i < 256) (hm:m < 256) (w:World) :
  Calls Tryz.prog 203 #[.agg (bA 64 k),.int .u8 (m:Int)] w fun e w' => RetB w w' e 64 (Sha.maskF k m)∧Below w.heap.size w w':=by
 have m64:∀ w:World,(Instr.makeSlice 68 (.int .i64 64) (.int .i64 64)).run Tryz.prog w = .ok (.slice (some ⟨w.heap.size,0,none⟩) 64 64) (w.alloc (.cells (madeCells #[.int .u8 0] 64) 5)):=mkBytes 64 (by omega)
 have HK:Hid (∀ i,k i < 256):=hk
 have K0:Hid (Row8 ((w.alloc (.cells (bA 64 k) 238)).alloc (.cells (madeCells #[.int .u8 0] 64) 5)) w.heap.size 238 64 k):=(Row8.boxedAt rfl _ _ _).alloc _
 have K1:Hid (Row8 ((w.alloc (.cells (bA 64 k) 238)).alloc (.cells (madeCells #[.int .u8 0] 64) 5)) (w.heap.size + 1) 5 64 (fun _ => 0)):=by
  have:=World.rowIs_made (w.alloc (.cells (bA 64 k) 238)) (.int .u8 0) 64 5
  rw [show (w.alloc (.cells (bA 64 k) 238)).heap.size = w.heap.size + 1 from by simp] at this
  exact this.congr (fun j hj => rfl)
 have K2:Hid (Below w.heap.size w ((w.alloc (.cells (bA 64 k) 238)).alloc (.cells (madeCells #[.int .u8 0] 64) 5))):=((Below.refl _ _).alloc (Nat.le_refl _) _).alloc (by simp) _
 clear hk
 generalize bA 64 k = KA at *
 go_enter Tryz.func203,Tryz.ntmps203
 go_wp2
 generalize (w.alloc (.cells KA 238)).alloc (.cells (madeCells #[.int .u8 0] 64) 5) = wz at *
 clear m64
 go_loopw [6,10] (fun _ i wr => ∃ q:Nat,q≤64∧i = .int .i64 q∧Row8 wr w.heap.size 238 64 k∧Row8 wr (w.heap.size + 1) 5 64 (fun j => if j < q then Sha.maskF k m j else 0)∧Below w.heap.size w wr) (fun _ i _ => 64 - (intOf i).toNat)
 case atStart => exact ⟨0,by omega,rfl,K0.out,K1.out.congr (fun j hj => by simp),K2.out⟩
 case round =>
  clear K0 K1 K2
  obtain ⟨q,hq,rfl,h0,h1,hb⟩:=hrel
  have H0:Hid (Row8 wr w.heap.size 238 64 k):=h0
  have H1:Hid (Row8 wr (w.heap.size + 1) 5 64 (fun j => if j < q then Sha.maskF k m j else 0)):=h1
  have HB:Hid (Below w.heap.size w wr):=hb
  by_cases hlt:q < 64
  ·have hlt':(q:Int) < 64:=by omega
   have c0:wr.cell? ⟨w.heap.size,q,none⟩ = some (.int .u8 ((k q:Nat):Int)):=World.rowIs.cell h0 hlt
   have c1:=World.rowIs.cell h1 hlt
   have f1:=World.rowIs.frozen h1 q
   have ex:=e8_xor (k q) m (HK.out q) hm
   have HV:Hid (Sha.maskF k m q = k q ^^^ m):=rfl
   generalize k q ^^^ m = X at *
   generalize k q = kq at *
   clear h0 h1 hb
   go_wp2
   go_roundw
   case rel =>
    refine ⟨q + 1,by omega,by go_num,H0.out.other (by show w.heap.size≠w.heap.size + 1; omega) _,?_,HB.out.setCell (by show w.heap.size≤w.heap.size + 1; omega) _⟩
    exact (H1.out.set q X).congr (fun j hj => by
     by_cases e:j = q
     ·subst e; rw [if_pos rfl,if_pos (by omega)]; exact HV.out.symm
     ·simp only [if_neg e]
      by_cases h1:j < q
      ·rw [if_pos h1,if_pos (by omega)]
      ·rw [if_neg h1,if_neg (by omega)])
   case measure => simp [intOf]; omega
  ·have H2:Hid (Own8 wr (w.heap.size + 1) 64 (Sha.maskF k m)):=Own8.ofRow (h1.congr (fun j hj => by rw [if_pos (by omega)]))
   have hlt':¬ (q:Int) < 64:=by omega
   clear h0 h1 hb H0 H1
   go_wp2
   go_ret
   exact ⟨⟨_,_,⟨by omega,Nat.le_refl _⟩,rfl,H2.out⟩,HB.out⟩
theorem cat2 (n0 n1:Nat) (f0 f1:Nat→Nat):catF (fun k => if k = 0 then n0 else n1) (fun k => if k = 0 then f0 else f1) 2 = Sha.cat n0 f0 f1:=by
 show Sha.cat (0 + n0) (Sha.cat 0 (fun _ => 0) f0) f1 = _
 rw [Nat.zero_add]
 funext j
 unfold Sha.cat
 simp
theorem cell2 (w:World) (x y:Value) (t:TypeId) (k:Nat) (hk:k < 2):(w.alloc (.cells #[x,y] t)).cell? ⟨w.heap.size,k,none⟩ = some (if k = 0 then x else y):=by
 rcases (show k = 0∨k = 1 by omega) with rfl | rfl <;> simp
theorem concat2_any (b0 o0 n0 c0 b1 o1 n1 c1:Nat) (f0 f1:Nat→Nat) (h1:1≤n0) (h2:n0 + n1≤2000000) (w:World) (k0:Code8 w (some ⟨b0,o0,none⟩) n0 f0) (k1:Code8 w (some ⟨b1,o1,none⟩) n1 f1) :
  Calls Tryz.prog 190 #[.slice (some ⟨w.heap.size,0,none⟩) 2 2] (w.alloc (.cells #[.slice (some ⟨b0,o0,none⟩) n0 c0,.slice (some ⟨b1,o1,none⟩) n1 c1] 68)) fun e w' => (∃ g c,e = .returned (.slice (some ⟨g,0,none⟩) (n0 + n1) c)∧Own8 w' g (n0 + n1) (Sha.cat n0 f0 f1))∧Below w.heap.size w w':=by
 have hA:Below w.heap.size w (w.alloc (.cells #[.slice (some ⟨b0,o0,none⟩) n0 c0,.slice (some ⟨b1,o1,none⟩) n1 c1] 68)):=(Below.refl _ _).alloc (Nat.le_refl _) _
 have P:Parts (w.alloc (.cells #[.slice (some ⟨b0,o0,none⟩) n0 c0,.slice (some ⟨b1,o1,none⟩) n1 c1] 68)) w.heap.size 2 (fun k => if k = 0 then some ⟨b0,o0,none⟩ else some ⟨b1,o1,none⟩) (fun k => if k = 0 then n0 else n1) (fun k => if k = 0 then c0 else c1) (fun k => if k = 0 then f0 else f1):=by
  refine ⟨fun k hk => ?_,fun k hk => ?_,fun k hk => ?_⟩
  ·rw [cell2 _ _ _ _ k hk]
   rcases (show k = 0∨k = 1 by omega) with rfl | rfl <;> simp
  ·rcases (show k = 0∨k = 1 by omega) with rfl | rfl
   ·exact k0.below hA
   ·exact k1.below hA
  ·rcases (show k = 0∨k = 1 by omega) with rfl | rfl
   ·exact .inr ⟨_,_,rfl⟩
   ·exact .inr ⟨_,_,rfl⟩
 have hN:catN (fun k => if k = 0 then n0 else n1) 2 = n0 + n1:=by show 0 + n0 + n1 = _; omega
 have:=concatN_any w.heap.size 2 _ _ _ _ (by omega) (by rw [hN]; omega) (by rw [hN]; omega) _ P
 rw [hN,cat2] at this
 refine this.mono ?_
 rintro e w' ⟨⟨g,cc,rfl,ho⟩,hb'⟩
 obtain ⟨g',c',_,e',h8⟩:=own8_of_own ho (by intro e; cases e)
 cases e'
 exact ⟨⟨g,cc,rfl,h8⟩,hA.trans (hb'.mono hA.size)⟩
set_option maxRecDepth 100000 in
set_option maxHeartbeats 2000000 in
theorem mac_any (k:Nat→Nat) (hk:∀ i,k i < 256) (b o n c:Nat) (f:Nat→Nat) (hf:∀ i,f i < 256) (hn:n≤1100000) (w:World) (h:Code8 w (some ⟨b,o,none⟩) n f) (ht:Tabs w) :
  Calls Tryz.prog 187 #[.agg (bA 64 k),.slice (some ⟨b,o,none⟩) n c] w fun e w' => e = .returned (.string (kstr (Sha.mac k n f) 0 32))∧Below w.heap.size w w':=by
 have MA:Hid (∀ (m:Nat) (w:World),m < 256→Calls Tryz.prog 203 #[.agg (bA 64 k),.int .u8 (m:Int)] w fun e w' => RetB w w' e 64 (Sha.maskF k m)∧Below w.heap.size w w'):=fun m w hm => masked_any k m hk hm w
 have M36:Hid (∀ w:World,Calls Tryz.prog 203 #[.agg (bA 64 k),.int .u8 54] w fun e w' => RetB w w' e 64 (Sha.maskF k 54)∧Below w.heap.size w w'):=fun w => MA.out 54 w (by omega)
 have M5c:Hid (∀ w:World,Calls Tryz.prog 203 #[.agg (bA 64 k),.int .u8 92] w fun e w' => RetB w w' e 64 (Sha.maskF k 92)∧Below w.heap.size w w'):=fun w => MA.out 92 w (by omega)
 have L36:∀ j,Sha.maskF k 54 j < 256:=Sha.maskF_lt hk (by omega)
 have L5c:∀ j,Sha.maskF k 92 j < 256:=Sha.maskF_lt hk (by omega)
 have HC:Hid (Code8 w (some ⟨b,o,none⟩) n f):=h
 have HT:Hid (Tabs w):=ht
 obtain ⟨IN,hIN⟩:∃ IN,IN = hashS (64 + n) (Sha.cat 64 (Sha.maskF k 54) f):=⟨_,rfl⟩
 have hINs:IN.size = 32:=by rw [hIN]; exact hashS_size _ _
 have HI1:Hid (∀ (g c:Nat) (w:World),Own8 w g (64 + n) (Sha.cat 64 (Sha.maskF k 54) f)→Tabs w→Calls Tryz.prog 103 #[.slice (some ⟨g,0,none⟩) (64 + n) c] w fun e w' => e = .returned (.string IN)∧Below w.heap.size w w'):=fun g c w h8 ht => by
  rw [hIN]
  exact hashed_any g 0 (64 + n) c _ (Sha.cat_lt L36 hf) (by omega) w h8.code ht
 have EQ:Hid (kstr (Sha.mac k n f) 0 32 = hashS (64 + 32) (Sha.cat 64 (Sha.maskF k 92) (strB IN))):=by
  show kstr (Sha.mac k n f) 0 32 = kstr (Sha.hash (64 + 32) (Sha.cat 64 (Sha.maskF k 92) (strB IN))) 0 32
  have e2:Sha.fullF 96 (Sha.cat 64 (Sha.maskF k 92) (Sha.hash (64 + n) (Sha.cat 64 (Sha.maskF k 54) f))) = Sha.fullF 96 (Sha.cat 64 (Sha.maskF k 92) (strB IN)):=by
   funext j
   unfold Sha.fullF
   by_cases hj:j < 96
   ·rw [if_pos hj,if_pos hj]
    unfold Sha.cat
    by_cases h64:j < 64
    ·rw [if_pos h64,if_pos h64]
    ·rw [if_neg h64,if_neg h64,hIN]
     unfold hashS
     rw [strB_kstr _ 0 32 _ (by rw [Nat.zero_add]; exact Sha.hash_lt _ _ _) (by omega),Nat.zero_add]
     rfl
   ·rw [if_neg hj,if_neg hj]
  show kstr (Sha.hash 96 (Sha.cat 64 (Sha.maskF k 0x5c) (Sha.hash (64 + n) (Sha.cat 64 (Sha.maskF k 0x36) f)))) 0 32 = _
  unfold Sha.hash at e2 ⊢
  rw [e2]
 have HI2:Hid (∀ (g c:Nat) (w:World),Own8 w g (64 + 32) (Sha.cat 64 (Sha.maskF k 92) (strB IN))→Tabs w→Calls Tryz.prog 103 #[.slice (some ⟨g,0,none⟩) (64 + 32) c] w fun e w' => e = .returned (.string (kstr (Sha.mac k n f) 0 32))∧Below w.heap.size w w'):=fun g c w h8 ht => by
  rw [EQ.out]
  exact hashed_any g 0 (64 + 32) c _ (Sha.cat_lt L5c (strB_lt IN)) (by omega) w h8.code ht
 have R0:Hid (Row8 (w.alloc (.cells (bA 64 k) 238)) w.heap.size 238 64 k):=Row8.boxedAt rfl _ _ _
 have B0:Hid (Below w.heap.size w (w.alloc (.cells (bA 64 k) 238))):=(Below.refl _ _).alloc (Nat.le_refl _) _
 have EA:Hid ((bv 64 k).toArray = bA 64 k):=rfl
 generalize kstr (Sha.mac k n f) 0 32 = RS at *
 generalize hF1:Sha.maskF k 54 = F1 at *
 generalize hF2:Sha.maskF k 92 = F2 at *
 clear h ht hf hk hIN EQ MA L36 L5c hF1 hF2
 generalize bA 64 k = KA at *
 go_enter Tryz.func187,Tryz.ntmps187
 go_upto_region 1 with fail
 generalize w.alloc (.cells KA 238) = w0 at *
 refine wp_region_lit ?_
 refine wpList_load_mid rfl 238 (.tmp 2) rfl w.heap.size 0 rfl (bv 64 k) _ R0.out.range Tryz.underlying238 rfl (by rw [bv_length]; exact Tryz.sizeMk) ?_
 rw [EA.out]
 go_wp2_with fail
 refine (M36.out _).mono ?_
 rintro e w1 ⟨⟨b1,c1,⟨hb1,hc1⟩,rfl,ho1⟩,hB1⟩
 have HO1:Hid (Own8 w1 b1 64 F1):=ho1
 have HB1:Hid (Below w.heap.size w w1):=B0.out.trans (hB1.mono B0.out.size)
 have R1:Hid (Row8 w1 w.heap.size 238 64 k):=R0.out.below hB1
 have HC1:Hid (Code8 w1 (some ⟨b,o,none⟩) n f):=HC.out.below HB1.out
 have HT1:Hid (Tabs w1):=HT.out.below HB1.out
 clear ho1 hB1 R0 B0 HC HT M36
 have CC1:Hid (Calls Tryz.prog 190 #[.slice (some ⟨w1.heap.size,0,none⟩) 2 2] (w1.alloc (.cells #[.slice (some ⟨b1,0,none⟩) 64 c1,.slice (some ⟨b,o,none⟩) n c] 68)) fun e w' => (∃ g c,e = .returned (.slice (some ⟨g,0,none⟩) (64 + n) c)∧Own8 w' g (64 + n) (Sha.cat 64 F1 f))∧Below w1.heap.size w1 w'):=concat2_any b1 0 64 c1 b o n c F1 f (by omega) (by omega) w1 HO1.out.code HC1.out
 go_wp2_with fail
 refine CC1.out.mono ?_
 rintro e w2 ⟨⟨g2,c2,rfl,ho2⟩,hB2⟩
 have HO2:Hid (Own8 w2 g2 (64 + n) (Sha.cat 64 F1 f)):=ho2
 have HB2:Hid (Below w.heap.size w w2):=HB1.out.trans (hB2.mono HB1.out.size)
 have R2:Hid (Row8 w2 w.heap.size 238 64 k):=R1.out.below hB2
 have HT2:Hid (Tabs w2):=HT1.out.below hB2
 clear ho2 hB2 R1 HB1 HC1 HT1 HO1 CC1
 go_wp2_with fail
 refine (HI1.out g2 c2 _ HO2.out HT2.out).mono ?_
 rintro e w3 ⟨rfl,hB3⟩
 have HB3:Hid (Below w.heap.size w w3):=HB2.out.trans (hB3.mono HB2.out.size)
 have R3:Hid (Row8 w3 w.heap.size 238 64 k):=R2.out.below hB3
 have HT3:Hid (Tabs w3):=HT2.out.below hB3
 clear hB3 R2 HB2 HT2 HO2 HI1
 go_upto_region 2 with fail
 refine wp_region_lit ?_
 refine wpList_load_mid rfl 238 (.tmp 2) rfl w.heap.size 0 rfl (bv 64 k) _ R3.out.range Tryz.underlying238 rfl (by rw [bv_length]; exact Tryz.sizeMk) ?_
 rw [EA.out]
 go_wp2_with fail
 refine (M5c.out _).mono ?_
 rintro e w4 ⟨⟨b4,c4,⟨hb4,hc4⟩,rfl,ho4⟩,hB4⟩
 have HO4:Hid (Own8 w4 b4 64 F2):=ho4
 have HB4:Hid (Below w.heap.size w w4):=HB3.out.trans (hB4.mono HB3.out.size)
 have HT4:Hid (Tabs w4):=HT3.out.below hB4
 clear ho4 hB4 R3 HB3 HT3 M5c EA
 obtain ⟨w5,c5,hcv,hk5,hB5,_⟩:=bytesOfM IN w4
 rw [hINs] at hcv hk5
 have HK5:Hid (Code8 w5 (some ⟨w4.heap.size,0,none⟩) 32 (strB IN)):=hk5
 have HO5:Hid (Own8 w5 b4 64 F2):=HO4.out.below hB5
 have HB5:Hid (Below w.heap.size w w5):=HB4.out.trans (hB5.mono HB4.out.size)
 have HT5:Hid (Tabs w5):=HT4.out.below hB5
 clear hk5 hB5 HO4 HB4 HT4
 generalize w4.heap.size = b5 at *
 have CC2:Hid (Calls Tryz.prog 190 #[.slice (some ⟨w5.heap.size,0,none⟩) 2 2] (w5.alloc (.cells #[.slice (some ⟨b4,0,none⟩) 64 c4,.slice (some ⟨b5,0,none⟩) 32 c5] 68)) fun e w' => (∃ g c,e = .returned (.slice (some ⟨g,0,none⟩) (64 + 32) c)∧Own8 w' g (64 + 32) (Sha.cat 64 F2 (strB IN)))∧Below w5.heap.size w5 w'):=concat2_any b4 0 64 c4 b5 0 32 c5 F2 (strB IN) (by omega) (by omega) w5 HO5.out.code HK5.out
 go_wp2_with fail
 refine CC2.out.mono ?_
 rintro e w6 ⟨⟨g6,c6,rfl,ho6⟩,hB6⟩
 have HO6:Hid (Own8 w6 g6 (64 + 32) (Sha.cat 64 F2 (strB IN))):=ho6
 have HB6:Hid (Below w.heap.size w w6):=HB5.out.trans (hB6.mono HB5.out.size)
 have HT6:Hid (Tabs w6):=HT5.out.below hB6
 clear ho6 hB6 HK5 HO5 HB5 HT5 CC2 hcv
 go_wp2_with fail
 refine (HI2.out g6 c6 _ HO6.out HT6.out).mono ?_
 rintro e w7 ⟨rfl,hB7⟩
 have HB7:Hid (Below w.heap.size w w7):=HB6.out.trans (hB7.mono HB6.out.size)
 clear hB7 HO6 HB6 HT6 HI2
 go_wp2
 go_ret
 exact ⟨rfl,HB7.out⟩
set_option maxRecDepth 100000 in
set_option maxHeartbeats 2000000 in
theorem newMacKey_any (b o n c:Nat) (f:Nat→Nat) (hf:∀ i,f i < 256) (hn:n≤100000) (w:World) (h:Code8 w (some ⟨b,o,none⟩) n f) (ht:Tabs w) :
  Calls Tryz.prog 186 #[.slice (some ⟨b,o,none⟩) n c] w fun e w' => e = .returned (.agg (bA 64 (Sha.keyF n f)))∧Below w.heap.size w w':=by
 have z1:=Tryz.zeroMk
 have SZ:Hid ((Tryz.prog.info? 5).map (·.size) = some 1):=size8
 have Z1:Hid (Row8 ((w.alloc (.cells (Array.replicate 64 (.int .u8 0)) 238)).alloc (.cells (Array.replicate 64 (.int .u8 0)) 238)) w.heap.size 238 64 (fun _ => 0)):=(Row8.zerosAt rfl _ _).alloc _
 have Z2:Hid (Row8 ((w.alloc (.cells (Array.replicate 64 (.int .u8 0)) 238)).alloc (.cells (Array.replicate 64 (.int .u8 0)) 238)) (w.heap.size + 1) 238 64 (fun _ => 0)):=Row8.zerosAt (by simp) _ _
 have B3:Hid (Below w.heap.size w ((w.alloc (.cells (Array.replicate 64 (.int .u8 0)) 238)).alloc (.cells (Array.replicate 64 (.int .u8 0)) 238))):=((Below.refl _ _).alloc (Nat.le_refl _) _).alloc (by simp) _
 have HC:Hid (Code8 w (some ⟨b,o,none⟩) n f):=h
 have HT:Hid (Tabs w):=ht
 have HF:Hid (∀ i,f i < 256):=hf
 clear h ht hf
 generalize hG:Sha.keyF n f = G at *
 by_cases hlt:64 < n
 ·have x1:(64:Int) < (n:Int):=by omega
  obtain ⟨H,hH⟩:∃ H,H = hashS n f:=⟨_,rfl⟩
  have hHs:H.size = 32:=by rw [hH]; exact hashS_size _ _
  have HE:Hid (∀ j,j < 64→G j = if j < 32 then strB H j else 0):=fun j hj => by
   rw [← hG,hH]
   unfold Sha.keyF
   rw [if_pos hlt]
   by_cases h32:j < 32
   ·rw [if_pos h32,if_pos h32]
    unfold hashS
    rw [strB_kstr _ 0 32 _ (by rw [Nat.zero_add]; exact Sha.hash_lt _ _ _) h32,Nat.zero_add]
   ·rw [if_neg h32,if_neg h32]
  have HA:Hid (∀ w:World,Code8 w (some ⟨b,o,none⟩) n f→Tabs w→Calls Tryz.prog 103 #[.slice (some ⟨b,o,none⟩) n c] w fun e w' => e = .returned (.string H)∧Below w.heap.size w w'):=fun w h ht => by
   rw [hH]
   exact hashed_any b o n c f HF.out (by omega) w h ht
  clear hG hH
  go_enter Tryz.func186,Tryz.ntmps186
  go_upto_region 3 with fail
  generalize (w.alloc (.cells (Array.replicate 64 (.int .u8 0)) 238)).alloc (.cells (Array.replicate 64 (.int .u8 0)) 238) = wz at *
  refine wp_region_noPanic ?_
  refine wp_region_held_drew (S:=fun _ => True) (by kernel_rfl) trivial (fun _ => ?_)
  refine wpAnyH_take (i:=0) (v:=.slice (some ⟨w.heap.size + 1,0,none⟩) 64 64) rfl (by kernel_rfl) (by kernel_rfl) (by kernel_rfl) (fun _ _ _ h => h) (Or.inl ⟨by rfl,?_⟩) trivial ?_
  ·intro wq hSq; go_simp
  refine ch15 ?_
  refine wpAnyH_take (i:=1) (v:=.slice (some ⟨b,o,none⟩) n c) rfl (by kernel_rfl) (by kernel_rfl) (by kernel_rfl) (fun _ _ _ h => h) (Or.inl ⟨by rfl,?_⟩) trivial ?_
  ·intro wq hSq; go_simp
  refine ch15 ?_
  refine wpAnyH_ready (rs:=[2]) (by kernel_rfl) (by simp) ?_
  refine AllReadyH.cons rfl (fun KK hK => ?_) AllReadyH.nil
  go_simp
  refine (HA.out _ (HC.out.below B3.out.drew) (HT.out.below B3.out.drew)).mono ?_
  rintro e w2 ⟨rfl,hb2⟩
  have Z12:Hid (Row8 w2 w.heap.size 238 64 (fun _ => 0)):=Row8.below (w:=wz.drew) Z1.out hb2
  have Z22:Hid (Row8 w2 (w.heap.size + 1) 238 64 (fun _ => 0)):=Row8.below (w:=wz.drew) Z2.out hb2
  have B32:Hid (Below w.heap.size w w2):=B3.out.drew.trans (hb2.mono B3.out.drew.size)
  refine hK.out _ _ trivial (fun _ => ?_)
  clear hK KK hb2 Z1 Z2 B3 HA HC HT
  refine ch15 ?_
  have CP:∀ ty,(Builtin.copy_ #[68,9] ty #[.slice (some ⟨w.heap.size + 1,0,none⟩) 64 64,.string H]).run Tryz.prog w2 = .ok (goInt 32) (w2.setCells (w.heap.size + 1) 0 (bv 32 (strB H))):=fun ty => by
   have h:=run_copy_leM (P:=Tryz.prog) w2 68 9 ty 5 (w.heap.size + 1) 0 64 64 H (bv 32 (strB H)) Tryz.underlying68 SZ.out (by omega) (bv_textM H 32 hHs) (fun j hj => by rw [bv_length] at hj; exact (Z22.out.there j (by omega)).1) (fun j hj => by rw [bv_length] at hj; exact (Z22.out.there j (by omega)).2)
   rw [bv_length] at h
   exact h
  have R2:Hid (Row8 (w2.setCells (w.heap.size + 1) 0 (bv 32 (strB H))) (w.heap.size + 1) 238 64 G):=(rowIs_setCells (bv 32 (strB H)) 0 w2 _ Z22.out).congr (fun i hi => by
   rw [bv_length,HE.out i hi]
   by_cases h:i < 32
   ·rw [if_pos (by omega),Nat.sub_zero,List.getD_eq_getElem?_getD,bv_at h,if_pos h]; rfl
   ·rw [if_neg (by omega),if_neg h])
  have R1:Hid (Row8 (w2.setCells (w.heap.size + 1) 0 (bv 32 (strB H))) w.heap.size 238 64 (fun _ => 0)):=Z12.out.storedOther (by omega) _ _
  have B4:Hid (Below w.heap.size w (w2.setCells (w.heap.size + 1) 0 (bv 32 (strB H)))):=below_setCells (by omega) _ _ _ B32.out
  refine wpAnyH_ready (rs:=[3]) (by kernel_rfl) (by simp) ?_
  refine AllReadyH.cons rfl (fun KK hK => ?_) AllReadyH.nil
  go_simp
  refine hK.out _ _ trivial (fun _ => ?_)
  clear hK KK CP Z12 Z22 B32
  generalize w2.setCells (w.heap.size + 1) 0 (bv 32 (strB H)) = wy at *
  refine ch15 ?_
  refine wpAnyH_done (by kernel_rfl) ?_ _
  refine NoPanic.normal ?_
  go_upto_region 5 with fail
  refine wp_region_lit ?_
  refine wpList_load_mid rfl 238 (.tmp 3) rfl (w.heap.size + 1) 0 rfl (bv 64 G) _ R2.out.range Tryz.underlying238 rfl (by rw [bv_length]; exact Tryz.sizeMk) ?_
  refine wpList_store_mid rfl 238 (.tmp 2) (.tmp 14) rfl w.heap.size 0 (bA 64 G) rfl rfl (by rw [bA_size]; exact R1.out.there) (by rw [bA_size]; exact Tryz.sizeMk) (bA_one _ _) ?_
  rw [bA_toList]
  have L:Hid ((loadVar 238 ⟨w.heap.size,0,none⟩).run Tryz.prog (wy.setCells (w.heap.size) 0 (bv 64 G)) = .ok (.agg (bA 64 G)) (wy.setCells (w.heap.size) 0 (bv 64 G))):=(R1.out.stored _).load Tryz.underlying238 rfl Tryz.sizeMk
  have B:Hid (Below w.heap.size w (wy.setCells (w.heap.size) 0 (bv 64 G))):=below_setCells (Nat.le_refl _) _ _ _ B4.out
  have eA:(bv 64 G).toArray = bA 64 G:=rfl
  rw [eA]
  generalize wy.setCells (w.heap.size) 0 (bv 64 G) = wf at *
  generalize hA:bA 64 G = AA at *
  have HA:Hid (bA 64 G = AA):=hA
  clear hA eA
  go_wp2
  rw [HA.out]
  exact bodyPost_ret (v:=.agg AA) (results_cell_one (b:=w.heap.size) (o:=0) Tryz.results186 _ _ _ rfl L.out) rfl ⟨rfl,B.out⟩
 ·have x1:¬ (64:Int) < (n:Int):=by omega
  have HE:Hid (∀ j,j < 64→G j = if j < n then f j else 0):=fun j hj => by
   rw [← hG]
   unfold Sha.keyF
   rw [if_neg hlt]
  clear hG
  go_enter Tryz.func186,Tryz.ntmps186
  go_upto_region 4 with fail
  generalize (w.alloc (.cells (Array.replicate 64 (.int .u8 0)) 238)).alloc (.cells (Array.replicate 64 (.int .u8 0)) 238) = wz at *
  have CP:∀ ty,(Builtin.copy_ #[68,68] ty #[.slice (some ⟨w.heap.size + 1,0,none⟩) 64 64,.slice (some ⟨b,o,none⟩) n c]).run Tryz.prog wz = .ok (goInt n) (wz.setCells (w.heap.size + 1) 0 (bv n f)):=fun ty => by
   have h:=run_copy_cells (P:=Tryz.prog) wz 68 68 ty 5 (w.heap.size + 1) 0 64 64 ⟨b,o,none⟩ n c (bv n f) Tryz.underlying68 SZ.out (by rw [bv_length]; exact (Nat.min_eq_left (by omega)).symm) (bv_news (HC.out.below B3.out)) (fun j hj => by rw [bv_length] at hj; exact (Z2.out.there j (by omega)).1) (fun j hj => by rw [bv_length] at hj; exact (Z2.out.there j (by omega)).2) (bv_one _ _)
   rw [bv_length] at h
   exact h
  have R2:Hid (Row8 (wz.setCells (w.heap.size + 1) 0 (bv n f)) (w.heap.size + 1) 238 64 G):=(rowIs_setCells (bv n f) 0 wz _ Z2.out).congr (fun i hi => by
   rw [bv_length,HE.out i hi]
   by_cases h:i < n
   ·rw [if_pos (by omega),Nat.sub_zero,List.getD_eq_getElem?_getD,bv_at h,if_pos h]; rfl
   ·rw [if_neg (by omega),if_neg h])
  have R1:Hid (Row8 (wz.setCells (w.heap.size + 1) 0 (bv n f)) w.heap.size 238 64 (fun _ => 0)):=Z1.out.storedOther (by omega) _ _
  have B4:Hid (Below w.heap.size w (wz.setCells (w.heap.size + 1) 0 (bv n f))):=below_setCells (by omega) _ _ _ B3.out
  generalize wz.setCells (w.heap.size + 1) 0 (bv n f) = wy at *
  clear Z1 Z2 B3
  go_upto_region 5 with fail
  refine wp_region_lit ?_
  refine wpList_load_mid rfl 238 (.tmp 3) rfl (w.heap.size + 1) 0 rfl (bv 64 G) _ R2.out.range Tryz.underlying238 rfl (by rw [bv_length]; exact Tryz.sizeMk) ?_
  refine wpList_store_mid rfl 238 (.tmp 2) (.tmp 14) rfl w.heap.size 0 (bA 64 G) rfl rfl (by rw [bA_size]; exact R1.out.there) (by rw [bA_size]; exact Tryz.sizeMk) (bA_one _ _) ?_
  rw [bA_toList]
  have L:Hid ((loadVar 238 ⟨w.heap.size,0,none⟩).run Tryz.prog (wy.setCells (w.heap.size) 0 (bv 64 G)) = .ok (.agg (bA 64 G)) (wy.setCells (w.heap.size) 0 (bv 64 G))):=(R1.out.stored _).load Tryz.underlying238 rfl Tryz.sizeMk
  have B:Hid (Below w.heap.size w (wy.setCells (w.heap.size) 0 (bv 64 G))):=below_setCells (Nat.le_refl _) _ _ _ B4.out
  have eA:(bv 64 G).toArray = bA 64 G:=rfl
  rw [eA]
  generalize wy.setCells (w.heap.size) 0 (bv 64 G) = wf at *
  generalize hA:bA 64 G = AA at *
  have HA:Hid (bA 64 G = AA):=hA
  clear hA eA
  go_wp2
  rw [HA.out]
  exact bodyPost_ret (v:=.agg AA) (results_cell_one (b:=w.heap.size) (o:=0) Tryz.results186 _ _ _ rfl L.out) rfl ⟨rfl,B.out⟩
def macS (m:Nat) (g:Nat→Nat) (n:Nat) (f:Nat→Nat):ByteArray:=kstr (Sha.mac (Sha.keyF m g) n f) 0 32
theorem macS_size (m:Nat) (g:Nat→Nat) (n:Nat) (f:Nat→Nat):(macS m g n f).size = 32:=kstr_size _ _ _
theorem cat3 (n0 n1 n2:Nat) (f0 f1 f2:Nat→Nat):catF (fun k => if k = 0 then n0 else if k = 1 then n1 else n2) (fun k => if k = 0 then f0 else if k = 1 then f1 else f2) 3 = Sha.cat n0 f0 (Sha.cat n1 f1 f2):=by
 show Sha.cat (0 + n0 + n1) (Sha.cat (0 + n0) (Sha.cat 0 (fun _ => 0) f0) f1) f2 = _
 funext j
 unfold Sha.cat
 simp only [Nat.zero_add,Nat.not_lt_zero,if_false,Nat.sub_zero]
 by_cases h0:j < n0
 ·rw [if_pos (by omega),if_pos h0,if_pos h0]
 ·rw [if_neg h0]
  by_cases h1:j < n0 + n1
  ·rw [if_pos h1,if_neg h0,if_pos (by omega)]
  ·rw [if_neg h1,if_neg h0,if_neg (show ¬ j - n0 < n1 by omega),show j - n0 - n1 = j - (n0 + n1) from by omega]
theorem concat3_any (a0:Option Addr) (n0 c0 b1 o1 n1 c1 b2 o2 n2 c2:Nat) (f0 f1 f2:Nat→Nat) (hnil:(a0 = none∧n0 = 0∧c0 = 0)∨∃ b,a0 = some ⟨b,0,none⟩) (h1:1≤n2) (h2:n0 + n1 + n2≤1000000) (w wb:World) (hwb:wb = w.alloc (.cells #[.slice a0 n0 c0,.slice (some ⟨b1,o1,none⟩) n1 c1,.slice (some ⟨b2,o2,none⟩) n2 c2] 68)) (k0:Code8 w a0 n0 f0) (k1:Code8 w (some ⟨b1,o1,none⟩) n1 f1) (k2:Code8 w (some ⟨b2,o2,none⟩) n2 f2) :
  Calls Tryz.prog 190 #[.slice (some ⟨w.heap.size,0,none⟩) 3 3] wb fun e w' => (∃ g c,e = .returned (.slice (some ⟨g,0,none⟩) (n0 + n1 + n2) c)∧Own8 w' g (n0 + n1 + n2) (Sha.cat n0 f0 (Sha.cat n1 f1 f2)))∧Below w.heap.size w w':=by
 have hA:Below w.heap.size w wb:=by rw [hwb]; exact (Below.refl _ _).alloc (Nat.le_refl _) _
 have P:Parts wb w.heap.size 3 (fun k => if k = 0 then a0 else if k = 1 then some ⟨b1,o1,none⟩ else some ⟨b2,o2,none⟩) (fun k => if k = 0 then n0 else if k = 1 then n1 else n2) (fun k => if k = 0 then c0 else if k = 1 then c1 else c2) (fun k => if k = 0 then f0 else if k = 1 then f1 else f2):=by
  refine ⟨fun k hk => ?_,fun k hk => ?_,fun k hk => ?_⟩
  ·rw [hwb,cell3 _ _ _ _ _ k hk]
   rcases (show k = 0∨k = 1∨k = 2 by omega) with rfl | rfl | rfl <;> simp
  ·rcases (show k = 0∨k = 1∨k = 2 by omega) with rfl | rfl | rfl
   ·exact k0.below hA
   ·exact k1.below hA
   ·exact k2.below hA
  ·rcases (show k = 0∨k = 1∨k = 2 by omega) with rfl | rfl | rfl
   ·rcases hnil with h | ⟨b,hb⟩
    ·exact .inl h
    ·exact .inr ⟨b,0,hb⟩
   ·exact .inr ⟨_,_,rfl⟩
   ·exact .inr ⟨_,_,rfl⟩
 have hN:catN (fun k => if k = 0 then n0 else if k = 1 then n1 else n2) 3 = n0 + n1 + n2:=by show 0 + n0 + n1 + n2 = _; omega
 have:=concatN_any w.heap.size 3 _ _ _ _ (by omega) (by rw [hN]; omega) (by rw [hN]; omega) _ P
 rw [hN,cat3] at this
 refine this.mono ?_
 rintro e w' ⟨⟨g,cc,rfl,ho⟩,hb'⟩
 obtain ⟨g',c',_,e',h8⟩:=own8_of_own ho (by intro e; cases e)
 cases e'
 exact ⟨⟨g,cc,rfl,h8⟩,hA.trans (hb'.mono hA.size)⟩
set_option maxRecDepth 100000 in
theorem run_convert_nil (w:World):(convert 68 9 (.slice none 0 0)).run Tryz.prog w = .ok (.string ⟨#[]⟩) w:=by
 rfl
def DSt (w0 w':World) (K:Nat→Nat):Prop:=Row8 w' w0.heap.size 238 64 K∧Below w0.heap.size w0 w'
theorem DSt.below {w0 w' w'':World} {K:Nat→Nat} (h:DSt w0 w' K) (hb:Below w'.heap.size w' w''):DSt w0 w'' K:=⟨h.1.below hb,h.2.trans (hb.mono h.2.size)⟩
set_option maxRecDepth 100000 in
set_option maxHeartbeats 4000000 in
theorem drawn_any (K:Nat→Nat) (hK:∀ i,K i < 256) (b o m c n:Nat) (g:Nat→Nat) (hg:∀ i,g i < 256) (hm:m≤65536) (hn:n≤8160) (w:World) (h:Code8 w (some ⟨b,o,none⟩) m g) (ht:Tabs w) :
  Calls Tryz.prog 188 #[.agg (bA 64 K),.slice (some ⟨b,o,none⟩) m c,.int .i64 (n:Int)] w fun e w' => e = .returned (.string (kstr (Sha.drawnF K m g) 0 n))∧Below w.heap.size w w':=by
 obtain ⟨i0,hi⟩:=info_parts Tryz.info8
 have HI:Hid (Tryz.prog.info? 5 = some i0∧i0.zero = some (.int .u8 0)∧i0.size = 1∧i0.bytes = 1):=hi
 have MC:Hid (∀ (i g' c:Nat) (w':World),Own8 w' g' ((if i = 0 then 0 else 32) + m + 1) (Sha.cat (if i = 0 then 0 else 32) (Sha.drawnB K m g i) (Sha.cat m g (fun _ => (i + 1) % 256)))→Tabs w'→Calls Tryz.prog 187 #[.agg (bA 64 K),.slice (some ⟨g',0,none⟩) ((if i = 0 then 0 else 32) + m + 1) c] w' fun e w'' => e = .returned (.string (kstr (Sha.drawnB K m g (i + 1)) 0 32))∧Below w'.heap.size w' w''):=fun i g' c w' h8 ht => by
  have lB:∀ j,Sha.drawnB K m g i j < 256:=by
   cases i with
   | zero => intro j; show 0 < 256; omega
   | succ i => intro j; exact Sha.mac_lt _ _ _ _
  exact mac_any K hK g' 0 _ c _ (Sha.cat_lt lB (Sha.cat_lt hg (fun _ => Nat.mod_lt _ (by omega)))) (by split <;> omega) w' h8.code ht
 have HC:Hid (Code8 w (some ⟨b,o,none⟩) m g):=h
 have HT:Hid (Tabs w):=ht
 have D0:Hid (DSt w (w.alloc (.cells (bA 64 K) 238)) K):=⟨Row8.boxedAt rfl _ _ _,(Below.refl _ _).alloc (Nat.le_refl _) _⟩
 have S0:Hid (w.heap.size + 1≤(w.alloc (.cells (bA 64 K) 238)).heap.size):=by show _≤_; simp
 have EA:Hid ((bv 64 K).toArray = bA 64 K):=rfl
 have N0:Hid ((w.alloc (.cells (bA 64 K) 238)).ownsRow (w.heap.size + 1) 5 1 (.slice none 0 0) 0 (bv 0 (Sha.drawnF K m g))):=⟨rfl,.inl ⟨rfl,rfl⟩⟩
 clear h ht hg hK hi
 generalize bA 64 K = KA at *
 go_enter Tryz.func188,Tryz.ntmps188
 go_wp2
 generalize w.alloc (.cells KA 238) = w0 at *
 go_loopw [7,8,9] (fun s t i wr => ∃ (q:Nat) (a:Option Addr) (cc:Nat) (a2:Option Addr) (n2 c2:Nat),q≤255∧i = .int .i64 ((q + 1:Nat):Int)∧s = .slice a (32 * q) cc∧t = .slice a2 n2 c2∧(n2 = if q = 0 then 0 else 32)∧Code8 wr a2 n2 (Sha.drawnB K m g q)∧((a2 = none∧n2 = 0∧c2 = 0)∨∃ b,a2 = some ⟨b,0,none⟩)∧wr.ownsRow (w.heap.size + 1) 5 1 (.slice a (32 * q) cc) (32 * q) (bv (32 * q) (Sha.drawnF K m g))∧DSt w wr K∧w.heap.size + 1≤wr.heap.size) (fun s _ _ _ => 9000 - lenH s)
 case atStart => exact ⟨0,none,0,none,0,0,by omega,rfl,rfl,rfl,rfl,code8_zero _ _ _,.inl ⟨rfl,rfl,rfl⟩,N0.out,D0.out,S0.out⟩
 case round =>
  clear N0 D0 S0
  obtain ⟨q,a,cc,a2,n2,c2,hq,rfl,rfl,rfl,hn2,hk2,hnil2,hown,hd,hsz⟩:=hrel
  have HO:Hid (wr.ownsRow (w.heap.size + 1) 5 1 (.slice a (32 * q) cc) (32 * q) (bv (32 * q) (Sha.drawnF K m g))):=hown
  have HD:Hid (DSt w wr K):=hd
  have HK2:Hid (Code8 wr a2 n2 (Sha.drawnB K m g q)):=hk2
  have HN2:Hid (n2 = if q = 0 then 0 else 32):=hn2
  have HNL:Hid ((a2 = none∧n2 = 0∧c2 = 0)∨∃ b,a2 = some ⟨b,0,none⟩):=hnil2
  have hn32:n2≤32:=by rw [hn2]; split <;> omega
  clear hown hd hk2 hn2 hnil2
  by_cases hlt:32 * q < n
  ·have hlt':((32 * q:Nat):Int) < (n:Int):=by omega
   obtain ⟨L,hL⟩:∃ L,L = 32 * q:=⟨_,rfl⟩
   have HL:Hid (L = 32 * q):=hL
   rw [← hL] at HO hlt' ⊢
   clear hL
   obtain ⟨X,hX⟩:∃ X,X = (q + 1) % 256:=⟨_,rfl⟩
   have eX:((q + 1:Nat):Int) % 256 = (X:Int):=by omega
   have eX2:((q:Int) + 1) % 256 = (X:Int):=by omega
   have wX:IntKind.u8.wrap ((q + 1:Nat):Int) = (X:Int):=by show ((q + 1:Nat):Int) % 256 = _; omega
   have wX2:IntKind.u8.wrap ((q:Int) + 1) = (X:Int):=by show ((q:Int) + 1) % 256 = _; omega
   have hqb:q≤254:=by omega
   have MQ:Hid (∀ (g' c:Nat) (w':World),Own8 w' g' (n2 + m + 1) (Sha.cat n2 (Sha.drawnB K m g q) (Sha.cat m g (fun _ => X)))→Tabs w'→Calls Tryz.prog 187 #[.agg KA,.slice (some ⟨g',0,none⟩) (n2 + m + 1) c] w' fun e w'' => e = .returned (.string (kstr (Sha.drawnB K m g (q + 1)) 0 32))∧Below w'.heap.size w' w''):=fun g' c w' h8 ht => by
    have:=MC.out q g' c w' (by rw [← HN2.out,← hX]; exact h8) ht
    rw [← HN2.out] at this
    exact this
   clear hX MC
   go_upto_region 5 with fail
   have H:DSt w wr.drew K:=⟨HD.out.1,HD.out.2.drew⟩
   refine wp_region_noPanic ?_
   refine wp_region_held_drew (S:=fun w' => DSt w w' K) (by kernel_rfl) H (fun _ => ?_)
   have HOd:Hid (wr.drew.ownsRow (w.heap.size + 1) 5 1 (.slice a L cc) L (bv L (Sha.drawnF K m g))):=HO.out
   have HKd:Hid (Code8 wr.drew a2 n2 (Sha.drawnB K m g q)):=HK2.out
   have hszd:w.heap.size + 1≤wr.drew.heap.size:=hsz
   clear HO HK2 HD hsz
   generalize wr.drew = wd at *
   refine wpAnyH_take (i:=0) (v:=.agg (bv 64 K).toArray) rfl (by kernel_rfl) (by kernel_rfl) (by kernel_rfl) (fun _ _ _ h => h) (yieldsIf_load_mid (by rfl) 238 (.tmp 3) rfl w.heap.size 0 rfl (bv 64 K) _ (fun w h => h.1.range) Tryz.underlying238 rfl (by rw [bv_length]; exact Tryz.sizeMk)) H ?_
   rw [EA.out]
   refine ch33 ?_
   refine tkH (i:=1) (v:=.slice a2 n2 c2) rfl (by kernel_rfl) (by rfl) ?_ H ?_
   ·intro wq hSq; go_simp
   refine ch33 ?_
   refine tkH (i:=2) (v:=.slice (some ⟨b,o,none⟩) m c) rfl (by kernel_rfl) (by rfl) ?_ H ?_
   ·intro wq hSq; go_simp
   refine ch33 ?_
   refine tkH (i:=3) (v:=.int .i64 ((q + 1:Nat):Int)) rfl (by kernel_rfl) (by rfl) ?_ H ?_
   ·intro wq hSq; go_simp
   refine ch33 ?_
   refine tkH (i:=4) (v:=.int .u8 (X:Int)) rfl (by kernel_rfl) (by rfl) ?_ H ?_
   ·intro wq hSq; go_simp
   refine ch33 ?_
   have BX:Below wd.heap.size wd (wd.alloc (.cells #[.int .u8 (X:Int)] 5)):=(Below.refl _ _).alloc (Nat.le_refl _) _
   have KX:Code8 (wd.alloc (.cells #[.int .u8 (X:Int)] 5)) (some ⟨wd.heap.size,0,none⟩) 1 (fun _ => X):=fun i hi => ⟨_,0,rfl,by rw [show 0 + i = 0 from by omega]; simp⟩
   refine wpAnyH_ready (rs:=[5]) (by kernel_rfl) (by simp) ?_
   refine AllReadyH.cons rfl (fun KK hK => ?_) AllReadyH.nil
   go_simp
   replace H:=DSt.below H BX
   refine hK.out _ _ H (fun _ => ?_)
   clear hK KK
   have HO5:Hid ((wd.alloc (.cells #[.int .u8 (X:Int)] 5)).ownsRow (w.heap.size + 1) 5 1 (.slice a L cc) L (bv L (Sha.drawnF K m g))):=ownsRow_below8 HOd.out BX
   have HK5:Hid (Code8 (wd.alloc (.cells #[.int .u8 (X:Int)] 5)) a2 n2 (Sha.drawnB K m g q)):=HKd.out.below BX
   have HX5:Hid (Code8 (wd.alloc (.cells #[.int .u8 (X:Int)] 5)) (some ⟨wd.heap.size,0,none⟩) 1 (fun _ => X)):=KX
   have hsz5:w.heap.size + 1≤(wd.alloc (.cells #[.int .u8 (X:Int)] 5)).heap.size:=Nat.le_trans hszd BX.size
   clear BX KX HOd HKd hszd
   generalize wd.alloc (.cells #[.int .u8 (X:Int)] 5) = w5 at *
   generalize wd.heap.size = bX at *
   refine ch33 ?_
   have HI5:Hid (Code8 w5 (some ⟨b,o,none⟩) m g):=HC.out.below H.2
   have CC:Hid (Calls Tryz.prog 190 #[.slice (some ⟨w5.heap.size,0,none⟩) 3 3] (w5.alloc (.cells #[.slice a2 n2 c2,.slice (some ⟨b,o,none⟩) m c,.slice (some ⟨bX,0,none⟩) 1 1] 68)) fun e w' => (∃ g' c,e = .returned (.slice (some ⟨g',0,none⟩) (n2 + m + 1) c)∧Own8 w' g' (n2 + m + 1) (Sha.cat n2 (Sha.drawnB K m g q) (Sha.cat m g (fun _ => X))))∧Below w5.heap.size w5 w'):=concat3_any a2 n2 c2 b o m c bX 0 1 1 _ g (fun _ => X) HNL.out (by omega) (by omega) w5 _ rfl HK5.out HI5.out HX5.out
   refine wpAnyH_ready (rs:=[6]) (by kernel_rfl) (by simp) ?_
   refine AllReadyH.cons rfl (fun KK hK => ?_) AllReadyH.nil
   go_simp
   refine hK.out _ _ (DSt.below H ((Below.refl _ _).alloc (Nat.le_refl _) _)) (fun _ => ?_)
   clear hK KK
   refine ch33 ?_
   refine wpAnyH_ready (rs:=[7]) (by kernel_rfl) (by simp) ?_
   refine AllReadyH.cons rfl (fun KK hK => ?_) AllReadyH.nil
   go_simp
   refine CC.out.mono ?_
   rintro e w6 ⟨⟨g6,c6,rfl,ho6⟩,hb6⟩
   replace H:=DSt.below H hb6
   have HO6:Hid (w6.ownsRow (w.heap.size + 1) 5 1 (.slice a L cc) L (bv L (Sha.drawnF K m g))):=ownsRow_below8 HO5.out hb6
   have hsz6:w.heap.size + 1≤w6.heap.size:=Nat.le_trans hsz5 hb6.size
   refine hK.out _ _ H (fun _ => ?_)
   clear hK KK hb6 CC HO5 HK5 HX5 HI5 hsz5
   refine ch33 ?_
   refine wpAnyH_ready (rs:=[8]) (by kernel_rfl) (by simp) ?_
   refine AllReadyH.cons rfl (fun KK hK => ?_) AllReadyH.nil
   go_simp
   refine (MQ.out g6 c6 _ ho6 (HT.out.below H.2)).mono ?_
   rintro e w7 ⟨rfl,hb7⟩
   replace H:=DSt.below H hb7
   have HO7:Hid (w7.ownsRow (w.heap.size + 1) 5 1 (.slice a L cc) L (bv L (Sha.drawnF K m g))):=ownsRow_below8 HO6.out hb7
   have hsz7:w.heap.size + 1≤w7.heap.size:=Nat.le_trans hsz6 hb7.size
   refine hK.out _ _ H (fun _ => ?_)
   clear hK KK hb7 HO6 hsz6 ho6 MQ
   refine ch33 ?_
   obtain ⟨R,hR⟩:∃ R,R = kstr (Sha.drawnB K m g (q + 1)) 0 32:=⟨_,rfl⟩
   have hRs:R.size = 32:=by rw [hR]; exact kstr_size _ _ _
   have HRs:Hid (∀ j,j < 32→strB R j = Sha.drawnB K m g (q + 1) j):=fun j hj => by
    rw [hR,strB_kstr _ 0 32 j (by rw [Nat.zero_add]; exact Sha.mac_lt _ _ _ _) hj,Nat.zero_add]
   rw [← hR]
   clear hR
   obtain ⟨w8,c8,hcv,hk8,hb8,_⟩:=bytesOfM R w7
   rw [hRs] at hcv hk8
   refine wpAnyH_ready (rs:=[9]) (by kernel_rfl) (by simp) ?_
   refine AllReadyH.cons rfl (fun KK hK => ?_) AllReadyH.nil
   go_simp
   replace H:=DSt.below H hb8
   have HO8:Hid (w8.ownsRow (w.heap.size + 1) 5 1 (.slice a L cc) L (bv L (Sha.drawnF K m g))):=ownsRow_below8 HO7.out hb8
   have HK8:Hid (Code8 w8 (some ⟨w7.heap.size,0,none⟩) 32 (Sha.drawnB K m g (q + 1))):=hk8.congr HRs.out
   have hsz8:w.heap.size + 1≤w8.heap.size:=Nat.le_trans hsz7 hb8.size
   have HOB:Hid (∀ k,(Value.slice a L cc).ownBlock = some k→k < w7.heap.size):=fun k hk => (HO7.out.lt k hk).2
   refine hK.out _ _ H (fun _ => ?_)
   clear hK KK hb8 HO7 hcv hk8
   generalize w7.heap.size = b8 at *
   refine ch33 ?_
   refine tkH (i:=10) (v:=.slice (some ⟨b8,0,none⟩) 32 c8) rfl (by kernel_rfl) (by rfl) ?_ H ?_
   ·intro wq hSq; go_simp
   refine ch33 ?_
   refine wpAnyH_done (by kernel_rfl) ?_ _
   refine NoPanic.normal ?_
   have HD8:Hid (DSt w w8 K):=H
   clear H
   go_wp2_with (at_builtin; refine wpList_append_own _ rfl _ _ 68 rfl (w.heap.size + 1) 5 i0 (.int .u8 0) 1 1 Tryz.underlying68 HI.out.1 HI.out.2.1 HI.out.2.2.1 HI.out.2.2.2 rfl (by decide) (.slice a L cc) L _ rfl HO8.out ⟨b8,0,none⟩ 32 c8 (bv 32 (Sha.drawnB K m g (q + 1))) rfl (by rw [bv_length]) (bv_news HK8.out) (bv_one _ _) (by unfold maxLen; omega) (by omega) hsz8 ?_)
   intro v' w9 hown hgrow hnil
   have BG:Below (w.heap.size + 1) w8 w9:=grown_below HO8.out hgrow hsz8
   have EB:bv L (Sha.drawnF K m g) ++ bv 32 (Sha.drawnB K m g (q + 1)) = bv (L + 32) (Sha.drawnF K m g):=by
    rw [bv_append]
    refine bv_congr (fun i hi => ?_)
    have hL:=HL.out
    by_cases hi2:i < L
    ·rw [if_pos hi2]
    ·rw [if_neg hi2]
     unfold Sha.drawnF
     rw [show i / 32 + 1 = q + 1 from by omega,show i % 32 = i - L from by omega]
   rw [EB] at hown
   have hne:v'≠.slice none 0 0:=fun h => by
    have:=hown.1
    subst h
    rcases hown.2 with ⟨_,h0⟩ | ⟨g',cap',cur,h0,_⟩
    ·omega
    ·cases h0
   obtain ⟨g9,c9,hgc9,rfl,-⟩:=own8_of_own hown hne
   have HO9:Hid (w9.ownsRow (w.heap.size + 1) 5 1 (.slice (some ⟨g9,0,none⟩) (L + 32) c9) (L + 32) (bv (L + 32) (Sha.drawnF K m g))):=hown
   have hb8lt:b8 < w8.heap.size:=HK8.out.lt _ (by omega) rfl
   have HK9:Hid (Code8 w9 (some ⟨b8,0,none⟩) 32 (Sha.drawnB K m g (q + 1))):=HK8.out.grown hgrow (fun e => absurd (HOB.out b8 e.symm) (by omega))
   have HD9:Hid (DSt w w9 K):=⟨World.rowIs.of_block HD8.out.1 (BG.block _ (by omega)),HD8.out.2.trans (BG.mono (by omega))⟩
   have HS9:Hid (w.heap.size + 1≤w9.heap.size):=Nat.le_trans hsz8 BG.size
   have HL2:Hid (32 * (q + 1) = L + 32):=by show _ = _; have:=HL.out; omega
   clear hown hgrow hnil BG HO8 HK8 HD8 EB hne HOB
   go_wp2
   go_roundw
   case rel => exact ⟨q + 1,some ⟨g9,0,none⟩,c9,some ⟨b8,0,none⟩,32,c8,by omega,by go_num,by rw [HL2.out],rfl,by rw [if_neg (by omega)],HK9.out,.inr ⟨b8,rfl⟩,by rw [HL2.out]; exact HO9.out,HD9.out,HS9.out⟩
   case measure => simp [lenH]; have:=HL.out; omega
  ·have hlt':¬ ((32 * q:Nat):Int) < (n:Int):=by omega
   clear MC HK2 HN2 HNL HC HT
   rcases Nat.eq_zero_or_pos q with rfl | hq0
   ·obtain rfl:n = 0:=by omega
    have HBB:Hid (Below w.heap.size w wr):=HD.out.2
    have HK0:Hid (kstr (Sha.drawnF K m g) 0 0 = ⟨#[]⟩):=rfl
    rcases HO.out.2 with ⟨h0,_⟩ | ⟨g9,c9,cur,h0,_⟩
    ·cases h0
     have cv:(convert 68 9 (.slice none 0 0)).run Tryz.prog wr = .ok (.string ⟨#[]⟩) wr:=run_convert_nil wr
     clear HO HD
     go_wp2
     go_ret
     exact ⟨by rw [HK0.out]; rfl,HBB.out⟩
    ·cases h0
     have cv:(convert 68 9 (.slice (some ⟨g9,0,none⟩) 0 cc)).run Tryz.prog wr = .ok (.string ⟨#[]⟩) wr:=kstr_of_code (c:=cc) (code8_of (f:=fun _ => 0) (fun i hi => absurd hi (by omega)))
     clear HO HD
     go_wp2
     go_ret
     exact ⟨by rw [HK0.out]; rfl,HBB.out⟩
   ·obtain ⟨g9,c9,⟨hg9,hc9⟩,e9,ho9⟩:=own8_of_owned HO.out (by omega)
    cases e9
    have cv:=kstr_of_code (c:=cc) (ho9.part (n':=n) (by omega)).code
    have x1:(n:Int)≤(cc:Int):=by omega
    have x0:(0:Int)≤(n:Int):=by omega
    have HBB:Hid (Below w.heap.size w wr):=HD.out.2
    generalize hRR:kstr (Sha.drawnF K m g) 0 n = RR at cv
    have HRR:Hid (kstr (Sha.drawnF K m g) 0 n = RR):=hRR
    clear hRR HO ho9 HD hg9
    go_wp2
    go_ret
    exact ⟨by rw [HRR.out]; rfl,HBB.out⟩
end Go.Proofs.YtcpjeopnhgoonaaGreatDoor
