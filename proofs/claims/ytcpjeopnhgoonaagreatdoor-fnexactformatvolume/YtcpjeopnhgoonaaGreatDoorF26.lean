/-
  Texts of the proof, joined.
-/
import Derived.Test.YtcpjeopnhgoonaaGreatDoorF22
import Derived.Test.YtcpjeopnhgoonaaGreatDoorF25
namespace Go.Proofs.YtcpjeopnhgoonaaGreatDoor
open Go.ChangeShapes Go.WideShapes Go.ChangeAt Go.RowKit
set_option linter.unusedVariables false
theorem own_of_row {w:World} {b n base:Nat} {f:Nat→Nat} (h:Row8 w b 5 n f) (hb:base≤b) (hn:n≤2000000:=by omega):w.ownsRow base 5 1 (.slice (some ⟨b,0,none⟩) n n) n (bv n f):=by
 obtain ⟨c,hh,hs,hc⟩:=h
 refine ⟨by rw [bv_length,Nat.mul_one],.inr ⟨b,n,c,rfl,hb,hh,Nat.le_refl _,by unfold maxLen; omega,by omega,?_⟩⟩
 rw [Nat.mul_one,List.take_of_length_le (by rw [Array.length_toList]; omega)]
 apply List.ext_getElem?
 intro i
 rw [Array.getElem?_toList]
 by_cases hi:i < n
 ·rw [hc i hi,bv_at hi]
 ·rw [Array.getElem?_eq_none (by omega),List.getElem?_eq_none (by rw [bv_length]; omega)]
theorem mac_eq (k:Nat→Nat) (n:Nat) (f F1 F2:Nat→Nat) (IN:ByteArray) (h1:F1 = Sha.maskF k 54) (h2:F2 = Sha.maskF k 92) (h:IN = hashS (64 + n) (Sha.cat 64 F1 f)):kstr (Sha.mac k n f) 0 32 = hashS (64 + 32) (Sha.cat 64 F2 (strB IN)):=by
 subst h1 h2
 show kstr (Sha.mac k n f) 0 32 = kstr (Sha.hash (64 + 32) (Sha.cat 64 (Sha.maskF k 92) (strB IN))) 0 32
 have e2:Sha.fullF 96 (Sha.cat 64 (Sha.maskF k 92) (Sha.hash (64 + n) (Sha.cat 64 (Sha.maskF k 54) f))) = Sha.fullF 96 (Sha.cat 64 (Sha.maskF k 92) (strB IN)):=by
  funext j
  unfold Sha.fullF
  by_cases hj:j < 96
  ·rw [if_pos hj,if_pos hj]
   unfold Sha.cat
   by_cases h64:j < 64
   ·rw [if_pos h64,if_pos h64]
   ·rw [if_neg h64,if_neg h64,h]
    unfold hashS
    rw [strB_kstr _ 0 32 _ (by rw [Nat.zero_add]; exact Sha.hash_lt _ _ _) (by omega),Nat.zero_add]
    rfl
  ·rw [if_neg hj,if_neg hj]
 show kstr (Sha.hash 96 (Sha.cat 64 (Sha.maskF k 0x5c) (Sha.hash (64 + n) (Sha.cat 64 (Sha.maskF k 0x36) f)))) 0 32 = _
 unfold Sha.hash at e2 ⊢
 rw [e2]
set_option maxRecDepth 100000 in
set_option maxHeartbeats 4000000 in
theorem l03Hmac_any (b0 o0 m c0 b1 o1 n c1:Nat) (g f:Nat→Nat) (hg:∀ i,g i < 256) (hf:∀ i,f i < 256) (hm:m≤100000) (hn:n≤1100000) (w:World) (k0:Code8 w (some ⟨b0,o0,none⟩) m g) (k1:Code8 w (some ⟨b1,o1,none⟩) n f) :
  Calls Tryz.prog 119 #[.slice (some ⟨b0,o0,none⟩) m c0,.slice (some ⟨b1,o1,none⟩) n c1] w fun e w' => e = .returned (.string (macS m g n f))∧Below w.heap.size w w':=by
 obtain ⟨i0,hi⟩:=info_parts Tryz.info8
 have HI:Hid (Tryz.prog.info? 5 = some i0∧i0.zero = some (.int .u8 0)∧i0.size = 1∧i0.bytes = 1):=hi
 obtain ⟨F1,hF1⟩:∃ F1,F1 = Sha.maskF (Sha.keyF m g) 54:=⟨_,rfl⟩
 obtain ⟨F2,hF2⟩:∃ F2,F2 = Sha.maskF (Sha.keyF m g) 92:=⟨_,rfl⟩
 have L36:∀ j,F1 j < 256:=by rw [hF1]; exact Sha.maskF_lt (Sha.keyF_lt hg) (by omega)
 have L5c:∀ j,F2 j < 256:=by rw [hF2]; exact Sha.maskF_lt (Sha.keyF_lt hg) (by omega)
 obtain ⟨IN,hIN⟩:∃ IN,IN = hashS (64 + n) (Sha.cat 64 F1 f):=⟨_,rfl⟩
 have hINs:IN.size = 32:=by rw [hIN]; exact hashS_size _ _
 have HI1:Hid (∀ (g c:Nat) (w:World),Code8 w (some ⟨g,0,none⟩) (64 + n) (Sha.cat 64 F1 f)→Calls Tryz.prog 86 #[.slice (some ⟨g,0,none⟩) (64 + n) c] w fun e w' => e = .returned (.string IN)∧Below w.heap.size w w'):=fun g c w h8 => by
  rw [hIN]
  exact l03Hash_any g 0 (64 + n) c _ (Sha.cat_lt L36 hf) (by omega) w h8
 have EQ:macS m g n f = hashS (64 + 32) (Sha.cat 64 F2 (strB IN)):=mac_eq (Sha.keyF m g) n f F1 F2 IN hF1 hF2 hIN
 have HI2:Hid (∀ (g' c:Nat) (w:World),Code8 w (some ⟨g',0,none⟩) (64 + 32) (Sha.cat 64 F2 (strB IN))→Calls Tryz.prog 86 #[.slice (some ⟨g',0,none⟩) (64 + 32) c] w fun e w' => e = .returned (.string (macS m g n f))∧Below w.heap.size w w'):=fun g' c w h8 => by
  rw [EQ]
  exact l03Hash_any g' 0 (64 + 32) c _ (Sha.cat_lt L5c (strB_lt IN)) (by omega) w h8
 have HK0:Hid (Code8 w (some ⟨b0,o0,none⟩) m g):=k0
 have HCw:Hid (Code8 w (some ⟨b1,o1,none⟩) n f):=k1
 by_cases hlt:64 < m
 ·have x1:(64:Int) < (m:Int):=by omega
  obtain ⟨H,hH⟩:∃ H,H = hashS m g:=⟨_,rfl⟩
  have hHs:H.size = 32:=by rw [hH]; exact hashS_size _ _
  have EK:∀ j,j < 64→Sha.keyF m g j = if j < 32 then strB H j else 0:=fun j hj => by
   rw [hH]
   unfold Sha.keyF
   rw [if_pos hlt]
   by_cases h32:j < 32
   ·rw [if_pos h32,if_pos h32]
    unfold hashS
    rw [strB_kstr _ 0 32 _ (by rw [Nat.zero_add]; exact Sha.hash_lt _ _ _) h32,Nat.zero_add]
   ·rw [if_neg h32,if_neg h32]
  have HA:Hid (Calls Tryz.prog 86 #[.slice (some ⟨b0,o0,none⟩) m c0] w fun e w' => e = .returned (.string H)∧Below w.heap.size w w'):=by
   show Calls _ _ _ _ _
   rw [hH]
   exact l03Hash_any b0 o0 m c0 g hg (by omega) w HK0.out
  have E1:Hid (∀ j,j < 64→F1 j = (if j < 32 then strB H j else 0) ^^^ 54):=fun j hj => by rw [hF1]; show Sha.keyF m g j ^^^ 54 = _; rw [EK j hj]
  have E2:Hid (∀ j,j < 64→F2 j = (if j < 32 then strB H j else 0) ^^^ 92):=fun j hj => by rw [hF2]; show Sha.keyF m g j ^^^ 92 = _; rw [EK j hj]
  have KG:Hid (∀ j,strB H j < 256):=strB_lt H
  generalize macS m g n f = RS at *
  clear hF1 hF2 hIN EQ L36 L5c hi hH EK k0 k1 hf hg HK0
  go_enter Tryz.func119,Tryz.ntmps119
  go_wp2_with fail
  refine HA.out.mono ?_
  rintro e wa ⟨rfl,hba⟩
  obtain ⟨wk,kc,hcv,hkc,hbk,_⟩:=bytesOfM H wa
  rw [hHs] at hcv hkc
  have KC:Hid (Code8 wk (some ⟨wa.heap.size,0,none⟩) 32 (strB H)):=hkc
  have BK:Hid (Below w.heap.size w wk):=hba.trans (hbk.mono hba.size)
  have HCk:Hid (Code8 wk (some ⟨b1,o1,none⟩) n f):=HCw.out.below BK.out
  clear hkc hbk hba HA HCw
  generalize hkb:wa.heap.size = kb at *
  clear hkb
  generalize hkg:strB H = kg at *
  clear hkg
  obtain ⟨m1,hm1⟩:∃ m1:∀ w:World,(Instr.makeSlice 68 (.int .i64 64) (.int .i64 64)).run Tryz.prog w = .ok (.slice (some ⟨w.heap.size,0,none⟩) 64 64) (w.alloc (.cells (madeCells #[.int .u8 0] 64) 5)),True:=⟨mkBytes 64 (by omega),trivial⟩
  clear hm1
  have K0:Hid (Row8 ((wk.alloc (.cells (madeCells #[.int .u8 0] 64) 5)).alloc (.cells (madeCells #[.int .u8 0] 64) 5)) wk.heap.size 5 64 (fun _ => 0)):=Row8.alloc ((World.rowIs_made wk (.int .u8 0) 64 5).congr (fun j hj => rfl)) _
  have K1:Hid (Row8 ((wk.alloc (.cells (madeCells #[.int .u8 0] 64) 5)).alloc (.cells (madeCells #[.int .u8 0] 64) 5)) (wk.heap.size + 1) 5 64 (fun _ => 0)):=by
   have:=World.rowIs_made (wk.alloc (.cells (madeCells #[.int .u8 0] 64) 5)) (.int .u8 0) 64 5
   rw [show (wk.alloc (.cells (madeCells #[.int .u8 0] 64) 5)).heap.size = wk.heap.size + 1 from by simp] at this
   exact this.congr (fun j hj => rfl)
  have K2:Hid (Below wk.heap.size wk ((wk.alloc (.cells (madeCells #[.int .u8 0] 64) 5)).alloc (.cells (madeCells #[.int .u8 0] 64) 5))):=((Below.refl _ _).alloc (Nat.le_refl _) _).alloc (by simp) _
  go_wp2
  generalize (wk.alloc (.cells (madeCells #[.int .u8 0] 64) 5)).alloc (.cells (madeCells #[.int .u8 0] 64) 5) = wz at *
  clear m1
  go_loopw [7,8] (fun i _ wr => ∃ q:Nat,q≤64∧i = .int .i64 q∧Row8 wr wk.heap.size 5 64 (fun j => if j < q then F1 j else 0)∧Row8 wr (wk.heap.size + 1) 5 64 (fun j => if j < q then F2 j else 0)∧Below wk.heap.size wk wr) (fun i _ _ => 64 - (intOf i).toNat)
  case atStart => exact ⟨0,by omega,rfl,K0.out.congr (fun j hj => by simp),K1.out.congr (fun j hj => by simp),K2.out⟩
  case round =>
   clear K0 K1 K2
   obtain ⟨q,hq,rfl,h0,h1,hb⟩:=hrel
   have H0:Hid (Row8 wr wk.heap.size 5 64 (fun j => if j < q then F1 j else 0)):=h0
   have H1:Hid (Row8 wr (wk.heap.size + 1) 5 64 (fun j => if j < q then F2 j else 0)):=h1
   have HB:Hid (Below wk.heap.size wk wr):=hb
   by_cases hlt:q < 64
   ·have hlt':(q:Int) < 64:=by omega
    have c0:=World.rowIs.cell h0 hlt
    have f0:=World.rowIs.frozen h0 q
    have c1:=World.rowIs.cell h1 hlt
    have f1:=World.rowIs.frozen h1 q
    obtain ⟨X,hX⟩:∃ X,X = if q < 32 then kg q else 0:=⟨_,rfl⟩
    have hXl:X < 256:=by rw [hX]; split; exact KG.out q; omega
    have x1:bits .xor .u8 (X:Int) 54 = ((X ^^^ 54:Nat):Int):=e8_xor X 54 hXl (by omega)
    have x2:bits .xor .u8 (X:Int) 92 = ((X ^^^ 92:Nat):Int):=e8_xor X 92 hXl (by omega)
    have V1:Hid (F1 q = X ^^^ 54):=by show _ = _; rw [E1.out q hlt,hX]
    have V2:Hid (F2 q = X ^^^ 92):=by show _ = _; rw [E2.out q hlt,hX]
    generalize X ^^^ 54 = Y1 at *
    generalize X ^^^ 92 = Y2 at *
    have REL:Hid (∀ w':World,w' = (wr.setCell ⟨wk.heap.size,q,none⟩ (.int .u8 (Y1:Int))).setCell ⟨wk.heap.size + 1,q,none⟩ (.int .u8 (Y2:Int))→Row8 w' wk.heap.size 5 64 (fun j => if j < q + 1 then F1 j else 0)∧Row8 w' (wk.heap.size + 1) 5 64 (fun j => if j < q + 1 then F2 j else 0)∧Below wk.heap.size wk w'):=fun w' hw' => by
     subst hw'
     refine ⟨((H0.out.set q Y1).other (by show wk.heap.size≠wk.heap.size + 1; omega) _).congr (fun j hj => ?_),((H1.out.other (a:=⟨wk.heap.size,q,none⟩) (by show wk.heap.size + 1≠wk.heap.size; omega) _).set q Y2).congr (fun j hj => ?_),(HB.out.setCell (Nat.le_refl _) _).setCell (by show wk.heap.size≤wk.heap.size + 1; omega) _⟩
     ·by_cases e:j = q
      ·subst e; rw [if_pos rfl,if_pos (by omega)]; exact V1.out.symm
      ·simp only [if_neg e]
       by_cases h1:j < q
       ·rw [if_pos h1,if_pos (by omega)]
       ·rw [if_neg h1,if_neg (by omega)]
     ·by_cases e:j = q
      ·subst e; rw [if_pos rfl,if_pos (by omega)]; exact V2.out.symm
      ·simp only [if_neg e]
       by_cases h1:j < q
       ·rw [if_pos h1,if_pos (by omega)]
       ·rw [if_neg h1,if_neg (by omega)]
    by_cases hqm:q < 32
    ·have y1:(q:Int) < 32:=by omega
     have ck:wr.cell? ⟨kb,q,none⟩ = some (.int .u8 (X:Int)):=by
      have:=(KC.out.below hb).at hqm
      rw [hX,if_pos hqm]; simpa using this
     clear h0 h1 hb hX
     go_wp2
     go_roundw
     case rel =>
      obtain ⟨r1,r2,r3⟩:=REL.out _ rfl
      exact ⟨q + 1,by omega,by go_num,r1,r2,r3⟩
     case measure => simp [intOf]; omega
    ·have y1:¬ (q:Int) < 32:=by omega
     have hX0:X = 0:=by rw [hX,if_neg hqm]
     have x1':bits .xor .u8 0 54 = (Y1:Int):=by rw [hX0] at x1; exact x1
     have x2':bits .xor .u8 0 92 = (Y2:Int):=by rw [hX0] at x2; exact x2
     clear h0 h1 hb hX hX0 x1 x2
     go_wp2
     go_roundw
     case rel =>
      obtain ⟨r1,r2,r3⟩:=REL.out _ rfl
      exact ⟨q + 1,by omega,by go_num,r1,r2,r3⟩
     case measure => simp [intOf]; omega
   ·have hlt':¬ (q:Int) < 64:=by omega
    have O1:Hid (wr.ownsRow wk.heap.size 5 1 (.slice (some ⟨wk.heap.size,0,none⟩) 64 64) 64 (bv 64 F1)):=own_of_row (h0.congr (fun j hj => by rw [if_pos (by omega)])) (Nat.le_refl _)
    have P2:Hid (Row8 wr (wk.heap.size + 1) 5 64 F2):=h1.congr (fun j hj => by rw [if_pos (by omega)])
    have HBC:Hid (Code8 wr (some ⟨b1,o1,none⟩) n f):=HCk.out.below hb
    have HWW:Hid (Below w.heap.size w wr):=BK.out.trans (hb.mono BK.out.size)
    have hsw:=hb.size
    clear h0 h1 hb H0 H1
    go_wp2_with (first
     | (at_builtin; refine wpList_append_own _ rfl (.tmp 40) _ 68 rfl wk.heap.size 5 i0 (.int .u8 0) 1 1 Tryz.underlying68 HI.out.1 HI.out.2.1 HI.out.2.2.1 HI.out.2.2.2 rfl (by decide) (.slice (some ⟨wk.heap.size,0,none⟩) 64 64) 64 _ rfl O1.out ⟨b1,o1,none⟩ n c1 (bv n f) rfl (by rw [bv_length,Nat.mul_one]) (bv_news HBC.out) (bv_one _ _) (by unfold maxLen; omega) (by omega) hsw ?_))
    intro v' w2 hown hgrow hnil
    have BG:Below wk.heap.size wr w2:=grown_below O1.out hgrow hsw
    have h2lt:wk.heap.size + 1 < wr.heap.size:=P2.out.lt
    have P22:Hid (Row8 w2 (wk.heap.size + 1) 5 64 F2):=World.rowIs.of_block P2.out (hgrow.block _ h2lt (by simp [Value.ownBlock]))
    rw [bv_append] at hown
    obtain ⟨g2,c2,hgc,rfl,ho2⟩:=own8_of_own hown hnil
    have HO2:Hid (Code8 w2 (some ⟨g2,0,none⟩) (64 + n) (Sha.cat 64 F1 f)):=ho2.code
    have HW2:Hid (Below w.heap.size w w2):=HWW.out.trans (BG.mono BK.out.size)
    have HS2:Hid (wk.heap.size + 1 < w2.heap.size):=P22.out.lt
    clear hown hgrow hnil BG hgc ho2 O1 P2 HBC HWW
    go_wp2_with fail
    refine (HI1.out g2 c2 _ HO2.out).mono ?_
    rintro e w3 ⟨rfl,hb3⟩
    have P3:Hid (Row8 w3 (wk.heap.size + 1) 5 64 F2):=P22.out.below hb3
    have O3:Hid (w3.ownsRow (wk.heap.size + 1) 5 1 (.slice (some ⟨wk.heap.size + 1,0,none⟩) 64 64) 64 (bv 64 F2)):=own_of_row P3.out (Nat.le_refl _)
    have HW3:Hid (Below w.heap.size w w3):=HW2.out.trans (hb3.mono HW2.out.size)
    have hs3:wk.heap.size + 1≤w3.heap.size:=Nat.le_of_lt P3.out.lt
    clear hb3 HO2 HW2 P22 HS2
    go_wp2_with (first
     | (at_builtin; refine Lib.wpList_append_own_string _ rfl (.tmp 39) _ 68 9 rfl (wk.heap.size + 1) 5 i0 Tryz.underlying68 Tryz.underlying9 HI.out.1 HI.out.2.1 HI.out.2.2.1 HI.out.2.2.2 (.slice (some ⟨wk.heap.size + 1,0,none⟩) 64 64) 64 _ rfl O3.out IN rfl (by rw [hINs]; unfold maxLen; omega) (by rw [hINs]; omega) hs3 ?_))
    intro v' w4 hown hgrow hnil
    have BG:Below (wk.heap.size + 1) w3 w4:=grown_below O3.out hgrow hs3
    have ES:Lib.strCells IN = bv 32 (strB IN):=(bv_textM IN 32 hINs).symm
    rw [ES,bv_append] at hown
    obtain ⟨g4,c4,hgc,rfl,ho4⟩:=own8_of_own hown hnil
    have HO4:Hid (Code8 w4 (some ⟨g4,0,none⟩) (64 + 32) (Sha.cat 64 F2 (strB IN))):=ho4.code
    have HW4:Hid (Below w.heap.size w w4):=HW3.out.trans (BG.mono (by have:=BK.out.size; omega))
    clear hown hgrow hnil BG hgc ho4 ES O3 P3 HW3
    go_wp2_with fail
    refine (HI2.out g4 c4 _ HO4.out).mono ?_
    rintro e w5 ⟨rfl,hb5⟩
    have HW5:Hid (Below w.heap.size w w5):=HW4.out.trans (hb5.mono HW4.out.size)
    clear hb5 HO4 HW4
    go_wp2
    go_ret
    exact ⟨rfl,HW5.out⟩
 ·have x1:¬ (64:Int) < (m:Int):=by omega
  have EK:∀ j,j < 64→Sha.keyF m g j = if j < m then g j else 0:=fun j hj => by
   unfold Sha.keyF
   rw [if_neg hlt]
  have E1:Hid (∀ j,j < 64→F1 j = (if j < m then g j else 0) ^^^ 54):=fun j hj => by rw [hF1]; show Sha.keyF m g j ^^^ 54 = _; rw [EK j hj]
  have E2:Hid (∀ j,j < 64→F2 j = (if j < m then g j else 0) ^^^ 92):=fun j hj => by rw [hF2]; show Sha.keyF m g j ^^^ 92 = _; rw [EK j hj]
  have KG:Hid (∀ j,g j < 256):=hg
  generalize macS m g n f = RS at *
  clear hF1 hF2 hIN EQ L36 L5c hi EK k0 k1 hf hg
  go_enter Tryz.func119,Tryz.ntmps119
  obtain ⟨m1,hm1⟩:∃ m1:∀ w:World,(Instr.makeSlice 68 (.int .i64 64) (.int .i64 64)).run Tryz.prog w = .ok (.slice (some ⟨w.heap.size,0,none⟩) 64 64) (w.alloc (.cells (madeCells #[.int .u8 0] 64) 5)),True:=⟨mkBytes 64 (by omega),trivial⟩
  clear hm1
  have K0:Hid (Row8 ((w.alloc (.cells (madeCells #[.int .u8 0] 64) 5)).alloc (.cells (madeCells #[.int .u8 0] 64) 5)) w.heap.size 5 64 (fun _ => 0)):=Row8.alloc ((World.rowIs_made w (.int .u8 0) 64 5).congr (fun j hj => rfl)) _
  have K1:Hid (Row8 ((w.alloc (.cells (madeCells #[.int .u8 0] 64) 5)).alloc (.cells (madeCells #[.int .u8 0] 64) 5)) (w.heap.size + 1) 5 64 (fun _ => 0)):=by
   have:=World.rowIs_made (w.alloc (.cells (madeCells #[.int .u8 0] 64) 5)) (.int .u8 0) 64 5
   rw [show (w.alloc (.cells (madeCells #[.int .u8 0] 64) 5)).heap.size = w.heap.size + 1 from by simp] at this
   exact this.congr (fun j hj => rfl)
  have K2:Hid (Below w.heap.size w ((w.alloc (.cells (madeCells #[.int .u8 0] 64) 5)).alloc (.cells (madeCells #[.int .u8 0] 64) 5))):=((Below.refl _ _).alloc (Nat.le_refl _) _).alloc (by simp) _
  go_wp2
  generalize (w.alloc (.cells (madeCells #[.int .u8 0] 64) 5)).alloc (.cells (madeCells #[.int .u8 0] 64) 5) = wz at *
  clear m1
  go_loopw [7,8] (fun i _ wr => ∃ q:Nat,q≤64∧i = .int .i64 q∧Row8 wr w.heap.size 5 64 (fun j => if j < q then F1 j else 0)∧Row8 wr (w.heap.size + 1) 5 64 (fun j => if j < q then F2 j else 0)∧Below w.heap.size w wr) (fun i _ _ => 64 - (intOf i).toNat)
  case atStart => exact ⟨0,by omega,rfl,K0.out.congr (fun j hj => by simp),K1.out.congr (fun j hj => by simp),K2.out⟩
  case round =>
   clear K0 K1 K2
   obtain ⟨q,hq,rfl,h0,h1,hb⟩:=hrel
   have H0:Hid (Row8 wr w.heap.size 5 64 (fun j => if j < q then F1 j else 0)):=h0
   have H1:Hid (Row8 wr (w.heap.size + 1) 5 64 (fun j => if j < q then F2 j else 0)):=h1
   have HB:Hid (Below w.heap.size w wr):=hb
   by_cases hlt:q < 64
   ·have hlt':(q:Int) < 64:=by omega
    have c0:=World.rowIs.cell h0 hlt
    have f0:=World.rowIs.frozen h0 q
    have c1:=World.rowIs.cell h1 hlt
    have f1:=World.rowIs.frozen h1 q
    obtain ⟨X,hX⟩:∃ X,X = if q < m then g q else 0:=⟨_,rfl⟩
    have hXl:X < 256:=by rw [hX]; split; exact KG.out q; omega
    have x1:bits .xor .u8 (X:Int) 54 = ((X ^^^ 54:Nat):Int):=e8_xor X 54 hXl (by omega)
    have x2:bits .xor .u8 (X:Int) 92 = ((X ^^^ 92:Nat):Int):=e8_xor X 92 hXl (by omega)
    have V1:Hid (F1 q = X ^^^ 54):=by show _ = _; rw [E1.out q hlt,hX]
    have V2:Hid (F2 q = X ^^^ 92):=by show _ = _; rw [E2.out q hlt,hX]
    generalize X ^^^ 54 = Y1 at *
    generalize X ^^^ 92 = Y2 at *
    have REL:Hid (∀ w':World,w' = (wr.setCell ⟨w.heap.size,q,none⟩ (.int .u8 (Y1:Int))).setCell ⟨w.heap.size + 1,q,none⟩ (.int .u8 (Y2:Int))→Row8 w' w.heap.size 5 64 (fun j => if j < q + 1 then F1 j else 0)∧Row8 w' (w.heap.size + 1) 5 64 (fun j => if j < q + 1 then F2 j else 0)∧Below w.heap.size w w'):=fun w' hw' => by
     subst hw'
     refine ⟨((H0.out.set q Y1).other (by show w.heap.size≠w.heap.size + 1; omega) _).congr (fun j hj => ?_),((H1.out.other (a:=⟨w.heap.size,q,none⟩) (by show w.heap.size + 1≠w.heap.size; omega) _).set q Y2).congr (fun j hj => ?_),(HB.out.setCell (Nat.le_refl _) _).setCell (by show w.heap.size≤w.heap.size + 1; omega) _⟩
     ·by_cases e:j = q
      ·subst e; rw [if_pos rfl,if_pos (by omega)]; exact V1.out.symm
      ·simp only [if_neg e]
       by_cases h1:j < q
       ·rw [if_pos h1,if_pos (by omega)]
       ·rw [if_neg h1,if_neg (by omega)]
     ·by_cases e:j = q
      ·subst e; rw [if_pos rfl,if_pos (by omega)]; exact V2.out.symm
      ·simp only [if_neg e]
       by_cases h1:j < q
       ·rw [if_pos h1,if_pos (by omega)]
       ·rw [if_neg h1,if_neg (by omega)]
    by_cases hqm:q < m
    ·have y1:(q:Int) < (m:Int):=by omega
     have ck:wr.cell? ⟨b0,o0 + q,none⟩ = some (.int .u8 (X:Int)):=by
      have:=(HK0.out.below hb).at hqm
      rw [hX,if_pos hqm]; simpa using this
     clear h0 h1 hb hX
     go_wp2
     go_roundw
     case rel =>
      obtain ⟨r1,r2,r3⟩:=REL.out _ rfl
      exact ⟨q + 1,by omega,by go_num,r1,r2,r3⟩
     case measure => simp [intOf]; omega
    ·have y1:¬ (q:Int) < (m:Int):=by omega
     have hX0:X = 0:=by rw [hX,if_neg hqm]
     have x1':bits .xor .u8 0 54 = (Y1:Int):=by rw [hX0] at x1; exact x1
     have x2':bits .xor .u8 0 92 = (Y2:Int):=by rw [hX0] at x2; exact x2
     clear h0 h1 hb hX hX0 x1 x2
     go_wp2
     go_roundw
     case rel =>
      obtain ⟨r1,r2,r3⟩:=REL.out _ rfl
      exact ⟨q + 1,by omega,by go_num,r1,r2,r3⟩
     case measure => simp [intOf]; omega
   ·have hlt':¬ (q:Int) < 64:=by omega
    have O1:Hid (wr.ownsRow w.heap.size 5 1 (.slice (some ⟨w.heap.size,0,none⟩) 64 64) 64 (bv 64 F1)):=own_of_row (h0.congr (fun j hj => by rw [if_pos (by omega)])) (Nat.le_refl _)
    have P2:Hid (Row8 wr (w.heap.size + 1) 5 64 F2):=h1.congr (fun j hj => by rw [if_pos (by omega)])
    have HBC:Hid (Code8 wr (some ⟨b1,o1,none⟩) n f):=HCw.out.below hb
    have HWW:Hid (Below w.heap.size w wr):=hb
    have hsw:=hb.size
    clear h0 h1 hb H0 H1
    go_wp2_with (first
     | (at_builtin; refine wpList_append_own _ rfl (.tmp 40) _ 68 rfl w.heap.size 5 i0 (.int .u8 0) 1 1 Tryz.underlying68 HI.out.1 HI.out.2.1 HI.out.2.2.1 HI.out.2.2.2 rfl (by decide) (.slice (some ⟨w.heap.size,0,none⟩) 64 64) 64 _ rfl O1.out ⟨b1,o1,none⟩ n c1 (bv n f) rfl (by rw [bv_length,Nat.mul_one]) (bv_news HBC.out) (bv_one _ _) (by unfold maxLen; omega) (by omega) hsw ?_))
    intro v' w2 hown hgrow hnil
    have BG:Below w.heap.size wr w2:=grown_below O1.out hgrow hsw
    have h2lt:w.heap.size + 1 < wr.heap.size:=P2.out.lt
    have P22:Hid (Row8 w2 (w.heap.size + 1) 5 64 F2):=World.rowIs.of_block P2.out (hgrow.block _ h2lt (by simp [Value.ownBlock]))
    rw [bv_append] at hown
    obtain ⟨g2,c2,hgc,rfl,ho2⟩:=own8_of_own hown hnil
    have HO2:Hid (Code8 w2 (some ⟨g2,0,none⟩) (64 + n) (Sha.cat 64 F1 f)):=ho2.code
    have HW2:Hid (Below w.heap.size w w2):=HWW.out.trans (BG.mono (Nat.le_refl _))
    have HS2:Hid (w.heap.size + 1 < w2.heap.size):=P22.out.lt
    clear hown hgrow hnil BG hgc ho2 O1 P2 HBC HWW
    go_wp2_with fail
    refine (HI1.out g2 c2 _ HO2.out).mono ?_
    rintro e w3 ⟨rfl,hb3⟩
    have P3:Hid (Row8 w3 (w.heap.size + 1) 5 64 F2):=P22.out.below hb3
    have O3:Hid (w3.ownsRow (w.heap.size + 1) 5 1 (.slice (some ⟨w.heap.size + 1,0,none⟩) 64 64) 64 (bv 64 F2)):=own_of_row P3.out (Nat.le_refl _)
    have HW3:Hid (Below w.heap.size w w3):=HW2.out.trans (hb3.mono HW2.out.size)
    have hs3:w.heap.size + 1≤w3.heap.size:=Nat.le_of_lt P3.out.lt
    clear hb3 HO2 HW2 P22 HS2
    go_wp2_with (first
     | (at_builtin; refine Lib.wpList_append_own_string _ rfl (.tmp 39) _ 68 9 rfl (w.heap.size + 1) 5 i0 Tryz.underlying68 Tryz.underlying9 HI.out.1 HI.out.2.1 HI.out.2.2.1 HI.out.2.2.2 (.slice (some ⟨w.heap.size + 1,0,none⟩) 64 64) 64 _ rfl O3.out IN rfl (by rw [hINs]; unfold maxLen; omega) (by rw [hINs]; omega) hs3 ?_))
    intro v' w4 hown hgrow hnil
    have BG:Below (w.heap.size + 1) w3 w4:=grown_below O3.out hgrow hs3
    have ES:Lib.strCells IN = bv 32 (strB IN):=(bv_textM IN 32 hINs).symm
    rw [ES,bv_append] at hown
    obtain ⟨g4,c4,hgc,rfl,ho4⟩:=own8_of_own hown hnil
    have HO4:Hid (Code8 w4 (some ⟨g4,0,none⟩) (64 + 32) (Sha.cat 64 F2 (strB IN))):=ho4.code
    have HW4:Hid (Below w.heap.size w w4):=HW3.out.trans (BG.mono (by omega))
    clear hown hgrow hnil BG hgc ho4 ES O3 P3 HW3
    go_wp2_with fail
    refine (HI2.out g4 c4 _ HO4.out).mono ?_
    rintro e w5 ⟨rfl,hb5⟩
    have HW5:Hid (Below w.heap.size w w5):=HW4.out.trans (hb5.mono HW4.out.size)
    clear hb5 HO4 HW4
    go_wp2
    go_ret
    exact ⟨rfl,HW5.out⟩
def lastS (K:Nat→Nat) (m:Nat) (g:Nat→Nat) (q:Nat):ByteArray:=kstr (Sha.drawnB K m g q) 0 (if q = 0 then 0 else 32)
theorem kstr_none (f:Nat→Nat) (o:Nat):kstr f o 0 = ⟨#[]⟩:=rfl
theorem lastS_zero (K:Nat→Nat) (m:Nat) (g:Nat→Nat):lastS K m g 0 = ⟨#[]⟩:=by unfold lastS; rw [if_pos rfl]; rfl
theorem lastS_succ (K:Nat→Nat) (m:Nat) (g:Nat→Nat) (q:Nat):lastS K m g (q + 1) = kstr (Sha.drawnB K m g (q + 1)) 0 32:=by unfold lastS; rw [if_neg (by omega)]
theorem drawnB_succ (K:Nat→Nat) (m:Nat) (g:Nat→Nat) (q:Nat):Sha.drawnB K m g (q + 1) = Sha.mac K ((if q = 0 then 0 else 32) + m + 1) (Sha.cat (if q = 0 then 0 else 32) (Sha.drawnB K m g q) (Sha.cat m g (fun _ => (q + 1) % 256))):=rfl
theorem out_grow (K:Nat→Nat) (m:Nat) (g:Nat→Nat) (q:Nat):kstr (Sha.drawnF K m g) 0 (32 * q) ++ lastS K m g (q + 1) = kstr (Sha.drawnF K m g) 0 (32 * (q + 1)):=by
 have e:kstr (Sha.drawnB K m g (q + 1)) 0 32 = kstr (Sha.drawnF K m g) (0 + 32 * q) 32:=kstr_congr (fun i hi => by
  unfold Sha.drawnF
  rw [show (0 + 32 * q + i) / 32 + 1 = q + 1 from by omega,show (0 + 32 * q + i) % 32 = 0 + i from by omega])
 have:=kstr_append (Sha.drawnF K m g) 0 (32 * q) 32
 rw [lastS_succ,e,this]
 rfl
set_option maxRecDepth 100000 in
set_option maxHeartbeats 4000000 in
theorem l03Expand_any (k:ByteArray) (hk:k.size≤65536) (b o m c n:Nat) (g:Nat→Nat) (hg:∀ i,g i < 256) (hm:m≤65536) (hn:n≤8160) (w:World) (h:Code8 w (some ⟨b,o,none⟩) m g) :
  Calls Tryz.prog 118 #[.string k,.slice (some ⟨b,o,none⟩) m c,.int .i64 (n:Int)] w fun e w' => e = .returned (.string (kstr (Sha.drawnF (Sha.keyF k.size (strB k)) m g) 0 n))∧Below w.heap.size w w':=by
 obtain ⟨K,hK⟩:∃ K,K = Sha.keyF k.size (strB k):=⟨_,rfl⟩
 rw [← hK]
 have HC:Hid (Code8 w (some ⟨b,o,none⟩) m g):=h
 have MC:Hid (∀ (q kb kc g' c':Nat) (w':World),Code8 w' (some ⟨kb,0,none⟩) k.size (strB k)→Code8 w' (some ⟨g',0,none⟩) ((if q = 0 then 0 else 32) + m + 1) (Sha.cat (if q = 0 then 0 else 32) (Sha.drawnB K m g q) (Sha.cat m g (fun _ => (q + 1) % 256)))→Calls Tryz.prog 119 #[.slice (some ⟨kb,0,none⟩) k.size kc,.slice (some ⟨g',0,none⟩) ((if q = 0 then 0 else 32) + m + 1) c'] w' fun e w'' => e = .returned (.string (lastS K m g (q + 1)))∧Below w'.heap.size w' w''):=fun q kb kc g' c' w' h0 h1 => by
  have lB:∀ j,Sha.drawnB K m g q j < 256:=by
   cases q with
   | zero => intro j; show 0 < 256; omega
   | succ q => intro j; exact Sha.mac_lt _ _ _ _
  have:=l03Hmac_any kb 0 k.size kc g' 0 _ c' (strB k) _ (strB_lt k) (Sha.cat_lt lB (Sha.cat_lt hg (fun _ => Nat.mod_lt _ (by omega)))) (by omega) (by split <;> omega) w' h0 h1
  unfold macS at this
  rw [← hK,← drawnB_succ,← lastS_succ] at this
  exact this
 clear h hg hK
 go_enter Tryz.func118,Tryz.ntmps118
 go_wp2
 go_loopw [7,8,9] (fun s t i wr => ∃ q:Nat,q≤255∧i = .int .i64 ((q + 1:Nat):Int)∧s = .string (kstr (Sha.drawnF K m g) 0 (32 * q))∧t = .string (lastS K m g q)∧Below w.heap.size w wr) (fun _ _ i _ => 9000 - (intOf i).toNat)
 case atStart => exact ⟨0,by omega,rfl,by rw [Nat.mul_zero,kstr_none],by rw [lastS_zero],Below.refl _ _⟩
 case round =>
  obtain ⟨q,hq,rfl,rfl,rfl,hb⟩:=hrel
  have HB:Hid (Below w.heap.size w wr):=hb
  clear hb
  have hsO:(kstr (Sha.drawnF K m g) 0 (32 * q)).size = 32 * q:=kstr_size _ _ _
  by_cases hlt:32 * q < n
  ·have hlt':((32 * q:Nat):Int) < (n:Int):=by omega
   obtain ⟨n0,hn0⟩:∃ n0,n0 = if q = 0 then 0 else 32:=⟨_,rfl⟩
   have hn32:n0≤32:=by rw [hn0]; split <;> omega
   have hsL:(lastS K m g q).size = n0:=by rw [hn0]; exact kstr_size _ _ _
   have HFL:Hid (∀ j,j < n0→strB (lastS K m g q) j = Sha.drawnB K m g q j):=fun j hj => by
    have lB:∀ j,Sha.drawnB K m g q j < 256:=by
     cases q with
     | zero => intro j; show 0 < 256; omega
     | succ q => intro j; exact Sha.mac_lt _ _ _ _
    unfold lastS
    rw [← hn0,strB_kstr _ 0 n0 j (by rw [Nat.zero_add]; exact lB j) hj,Nat.zero_add]
   obtain ⟨X,hX⟩:∃ X,X = (q + 1) % 256:=⟨_,rfl⟩
   have wX:IntKind.u8.wrap ((q + 1:Nat):Int) = (X:Int):=by show ((q + 1:Nat):Int) % 256 = _; omega
   have wX2:((q:Int) + 1) % 256 = (X:Int):=by omega
   have MQ:Hid (∀ (kb kc g' c':Nat) (w':World),Code8 w' (some ⟨kb,0,none⟩) k.size (strB k)→Code8 w' (some ⟨g',0,none⟩) (n0 + m + 1) (Sha.cat n0 (Sha.drawnB K m g q) (Sha.cat m g (fun _ => X)))→Calls Tryz.prog 119 #[.slice (some ⟨kb,0,none⟩) k.size kc,.slice (some ⟨g',0,none⟩) (n0 + m + 1) c'] w' fun e w'' => e = .returned (.string (lastS K m g (q + 1)))∧Below w'.heap.size w' w''):=fun kb kc g' c' w' h0 h1 => by
    have:=MC.out q kb kc g' c' w' h0 (by rw [← hn0,← hX]; exact h1)
    rw [← hn0] at this
    exact this
   have HAP:Hid (kstr (Sha.drawnF K m g) 0 (32 * q) ++ lastS K m g (q + 1) = kstr (Sha.drawnF K m g) 0 (32 * (q + 1))):=out_grow K m g q
   have hsN:(lastS K m g (q + 1)).size = 32:=by rw [lastS_succ]; exact kstr_size _ _ _
   have hqb:q≤254:=by omega
   have HXq:Hid ((q:Int) + 1 = (X:Int)):=by show _ = _; omega
   clear hn0 hX MC wX wX2
   generalize hOS:kstr (Sha.drawnF K m g) 0 (32 * q) = OS at *
   generalize hLN:lastS K m g (q + 1) = LN at *
   have HLN:Hid (lastS K m g (q + 1) = LN):=hLN
   clear hLN
   generalize lastS K m g q = LS at *
   clear hOS
   obtain ⟨wa,kc,hcv1,hk1,hb1,_⟩:=bytesOfM k wr
   obtain ⟨wb,lc,hcv2,hk2,hb2⟩:=bytesOfR LS wa
   rw [hsL] at hcv2 hk2
   have HBb:Hid (Below w.heap.size w wb):=(HB.out.trans (hb1.mono HB.out.size)).trans (hb2.mono (Nat.le_trans HB.out.size hb1.size))
   have hKb:Code8 wb (some ⟨wr.heap.size,0,none⟩) k.size (strB k):=hk1.below hb2
   have hIb:Code8 wb (some ⟨b,o,none⟩) m g:=HC.out.below HBb.out
   obtain ⟨g3,c3,w3,hap1,hr3,hb3,hB3⟩:=appendM wb wa.heap.size wa.heap.size n0 lc _ b o m c g (Nat.le_refl _) hb2.size (by omega) (hk2.congr HFL.out) hIb 68
   have hK3:Code8 w3 (some ⟨wr.heap.size,0,none⟩) k.size (strB k):=hKb.belowO hb3 hk1.lt
   have hA4:Below w3.heap.size w3 (w3.alloc (.cells #[.int .u8 ((q:Int) + 1)] 5)):=(Below.refl _ _).alloc (Nat.le_refl _) _
   have hs3:wa.heap.size≤w3.heap.size:=Nat.le_trans hb2.size hb3.size
   have hX4:Code8 (w3.alloc (.cells #[.int .u8 ((q:Int) + 1)] 5)) (some ⟨w3.heap.size,0,none⟩) 1 (fun _ => X):=fun i hi => ⟨_,0,rfl,by rw [show 0 + i = 0 from by omega,← HXq.out]; simp⟩
   obtain ⟨g5,c5,w5,hap2,hr5,hb5,_⟩:=appendM (w3.alloc (.cells #[.int .u8 ((q:Int) + 1)] 5)) wa.heap.size g3 (n0 + m) c3 _ w3.heap.size 0 1 1 (fun _ => X) hB3 (Nat.le_trans hs3 hA4.size) (by omega) (hr3.below hA4) hX4 68
   have HM5:Hid (Code8 w5 (some ⟨g5,0,none⟩) (n0 + m + 1) (Sha.cat n0 (Sha.drawnB K m g q) (Sha.cat m g (fun _ => X)))):=hr5.code.congr (fun i hi => by
    unfold Sha.cat
    by_cases h0:i < n0
    ·rw [if_pos (by omega),if_pos h0,if_pos h0]
    ·by_cases h1:i < n0 + m
     ·rw [if_pos h1,if_neg h0,if_neg h0,if_pos (by omega)]
     ·rw [if_neg h1,if_neg h0,if_neg (show ¬ i - n0 < m by omega)])
   have HK5:Hid (Code8 w5 (some ⟨wr.heap.size,0,none⟩) k.size (strB k)):=(hK3.below hA4).belowO hb5 hk1.lt
   have hwa:w.heap.size≤wa.heap.size:=Nat.le_trans HB.out.size hb1.size
   have HB5:Hid (Below w.heap.size w w5):=((HBb.out.trans (hb3.mono hwa)).trans (hA4.mono (Nat.le_trans hwa hs3))).trans (hb5.mono hwa)
   clear hK3 hA4 hs3 hX4 hr5 hb5 hr3 hb3 hB3 hKb hIb hk1 hk2 hb1 hb2 hwa HBb HFL
   have HAP1:Hid _:=hap1
   have HAP2:Hid _:=hap2
   clear hap1 hap2
   go_wp2_with (first
    | (at_builtin; refine Lib.wpList_append_run _ rfl (.tmp 19) (.tmp 20) _ _ rfl _ _ rfl rfl _ _ HAP1.out ?_)
    | (at_builtin; refine Lib.wpList_append_run _ rfl (.tmp 21) (.tmp 24) _ _ rfl _ _ rfl rfl _ _ HAP2.out ?_))
   refine (MQ.out _ _ _ _ _ HK5.out HM5.out).mono ?_
   rintro e w6 ⟨rfl,hb6⟩
   have HB6:Hid (Below w.heap.size w w6):=HB5.out.trans (hb6.mono HB5.out.size)
   clear hb6 HB5 HK5 HM5 MQ HAP1 HAP2 hcv1 hcv2
   go_wp2
   go_roundw
   case rel => exact ⟨q + 1,by omega,by go_num,by rw [HAP.out],by rw [HLN.out],HB6.out⟩
   case measure => simp [intOf]; omega
  ·have hlt':¬ ((32 * q:Nat):Int) < (n:Int):=by omega
   have hex:(kstr (Sha.drawnF K m g) 0 (32 * q)).extract 0 n = kstr (Sha.drawnF K m g) 0 n:=by
    have:=kstr_extract (kstr (Sha.drawnF K m g) 0 (32 * q)) 0 n (by rw [kstr_size]; omega)
    rw [Nat.zero_add] at this
    rw [this]
    exact kstr_congr (fun i hi => by rw [Nat.zero_add,strB_kstr _ 0 (32 * q) i (by rw [Nat.zero_add]; exact Sha.drawnF_lt _ _ _ _) (by omega),Nat.zero_add])
   have x1:(n:Int)≤((32 * q:Nat):Int):=by omega
   generalize hOS:kstr (Sha.drawnF K m g) 0 (32 * q) = OS at *
   generalize hON:kstr (Sha.drawnF K m g) 0 n = ON at hex
   have HON:Hid (kstr (Sha.drawnF K m g) 0 n = ON):=hON
   clear hOS hON MC HC
   go_wp2
   go_ret
   exact ⟨by rw [HON.out]; rfl,HB.out⟩
def sealF (i:Nat):Nat:=if i = 0 then 115 else if i = 1 then 101 else if i = 2 then 97 else 108
theorem sealF_lt (i:Nat):sealF i < 256:=by unfold sealF; split; omega; split; omega; split <;> omega
def keysF (i:Nat):Nat:=if i = 0 then 107 else if i = 1 then 101 else if i = 2 then 121 else 115
theorem keysF_lt (i:Nat):keysF i < 256:=by unfold keysF; split; omega; split; omega; split <;> omega
theorem conv_rowS (w:World) (C:Array Value) (n c:Nat):(convert 68 68 (.slice (some ⟨w.heap.size,0,none⟩) n c)).run Tryz.prog (w.alloc (.cells C 5)) = .ok (.slice (some ⟨w.heap.size,0,none⟩) n c) (w.alloc (.cells C 5 (C.size,C.size + 1))):=by
 have hsh:(w.alloc (.cells C 5)).shape? w.heap.size = some (5,C.size):=by
  have:(w.alloc (.cells C 5)).heap[w.heap.size]? = some (.cells C 5):=by
   show (w.heap.push (.cells C 5))[w.heap.size]? = _
   simp
  unfold World.shape?
  rw [this]
 have hfr:(w.alloc (.cells C 5)).freeze ⟨w.heap.size,C.size,none⟩ 1 = w.alloc (.cells C 5 (C.size,C.size + 1)):=by
  have hm:∀ (a:Array Obj) (x:Obj) (f:Obj→Obj),(a.push x).modify a.size f = a.push (f x):=by
   intro a x f
   apply Array.ext
   ·simp
   ·intro i h1 h2
    simp only [Array.getElem_modify,Array.getElem_push]
    by_cases h:a.size = i
    ·subst h
     simp
    ·have hi:i < a.size:=by simp at h1; omega
     simp [h,hi]
  unfold World.freeze
  rw [if_neg (by decide)]
  show ({ w.alloc (.cells C 5) with heap:=(w.heap.push (.cells C 5)).modify w.heap.size _ }:World) = _
  rw [hm]
  rfl
 simp [convert,run_underlying Tryz.underlying68,run_underlying Tryz.underlying5,markStringish,hsh]
 exact hfr
theorem seal_code (w:World):Code8 (w.alloc (.cells #[.int .u8 115,.int .u8 101,.int .u8 97,.int .u8 108] 5 (4,5))) (some ⟨w.heap.size,0,none⟩) 4 sealF:=code8_of (fun i hi => by
 rw [Nat.zero_add,World.cell?_alloc_mark]
 rcases (show i = 0∨i = 1∨i = 2∨i = 3 by omega) with rfl | rfl | rfl | rfl <;> (simp [sealF]))
theorem keys_code (w:World):Code8 (w.alloc (.cells #[.int .u8 107,.int .u8 101,.int .u8 121,.int .u8 115] 5 (4,5))) (some ⟨w.heap.size,0,none⟩) 4 keysF:=code8_of (fun i hi => by
 rw [Nat.zero_add,World.cell?_alloc_mark]
 rcases (show i = 0∨i = 1∨i = 2∨i = 3 by omega) with rfl | rfl | rfl | rfl <;> (simp [keysF]))
def secS (k:ByteArray):ByteArray:=macS 4 sealF 32 (strB k)
def pairF (k:ByteArray):Nat→Nat:=Sha.drawnF (Sha.keyF 32 (strB (secS k))) 4 keysF
theorem pairF_lt (k:ByteArray) (i:Nat):pairF k i < 256:=Sha.drawnF_lt _ _ _ _
theorem secS_size (k:ByteArray):(secS k).size = 32:=macS_size _ _ _ _
def encS (k:ByteArray):ByteArray:=kstr (pairF k) 0 32
def tagS (k:ByteArray):ByteArray:=kstr (pairF k) 32 32
theorem encS_size (k:ByteArray):(encS k).size = 32:=kstr_size _ _ _
theorem tagS_size (k:ByteArray):(tagS k).size = 32:=kstr_size _ _ _
end Go.Proofs.YtcpjeopnhgoonaaGreatDoor
