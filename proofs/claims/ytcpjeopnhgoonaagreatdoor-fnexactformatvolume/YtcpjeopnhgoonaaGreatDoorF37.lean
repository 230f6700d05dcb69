/-
  Texts of the proof, joined.
-/
import Derived.Test.YtcpjeopnhgoonaaGreatDoorF28
namespace Go.Proofs.YtcpjeopnhgoonaaGreatDoor
open Go.ChangeShapes Go.WideShapes Go.ChangeAt Go.RowKit
set_option linter.unusedVariables false
def slotX (i:Nat):Nat:=if i = 0 then 115 else if i = 1 then 108 else if i = 2 then 111 else 116
theorem slotX_lt (i:Nat):slotX i < 256:=by unfold slotX; split; omega; split; omega; split; omega; omega
def slotF (k:ByteArray) (p ep:Nat) (s:ByteArray):Nat→Nat:=Sha.cat 4 (fourF ep) (sealedF k (kstr (nonceF p ep) 0 12) 4 slotX s.size (strB s))
theorem slot_code (w:World):Code8 (w.alloc (.cells #[.int .u8 115,.int .u8 108,.int .u8 111,.int .u8 116] 5 (4,5))) (some ⟨w.heap.size,0,none⟩) 4 slotX:=code8_of (fun i hi => by
 rw [Nat.zero_add,World.cell?_alloc_mark]
 rcases (show i = 0∨i = 1∨i = 2∨i = 3 by omega) with rfl | rfl | rfl | rfl <;> (simp [slotX]))
theorem num0_four (x:Nat) (i:Nat):numF 0 4 x (fun _ => 0) i = fourF x i:=by have:=four_num 0 x (fun _ => 0) i; rwa [Nat.zero_add] at this
set_option maxRecDepth 100000 in
set_option maxHeartbeats 4000000 in
theorem sealedSlot_any (k s:ByteArray) (p ep:Nat) (hk:k.size = 32) (hp:p < 4294967296) (hep:ep < 4294967296) (hs:s.size≤60000) (w:World) (ht:Tabs w) :
  Calls Tryz.prog 108 #[.string k,.int .i64 (p:Int),.agg #[.int .i64 (ep:Int),.string s]] w fun e w' => RetO w.heap.size w' e (20 + s.size) (slotF k p ep s)∧Below w.heap.size w w':=by
 obtain ⟨i0,hi⟩:=info_parts Tryz.info8
 have HI:Hid (Tryz.prog.info? 5 = some i0∧i0.zero = some (.int .u8 0)∧i0.size = 1∧i0.bytes = 1):=hi
 have NO:Hid (∀ w:World,Calls Tryz.prog 149 #[.int .i64 (p:Int),.int .i64 (ep:Int)] w fun e w' => e = .returned (.tuple #[.string (kstr (nonceF p ep) 0 12),.int .i64 0])∧Below w.heap.size w w'):=fun w => implNonce_yes p ep hp hep w
 have SE:Hid (∀ (xb xc b c:Nat) (w:World),Code8 w (some ⟨xb,0,none⟩) 4 slotX→Code8 w (some ⟨b,0,none⟩) s.size (strB s)→Tabs w→Calls Tryz.prog 100 #[.string k,.string (kstr (nonceF p ep) 0 12),.slice (some ⟨xb,0,none⟩) 4 xc,.slice (some ⟨b,0,none⟩) s.size c] w fun e w' => RetB2 w w' e (s.size + 16) (sealedF k (kstr (nonceF p ep) 0 12) 4 slotX s.size (strB s)) (.int .i64 0)∧Below w.heap.size w w'):=fun xb xc b c w h1 h2 h3 => implSeal_yes k _ xb 0 4 xc b 0 s.size c slotX (strB s) hk (kstr_size _ _ _) (by omega) (by omega) slotX_lt (strB_lt _) w h1 h2 h3
 have AN:Hid (∀ w:World,Calls Tryz.prog 62 #[.slice none 0 0,.int .i64 (ep:Int),.int .i64 4] w fun e w' => RetO w.heap.size w' e 4 (numF 0 4 ep (fun _ => 0))∧Below w.heap.size w w'):=fun w => appendNumber_nil ep 4 (by omega) (by omega) w
 have EF:Hid (bv 4 (numF 0 4 ep (fun _ => 0)) ++ bv (s.size + 16) (sealedF k (kstr (nonceF p ep) 0 12) 4 slotX s.size (strB s)) = bv (20 + s.size) (slotF k p ep s)):=by
  show _ = _
  rw [bv_congr (g:=fourF ep) (fun i _ => num0_four ep i),bv_append,show 4 + (s.size + 16) = 20 + s.size from by omega]
  rfl
 have HT:Hid (Tabs w):=ht
 generalize hN:kstr (nonceF p ep) 0 12 = NN at *
 generalize hF:sealedF k NN 4 slotX s.size (strB s) = F at *
 generalize hG:slotF k p ep s = G at *
 generalize hU:numF 0 4 ep (fun _ => 0) = U at *
 have HS:Hid (s.size≤60000):=hs
 clear hi hk hp hep ht hN hF hG hU hs
 have A1:Hid (Below w.heap.size w (w.alloc (.cells #[.int .i64 (ep:Int),.string s] 81))):=(Below.refl _ _).alloc (Nat.le_refl _) _
 have b0:(w.alloc (.cells #[.int .i64 (ep:Int),.string s] 81)).cell? ⟨w.heap.size,0,none⟩ = some (.int .i64 (ep:Int)):=by simp
 have b1:(w.alloc (.cells #[.int .i64 (ep:Int),.string s] 81)).cell? ⟨w.heap.size,1,none⟩ = some (.string s):=by simp
 have L1:w.heap.size < (w.alloc (.cells #[.int .i64 (ep:Int),.string s] 81)).heap.size:=by simp
 go_enter Tryz.func108,Tryz.ntmps108
 go_wp2_with fail
 generalize (w.alloc (.cells #[.int .i64 (ep:Int),.string s] 81)) = v1 at *
 refine (NO.out _).mono ?_
 rintro e v2 ⟨rfl,hb⟩
 have c0:v2.cell? ⟨w.heap.size,0,none⟩ = some (.int .i64 (ep:Int)):=(hb.cell L1).trans b0
 have c1:v2.cell? ⟨w.heap.size,1,none⟩ = some (.string s):=(hb.cell L1).trans b1
 replace A1:Hid (Below w.heap.size w v2):=A1.out.trans (hb.mono A1.out.size)
 have L2:Hid (w.heap.size < v2.heap.size):=Nat.lt_of_lt_of_le L1 hb.size
 clear b0 b1 L1 hb NO
 have hcv1:(convert 68 68 (.slice (some ⟨v2.heap.size,0,none⟩) 4 4)).run Tryz.prog (v2.alloc (.cells #[.int .u8 115,.int .u8 108,.int .u8 111,.int .u8 116] 5)) = .ok (.slice (some ⟨v2.heap.size,0,none⟩) 4 4) (v2.alloc (.cells #[.int .u8 115,.int .u8 108,.int .u8 111,.int .u8 116] 5 (4,5))):=conv_rowS v2 #[.int .u8 115,.int .u8 108,.int .u8 111,.int .u8 116] 4 4
 have hbA:Below v2.heap.size v2 (v2.alloc (.cells #[.int .u8 115,.int .u8 108,.int .u8 111,.int .u8 116] 5 (4,5))):=(Below.refl _ _).alloc (Nat.le_refl _) _
 have X3:Hid (Code8 (v2.alloc (.cells #[.int .u8 115,.int .u8 108,.int .u8 111,.int .u8 116] 5 (4,5))) (some ⟨v2.heap.size,0,none⟩) 4 slotX):=slot_code v2
 have b1:(v2.alloc (.cells #[.int .u8 115,.int .u8 108,.int .u8 111,.int .u8 116] 5 (4,5))).cell? ⟨w.heap.size,1,none⟩ = some (.string s):=(hbA.cell L2.out).trans c1
 have b0:Hid ((v2.alloc (.cells #[.int .u8 115,.int .u8 108,.int .u8 111,.int .u8 116] 5 (4,5))).cell? ⟨w.heap.size,0,none⟩ = some (.int .i64 (ep:Int))):=(hbA.cell L2.out).trans c0
 replace A1:Hid (Below w.heap.size w (v2.alloc (.cells #[.int .u8 115,.int .u8 108,.int .u8 111,.int .u8 116] 5 (4,5)))):=A1.out.trans (hbA.mono A1.out.size)
 have L3:Hid (w.heap.size < (v2.alloc (.cells #[.int .u8 115,.int .u8 108,.int .u8 111,.int .u8 116] 5 (4,5))).heap.size):=Nat.lt_of_lt_of_le L2.out hbA.size
 clear hbA L2
 generalize (v2.alloc (.cells #[.int .u8 115,.int .u8 108,.int .u8 111,.int .u8 116] 5 (4,5))) = v3 at *
 obtain ⟨v4,c4,hcv,hk4,hb4,_⟩:=bytesOfM s v3
 have X4:Hid (Code8 v4 (some ⟨v2.heap.size,0,none⟩) 4 slotX):=X3.out.below hb4
 have K4:Hid (Code8 v4 (some ⟨v3.heap.size,0,none⟩) s.size (strB s)):=hk4
 have B4:Hid (Below w.heap.size w v4):=A1.out.trans (hb4.mono A1.out.size)
 have D0:Hid (v4.cell? ⟨w.heap.size,0,none⟩ = some (.int .i64 (ep:Int))):=(hb4.cell L3.out).trans b0.out
 have L4:Hid (w.heap.size < v4.heap.size):=Nat.lt_of_lt_of_le L3.out hb4.size
 clear hk4 hb4 X3 A1 b0 L3
 go_wp2_with fail
 refine (SE.out _ _ _ _ _ X4.out K4.out (HT.out.below B4.out)).mono ?_
 rintro e v5 ⟨⟨b,c,⟨hgb,hgc⟩,rfl,ho⟩,hb⟩
 have d0:v5.cell? ⟨w.heap.size,0,none⟩ = some (.int .i64 (ep:Int)):=(hb.cell L4.out).trans D0.out
 have B5:Hid (Below w.heap.size w v5):=B4.out.trans (hb.mono B4.out.size)
 have O5:Hid (Code8 v5 (some ⟨b,0,none⟩) (s.size + 16) F):=ho.code
 clear hb ho hgb hgc hcv hcv1 X4 K4 B4 D0 L4 c0 c1 b1 SE HT
 go_wp2_with fail
 refine (AN.out _).mono ?_
 rintro e v6 ⟨⟨g,gc,rfl,how⟩,hb⟩
 have B6:Hid (Below w.heap.size w v6):=B5.out.trans (hb.mono B5.out.size)
 have O6:Hid (Code8 v6 (some ⟨b,0,none⟩) (s.size + 16) F):=O5.out.below hb
 have R6:Hid (v6.ownsRow w.heap.size 5 1 (.slice (some ⟨g,0,none⟩) 4 gc) 4 (bv 4 U)):=ownsRow_mono how B5.out.size
 have hw6:w.heap.size≤v6.heap.size:=B6.out.size
 clear hb how AN B5 O5 d0
 go_wp2_with (at_builtin; refine wpList_append_own _ rfl _ _ 68 rfl w.heap.size 5 i0 (.int .u8 0) 1 1 Tryz.underlying68 HI.out.1 HI.out.2.1 HI.out.2.2.1 HI.out.2.2.2 rfl (by decide) (.slice (some ⟨g,0,none⟩) 4 gc) 4 _ rfl R6.out ⟨b,0,none⟩ (s.size + 16) c (bv (s.size + 16) F) rfl (by rw [bv_length,Nat.mul_one]) (bv_news O6.out) (bv_one _ _) (by have:=HS.out; unfold maxLen; omega) (by have:=HS.out; omega) hw6 ?_)
 intro v' w7 hown hgrow hnil
 have BG:Below w.heap.size v6 w7:=grown_below R6.out hgrow hw6
 rw [EF.out,show 4 + (s.size + 16) = 20 + s.size from by omega] at hown
 obtain ⟨g2,c2,-,rfl,-⟩:=own8_of_own hown hnil
 have R7:Hid (w7.ownsRow w.heap.size 5 1 (.slice (some ⟨g2,0,none⟩) (20 + s.size) c2) (20 + s.size) (bv (20 + s.size) G)):=hown
 have B7:Hid (Below w.heap.size w w7):=B6.out.trans BG
 clear hown hgrow hnil BG R6 B6 O6 EF
 go_wp2
 go_ret
 exact ⟨⟨g2,c2,rfl,R7.out⟩,B7.out⟩
end Go.Proofs.YtcpjeopnhgoonaaGreatDoor
