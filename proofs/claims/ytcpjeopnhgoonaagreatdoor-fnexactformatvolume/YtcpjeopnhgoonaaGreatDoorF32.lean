/-
  Texts of the proof, joined.
-/
import Derived.Test.YtcpjeopnhgoonaaGreatDoorF30
import Derived.Test.YtcpjeopnhgoonaaGreatDoorF31
namespace Go.Proofs.YtcpjeopnhgoonaaGreatDoor
open Go.ChangeShapes Go.WideShapes Go.ChangeAt Go.RowKit
set_option linter.unusedVariables false
set_option maxRecDepth 100000 in
set_option maxHeartbeats 4000000 in
theorem l04Tag_any (k s:ByteArray) (xb xo m xc b o n c:Nat) (fx f:Nat→Nat) (hs:s.size = 12) (hm:m≤65536) (hn:n≤65536) (hfx:∀ i,fx i < 256) (hf:∀ i,f i < 256) (w:World) (hx:Code8 w (some ⟨xb,xo,none⟩) m fx) (hc:Code8 w (some ⟨b,o,none⟩) n f) :
  Calls Tryz.prog 85 #[.string (tagS k),.string s,.slice (some ⟨xb,xo,none⟩) m xc,.slice (some ⟨b,o,none⟩) n c] w fun e w' => e = .returned (.string (tagT k s m fx n f))∧Below w.heap.size w w':=by
 have FO:Hid (∀ w:World,Calls Tryz.prog 56 #[.int .i64 (m:Int)] w fun e w' => e = .returned (.slice (some ⟨w.heap.size,0,none⟩) 4 4)∧Own8 w' w.heap.size 4 (fourF m)∧Below w.heap.size w w'):=fun w => l02FourB_any m (by omega) w
 have HM:Hid (∀ (b0 c0 b1 c1:Nat) (w:World),Code8 w (some ⟨b0,0,none⟩) 32 (strB (tagS k))→Code8 w (some ⟨b1,0,none⟩) (16 + m + n) (Sha.cat 16 (numF 12 4 m (strB s)) (Sha.cat m fx f))→Calls Tryz.prog 119 #[.slice (some ⟨b0,0,none⟩) 32 c0,.slice (some ⟨b1,0,none⟩) (16 + m + n) c1] w fun e w' => e = .returned (.string (kstr (macT k s m fx n f) 0 32))∧Below w.heap.size w w'):=fun b0 c0 b1 c1 w h0 h1 => l03Hmac_any b0 0 32 c0 b1 0 (16 + m + n) c1 _ _ (strB_lt _) (Sha.cat_lt (numF_lt (strB_lt s)) (Sha.cat_lt hfx hf)) (by omega) (by omega) w h0 h1
 have hex:(kstr (macT k s m fx n f) 0 32).extract 0 16 = tagT k s m fx n f:=by
  have:=kstr_extract (kstr (macT k s m fx n f) 0 32) 0 16 (by rw [kstr_size]; omega)
  rw [Nat.zero_add] at this
  rw [this]
  exact kstr_congr (fun i hi => by rw [Nat.zero_add,strB_kstr _ 0 32 i (by rw [Nat.zero_add]; exact macT_lt _ _ _ _ _ _ _) (by omega),Nat.zero_add])
 have hms:(kstr (macT k s m fx n f) 0 32).size = 32:=kstr_size _ _ _
 have hks:(tagS k).size = 32:=tagS_size k
 generalize kstr (macT k s m fx n f) 0 32 = MS at *
 generalize tagT k s m fx n f = TT at *
 generalize tagS k = TK at *
 obtain ⟨w1,c1,hcv,hr1,hb1⟩:=bytesOfR s w
 rw [hs] at hcv hr1
 have R1:Hid (RowM w1 w.heap.size 12 c1 (strB s)):=hr1
 have B1:Hid (Below w.heap.size w w1):=hb1
 have HX:Hid (Code8 w (some ⟨xb,xo,none⟩) m fx):=hx
 have HC:Hid (Code8 w (some ⟨b,o,none⟩) n f):=hc
 clear hx hc hr1 hb1 hfx hf hs
 go_enter Tryz.func85,Tryz.ntmps85
 go_wp2_with fail
 refine (FO.out _).mono ?_
 rintro e w2 ⟨rfl,ho2,hb2⟩
 have B2:=B1.out.trans (hb2.mono B1.out.size)
 obtain ⟨g3,c3,w3,ha3,hr3,hb3,hg3⟩:=appendM w2 w.heap.size w.heap.size 12 c1 (strB s) w1.heap.size 0 4 4 (fourF m) (Nat.le_refl _) B2.size (by omega) (R1.out.below hb2) ho2.code 68
 have B3:=B2.trans hb3
 obtain ⟨g4,c4,w4,ha4,hr4,hb4,hg4⟩:=appendM w3 w.heap.size g3 (12 + 4) c3 _ xb xo m xc fx hg3 B3.size (by omega) hr3 (HX.out.below B3) 68
 have B4:=B3.trans hb4
 obtain ⟨g5,c5,w5,ha5,hr5,hb5,hg5⟩:=appendM w4 w.heap.size g4 (12 + 4 + m) c4 _ b o n c f hg4 B4.size (by omega) hr4 (HC.out.below B4) 68
 have B5:Hid (Below w.heap.size w w5):=B4.trans hb5
 obtain ⟨w6,c6,hcv6,hk6,hb6,_⟩:=bytesOfM TK w5
 rw [hks] at hcv6 hk6
 have K6:Hid (Code8 w6 (some ⟨w5.heap.size,0,none⟩) 32 (strB TK)):=hk6
 have R6:Hid (Code8 w6 (some ⟨g5,0,none⟩) (16 + m + n) (Sha.cat 16 (numF 12 4 m (strB s)) (Sha.cat m fx f))):=(hr5.code.below hb6).congr (fun i hi => by
  unfold Sha.cat
  by_cases h0:i < 12
  ·rw [if_pos (by omega),if_pos (by omega),if_pos h0,if_pos (by omega)]
   unfold numF
   rw [if_pos h0]
  ·by_cases h1:i < 16
   ·rw [if_pos (by omega),if_pos (by omega),if_neg h0,if_pos h1]
    have:=four_num 12 m (strB s) (i - 12)
    rw [show 12 + (i - 12) = i from by omega] at this
    exact this.symm
   ·rw [if_neg h1]
    by_cases h2:i < 16 + m
    ·rw [if_pos (by omega),if_neg (by omega),if_pos (by omega)]
    ·rw [if_neg (show ¬ i < 12 + 4 + m by omega),if_neg h1,if_neg (show ¬ i - 16 < m by omega),show i - 16 - m = i - (12 + 4 + m) from by omega])
 have B6:Hid (Below w.heap.size w w6):=B5.out.trans (hb6.mono B5.out.size)
 have A3:Hid _:=ha3
 have A4:Hid _:=ha4
 have A5:Hid _:=ha5
 clear ho2 hb2 B2 hr3 hb3 hg3 B3 hr4 hb4 hg4 B4 hr5 hb5 hg5 hk6 hb6 ha3 ha4 ha5 HX HC B5 R1 B1 FO
 generalize w5.heap.size = b5 at *
 go_wp2_with (first
  | (at_builtin; refine Lib.wpList_append_run _ rfl (.tmp 11) (.tmp 14) _ _ rfl _ _ rfl rfl _ _ A3.out ?_)
  | (at_builtin; refine Lib.wpList_append_run _ rfl (.tmp 16) (.tmp 17) _ _ rfl _ _ rfl rfl _ _ A4.out ?_)
  | (at_builtin; refine Lib.wpList_append_run _ rfl (.tmp 18) (.tmp 19) _ _ rfl _ _ rfl rfl _ _ A5.out ?_))
 refine (HM.out _ c6 g5 c5 w6 K6.out R6.out).mono ?_
 rintro e w7 ⟨rfl,hb7⟩
 have B7:Hid (Below w.heap.size w w7):=B6.out.trans (hb7.mono B6.out.size)
 clear hb7 B6 R6 K6 A3 A4 A5 HM
 go_wp2
 go_ret
 exact ⟨rfl,B7.out⟩
set_option maxRecDepth 100000 in
set_option maxHeartbeats 2000000 in
theorem l04Keys_any (k:ByteArray) (hk:k.size = 32) (w:World) :
  Calls Tryz.prog 83 #[.string k] w fun e w' => e = .returned (.tuple #[.string (encS k),.string (tagS k)])∧Below w.heap.size w w':=by
 have MA:Hid (∀ (b0 b1 c:Nat) (w:World),Code8 w (some ⟨b0,0,none⟩) 4 sealF→Code8 w (some ⟨b1,0,none⟩) 32 (strB k)→Calls Tryz.prog 119 #[.slice (some ⟨b0,0,none⟩) 4 4,.slice (some ⟨b1,0,none⟩) 32 c] w fun e w' => e = .returned (.string (secS k))∧Below w.heap.size w w'):=fun b0 b1 c w h0 h1 => l03Hmac_any b0 0 4 4 b1 0 32 c sealF (strB k) sealF_lt (strB_lt k) (by omega) (by omega) w h0 h1
 have EX:Hid (∀ (b:Nat) (w:World),Code8 w (some ⟨b,0,none⟩) 4 keysF→Calls Tryz.prog 118 #[.string (secS k),.slice (some ⟨b,0,none⟩) 4 4,.int .i64 64] w fun e w' => e = .returned (.string (kstr (pairF k) 0 64))∧Below w.heap.size w w'):=fun b w h => by
  have:=l03Expand_any (secS k) (by rw [secS_size]; omega) b 0 4 4 64 keysF keysF_lt (by omega) (by omega) w h
  rw [secS_size] at this
  exact this
 have lG:∀ i,pairF k i < 256:=pairF_lt k
 have hE:encS k = kstr (pairF k) 0 32:=rfl
 have hT:tagS k = kstr (pairF k) 32 32:=rfl
 rw [hE,hT]
 clear hE hT
 generalize pairF k = G at *
 generalize secS k = SE at *
 have hbs:(kstr G 0 64).size = 64:=kstr_size _ _ _
 have hx1:(kstr G 0 64).extract 0 32 = kstr G 0 32:=by
  have:=kstr_extract (kstr G 0 64) 0 32 (by rw [hbs]; omega)
  rw [Nat.zero_add] at this
  rw [this]
  exact kstr_congr (fun i hi => by rw [Nat.zero_add,strB_kstr _ 0 64 i (by rw [Nat.zero_add]; exact lG _) (by omega),Nat.zero_add])
 have hx2:(kstr G 0 64).extract 32 64 = kstr G 32 32:=by
  have:=kstr_extract (kstr G 0 64) 32 32 (by rw [hbs]; omega)
  rw [this]
  exact kstr_congr (fun i hi => by rw [strB_kstr _ 0 64 (32 + i) (by rw [Nat.zero_add]; exact lG _) (by omega),Nat.zero_add])
 generalize kstr G 0 64 = BO at *
 generalize kstr G 0 32 = S1 at *
 generalize kstr G 32 32 = S2 at *
 clear lG
 obtain ⟨wA,hwA⟩:∃ wA,wA = w.alloc (.cells #[.int .u8 115,.int .u8 101,.int .u8 97,.int .u8 108] 5 (4,5)):=⟨_,rfl⟩
 have hcv1:(convert 68 68 (.slice (some ⟨w.heap.size,0,none⟩) 4 4)).run Tryz.prog (w.alloc (.cells #[.int .u8 115,.int .u8 101,.int .u8 97,.int .u8 108] 5)) = .ok (.slice (some ⟨w.heap.size,0,none⟩) 4 4) wA:=by
  rw [hwA]
  exact conv_rowS w #[.int .u8 115,.int .u8 101,.int .u8 97,.int .u8 108] 4 4
 have AA:Below w.heap.size w wA:=by rw [hwA]; exact (Below.refl _ _).alloc (Nat.le_refl _) _
 have SC:Code8 wA (some ⟨w.heap.size,0,none⟩) 4 sealF:=by rw [hwA]; exact seal_code w
 clear hwA
 obtain ⟨w2,c2,hcv2,hk2,hb2,_⟩:=bytesOfM k wA
 rw [hk] at hcv2 hk2
 have H0:Hid (Code8 w2 (some ⟨w.heap.size,0,none⟩) 4 sealF):=SC.below hb2
 have H1:Hid (Code8 w2 (some ⟨wA.heap.size,0,none⟩) 32 (strB k)):=hk2
 have B2:Hid (Below w.heap.size w w2):=AA.trans (hb2.mono AA.size)
 clear AA hk2 hb2 SC
 generalize wA.heap.size = bA0 at *
 go_enter Tryz.func83,Tryz.ntmps83
 go_wp2_with fail
 refine (MA.out _ _ _ _ H0.out H1.out).mono ?_
 rintro e w3 ⟨rfl,hb3⟩
 have B3:Hid (Below w.heap.size w w3):=B2.out.trans (hb3.mono B2.out.size)
 clear hb3 B2 H0 H1 hcv1 hcv2 MA
 obtain ⟨wB,hwB⟩:∃ wB,wB = w3.alloc (.cells #[.int .u8 107,.int .u8 101,.int .u8 121,.int .u8 115] 5 (4,5)):=⟨_,rfl⟩
 have hcv5:(convert 68 68 (.slice (some ⟨w3.heap.size,0,none⟩) 4 4)).run Tryz.prog (w3.alloc (.cells #[.int .u8 107,.int .u8 101,.int .u8 121,.int .u8 115] 5)) = .ok (.slice (some ⟨w3.heap.size,0,none⟩) 4 4) wB:=by
  rw [hwB]
  exact conv_rowS w3 #[.int .u8 107,.int .u8 101,.int .u8 121,.int .u8 115] 4 4
 have AA:Below w3.heap.size w3 wB:=by rw [hwB]; exact (Below.refl _ _).alloc (Nat.le_refl _) _
 have B4:Hid (Below w.heap.size w wB):=B3.out.trans (AA.mono B3.out.size)
 have KC:Hid (Code8 wB (some ⟨w3.heap.size,0,none⟩) 4 keysF):=by show Code8 _ _ _ _; rw [hwB]; exact keys_code w3
 clear AA B3 hwB
 go_wp2_with fail
 refine (EX.out w3.heap.size _ KC.out).mono ?_
 rintro e w5 ⟨rfl,hb5⟩
 have B5:Hid (Below w.heap.size w w5):=B4.out.trans (hb5.mono B4.out.size)
 clear hb5 B4 hcv5 EX
 go_wp2_with fail
 go_quiet (fail)
 go_wp2
 go_ret2
 exact ⟨rfl,below_drewN8 B5.out _⟩
set_option maxRecDepth 100000 in
set_option maxHeartbeats 2000000 in
theorem l04Seal_any (k s:ByteArray) (xb xo m xc b o n c:Nat) (fx f:Nat→Nat) (hk:k.size = 32) (hs:s.size = 12) (hm:m≤65536) (hn:n≤65536) (hfx:∀ i,fx i < 256) (hf:∀ i,f i < 256) (w:World) (hx:Code8 w (some ⟨xb,xo,none⟩) m fx) (hc:Code8 w (some ⟨b,o,none⟩) n f) :
  Calls Tryz.prog 52 #[.string k,.string s,.slice (some ⟨xb,xo,none⟩) m xc,.slice (some ⟨b,o,none⟩) n c] w fun e w' => RetB w w' e (n + 16) (sealedF k s m fx n f)∧Below w.heap.size w w':=by
 obtain ⟨i0,hi⟩:=info_parts Tryz.info8
 have HI:Hid (Tryz.prog.info? 5 = some i0∧i0.zero = some (.int .u8 0)∧i0.size = 1∧i0.bytes = 1):=hi
 have KE:Hid (∀ w:World,Calls Tryz.prog 83 #[.string k] w fun e w' => e = .returned (.tuple #[.string (encS k),.string (tagS k)])∧Below w.heap.size w w'):=fun w => l04Keys_any k hk w
 have CX:Hid (∀ w:World,Code8 w (some ⟨b,o,none⟩) n f→Calls Tryz.prog 84 #[.string (encS k),.string s,.slice (some ⟨b,o,none⟩) n c] w fun e w' => RetC w w' e n (streamF k s f)∧Below w.heap.size w w'):=fun w h => l02CtrC_any (encS k) s 8 b o n c f (.inr rfl) (by rw [encS_size]) hs hn hf w h
 have TG:Hid (∀ (g cg:Nat) (w:World),Code8 w (some ⟨xb,xo,none⟩) m fx→Code8 w (some ⟨g,0,none⟩) n (streamF k s f)→Calls Tryz.prog 85 #[.string (tagS k),.string s,.slice (some ⟨xb,xo,none⟩) m xc,.slice (some ⟨g,0,none⟩) n cg] w fun e w' => e = .returned (.string (tagT k s m fx n (streamF k s f)))∧Below w.heap.size w w'):=fun g cg w h1 h2 => l04Tag_any k s xb xo m xc g 0 n cg fx _ hs hm hn hfx (streamF_lt k s hf) w h1 h2
 have EQ:Hid (sealedF k s m fx n f = fun i => if i < n then streamF k s f i else strB (tagT k s m fx n (streamF k s f)) (i - n)):=rfl
 rw [EQ.out]
 have hts:(tagT k s m fx n (streamF k s f)).size = 16:=tagT_size _ _ _ _ _ _
 clear EQ
 generalize tagT k s m fx n (streamF k s f) = TT at *
 generalize streamF k s f = F at *
 generalize encS k = E at *
 generalize tagS k = TK at *
 have HX:Hid (Code8 w (some ⟨xb,xo,none⟩) m fx):=hx
 have HC:Hid (Code8 w (some ⟨b,o,none⟩) n f):=hc
 clear hx hc hfx hf hk hs hi
 go_enter Tryz.func52,Tryz.ntmps52
 go_wp2_with fail
 refine (KE.out _).mono ?_
 rintro e w1 ⟨rfl,hb1⟩
 have B1:Hid (Below w.heap.size w w1):=hb1
 clear hb1 KE
 go_wp2_with fail
 refine (CX.out _ (HC.out.below B1.out)).mono ?_
 rintro e w2 ⟨⟨g,cg,⟨hg,hcg⟩,rfl,ho⟩,hb2⟩
 have B2:Hid (Below w.heap.size w w2):=B1.out.trans (hb2.mono B1.out.size)
 have O2:Hid (OwnC cg w2 g n F):=ho
 have hgw:w.heap.size≤g:=Nat.le_trans B1.out.size hg
 clear ho hb2 hg B1 HC CX
 go_wp2_with fail
 refine (TG.out g cg _ (HX.out.below B2.out) O2.out.code).mono ?_
 rintro e w3 ⟨rfl,hb3⟩
 have B3:Hid (Below w.heap.size w w3):=B2.out.trans (hb3.mono B2.out.size)
 have O3:Hid (w3.ownsRow w.heap.size 5 1 (.slice (some ⟨g,0,none⟩) n cg) n (bv n F)):=own_of_ownC (O2.out.below hb3) hgw
 have hs3:w.heap.size≤w3.heap.size:=B3.out.size
 clear hb3 B2 O2 HX TG
 go_wp2_with (at_builtin; refine Lib.wpList_append_own_string _ rfl (.tmp 21) _ 68 9 rfl w.heap.size 5 i0 Tryz.underlying68 Tryz.underlying9 HI.out.1 HI.out.2.1 HI.out.2.2.1 HI.out.2.2.2 (.slice (some ⟨g,0,none⟩) n cg) n _ rfl O3.out TT rfl (by rw [hts]; unfold maxLen; omega) (by rw [hts]; omega) hs3 ?_)
 intro v' w4 hown hgrow hnil
 have BG:Below w.heap.size w3 w4:=(Below.refl _ w3).grown hgrow hs3 (fun b hb => (O3.out.lt b hb).1)
 have B4:Hid (Below w.heap.size w w4):=B3.out.trans BG
 have ES:Lib.strCells TT = bv 16 (strB TT):=(bv_textM TT 16 hts).symm
 rw [ES,bv_append] at hown
 obtain ⟨g4,c4,hg4,rfl,h8⟩:=own8_of_own hown hnil
 have O4:Hid (Own8 w4 g4 (n + 16) (fun i => if i < n then F i else strB TT (i - n))):=h8
 clear hown hgrow hnil BG h8 B3 O3 ES
 go_wp2
 go_ret
 exact ⟨⟨g4,c4,hg4,rfl,O4.out⟩,B4.out⟩
end Go.Proofs.YtcpjeopnhgoonaaGreatDoor
