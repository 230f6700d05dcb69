/-
  Texts of the proof, joined.
-/
import Derived.Test.YtcpjeopnhgoonaaGreatDoorF24
import Derived.Test.YtcpjeopnhgoonaaGreatDoorF17
namespace Go.Proofs.YtcpjeopnhgoonaaGreatDoor
open Go.ChangeShapes Go.WideShapes Go.ChangeAt Go.RowKit
set_option linter.unusedVariables false
set_option maxRecDepth 100000 in
set_option maxHeartbeats 8000000 in
theorem l03Hash_any (b o n c:Nat) (f:Nat→Nat) (hf:∀ i,f i < 256) (hn:n≤1200000) (w:World) (h:Code8 w (some ⟨b,o,none⟩) n f) :
  Calls Tryz.prog 86 #[.slice (some ⟨b,o,none⟩) n c] w fun e w' => e = .returned (.string (hashS n f))∧Below w.heap.size w w':=by
 obtain ⟨i0,hi⟩:=info_parts Tryz.info8
 have HI:Hid (Tryz.prog.info? 5 = some i0∧i0.zero = some (.int .u8 0)∧i0.size = 1∧i0.bytes = 1):=hi
 obtain ⟨L,hL⟩:∃ L,L = Sha.fullN n:=⟨_,rfl⟩
 obtain ⟨F,hF⟩:∃ F,F = Sha.fullF n f:=⟨_,rfl⟩
 obtain ⟨m,hm⟩:∃ m,m = Sha.fullN n / 64:=⟨_,rfl⟩
 obtain ⟨z,hz⟩:∃ z,z = (119 - n % 64) % 64:=⟨_,rfl⟩
 have hLm:L = 64 * m:=by rw [hL,hm]; unfold Sha.fullN; omega
 have hLz:L = n + 1 + z + 8:=by rw [hL,hz]; unfold Sha.fullN; omega
 have HLm:Hid (L = 64 * m):=hLm
 have HLz:Hid (L = n + 1 + z + 8):=hLz
 have lF:∀ j,F j < 256:=fun j => by rw [hF]; exact Sha.fullF_lt hf j
 have LF:Hid (∀ j,F j < 256):=lF
 have HH:Hid (hashS n f = kstr (Sha.outB (Sha.hashTo F m)) 0 32):=by show _ = _; rw [hF,hm]; rfl
 have F0:Hid (bv n f ++ [Value.int .u8 128] = bv (n + 1 + 0) F):=by
  show _ = _
  rw [show ([.int .u8 128]:List Value) = [.int .u8 ((128:Nat):Int)] from rfl,bv_extN]
  refine bv_congr (fun i hi => ?_)
  rw [hF]
  unfold Sha.fullF
  by_cases e:i = n
  ·rw [if_pos e,if_neg (by omega),if_pos e]
  ·rw [if_neg e,if_pos (by omega)]
 have FZ:Hid (∀ k,k < z→F (n + 1 + k) = 0):=fun k hk => by
  rw [hF]
  unfold Sha.fullF
  rw [if_neg (by omega),if_neg (by omega),if_pos (by rw [← hL,hLz]; omega)]
 have FN:Hid (∀ r,r < 8→F (n + 1 + z + r) = 8 * n / 2 ^ (8 * (7 - r)) % 256):=fun r hr => by
  rw [hF]
  unfold Sha.fullF
  rw [if_neg (by omega),if_neg (by omega),if_neg (by rw [← hL,hLz]; omega),← hL,hLz,show n + 1 + z + 8 - 1 - (n + 1 + z + r) = 7 - r from by omega]
 have MOD:Hid (∀ k,k≤z→((n + 1 + k) % 64 = 56 ↔ k = z)):=fun k hk => by rw [hz] at hk ⊢; omega
 have hz64:z < 64:=by rw [hz]; omega
 have LC:Hid (∀ w:World,Calls Tryz.prog 123 #[] w fun e w' => e = .returned (.slice (some ⟨w.heap.size,0,none⟩) 64 64)∧RowW w' w.heap.size 177 64 Sha.kc∧Below w.heap.size w w'):=l03Consts_any
 have LB:Hid (∀ (q g kb ca hb:Nat) (w:World),RowW w hb 177 8 (Sha.hashTo F q)→RowW w kb 177 64 Sha.kc→Code8 w (some ⟨g,64 * q,none⟩) 64 (fun j => F (64 * q + j))→Calls Tryz.prog 124 #[.slice (some ⟨hb,0,none⟩) 8 8,.slice (some ⟨g,64 * q,none⟩) 64 ca,.slice (some ⟨kb,0,none⟩) 64 64] w fun e w' => e = .returned (.tuple #[])∧RowW w' hb 177 8 (Sha.hashTo F (q + 1))∧OnlyB hb w w'):=fun q g kb ca hb w h3 h4 h5 => l03Block_any hb kb g (64 * q) ca (Sha.hashTo F q) _ (fun j => lF _) w h3 h4 h5
 have HC:Hid (Code8 w (some ⟨b,o,none⟩) n f):=h
 have R0:Hid (RowW (w.alloc (.cells #[.int .u32 1779033703,.int .u32 3144134277,.int .u32 1013904242,.int .u32 2773480762,.int .u32 1359893119,.int .u32 2600822924,.int .u32 528734635,.int .u32 1541459225] 177)) w.heap.size 177 8 (Sha.hashTo F 0)):=row_lit (by kernel_rfl)
 have S0:Hid ((w.alloc (.cells #[.int .u32 1779033703,.int .u32 3144134277,.int .u32 1013904242,.int .u32 2773480762,.int .u32 1359893119,.int .u32 2600822924,.int .u32 528734635,.int .u32 1541459225] 177)).heap.size = w.heap.size + 1):=by show _ = _; simp
 have B0:Hid (Below w.heap.size w (w.alloc (.cells #[.int .u32 1779033703,.int .u32 3144134277,.int .u32 1013904242,.int .u32 2773480762,.int .u32 1359893119,.int .u32 2600822924,.int .u32 528734635,.int .u32 1541459225] 177))):=(Below.refl _ _).alloc (Nat.le_refl _) _
 have hm':m≤40000:=by rw [hm]; unfold Sha.fullN; omega
 generalize hashS n f = HS at *
 clear h hf hL hF hm hz hLm hLz lF hi
 go_enter Tryz.func86,Tryz.ntmps86
 go_upto_region 2 with fail
 generalize w.alloc (.cells #[.int .u32 1779033703,.int .u32 3144134277,.int .u32 1013904242,.int .u32 2773480762,.int .u32 1359893119,.int .u32 2600822924,.int .u32 528734635,.int .u32 1541459225] 177) = w0 at *
 go_wp2_with (first
  | (at_builtin; refine wpList_append_own _ rfl (.tmp 11) _ 68 rfl w0.heap.size 5 i0 (.int .u8 0) 1 1 Tryz.underlying68 HI.out.1 HI.out.2.1 HI.out.2.2.1 HI.out.2.2.2 rfl (by decide) _ _ _ rfl (World.ownsRow_made w0 #[] 0 (Nat.le_refl _) (Nat.zero_le _) (by simp)) ⟨b,o,none⟩ n c (bv n f) rfl (by rw [bv_length,Nat.mul_one]) ?qc (bv_one n f) (by unfold maxLen; omega) (by omega) (by simp) ?_))
 case qc =>
  intro j x hj
  exact Lib.cell?_alloc_some _ (bv_news (HC.out.below B0.out) j x hj)
 intro v' w1 hown hgrow hnil
 have BG:Below w0.heap.size w0 w1:=((Below.refl _ w0).alloc (Nat.le_refl _) _).grown hgrow (by simp) (by intro k hk; simp [Value.ownBlock] at hk; omega)
 have hown1:w1.ownsRow w0.heap.size 5 1 v' n (bv n f):=by simpa using hown
 obtain ⟨g,c1,hgc,rfl,-⟩:=own8_of_own hown1 hnil
 have HO:Hid (w1.ownsRow w0.heap.size 5 1 (.slice (some ⟨g,0,none⟩) n c1) n (bv n f)):=hown1
 have HBG:Hid (Below w0.heap.size w0 w1):=BG
 have hs1:=BG.size
 clear hown hown1 hgrow hnil BG hgc
 go_wp2_with (first
  | (at_builtin; refine wpList_append_own _ rfl (.tmp 13) _ 68 rfl w0.heap.size 5 i0 (.int .u8 0) 1 1 Tryz.underlying68 HI.out.1 HI.out.2.1 HI.out.2.2.1 HI.out.2.2.2 rfl (by decide) (.slice (some ⟨g,0,none⟩) n c1) n _ rfl (HO.out.alloc _) ⟨w1.heap.size,0,none⟩ 1 1 [.int .u8 128] rfl rfl (one_new8 w1 128 _) (one_one8 128) (by unfold maxLen; omega) (by omega) (by simp; omega) ?_))
 intro v' w2 hown hgrow hnil
 have BG:Below w0.heap.size w1 w2:=((Below.refl w0.heap.size w1).alloc hs1 _).grown hgrow (by simp; omega) (fun b hb => (HO.out.lt b hb).1)
 rw [F0.out] at hown
 obtain ⟨g2,c2,hgc,rfl,-⟩:=own8_of_own hown hnil
 have HO2:Hid (w2.ownsRow w0.heap.size 5 1 (.slice (some ⟨g2,0,none⟩) (n + 1 + 0) c2) (n + 1 + 0) (bv (n + 1 + 0) F)):=hown
 have HB2:Hid (Below w0.heap.size w0 w2):=HBG.out.trans BG
 clear hown hgrow hnil BG hgc HO HBG F0 hs1 HC
 go_wp2_with fail
 go_loopw [4] (fun s wr => ∃ k g c:Nat,k≤z∧s = .slice (some ⟨g,0,none⟩) (n + 1 + k) c∧wr.ownsRow w0.heap.size 5 1 (.slice (some ⟨g,0,none⟩) (n + 1 + k) c) (n + 1 + k) (bv (n + 1 + k) F)∧Below w0.heap.size w0 wr) (fun s _ => n + 1 + z - lenH s)
 case atStart => exact ⟨0,g2,c2,by omega,rfl,HO2.out,HB2.out⟩
 case round =>
  clear HO2 HB2
  obtain ⟨k,g,c,hk,rfl,hown,hb⟩:=hrel
  have HO:Hid (wr.ownsRow w0.heap.size 5 1 (.slice (some ⟨g,0,none⟩) (n + 1 + k) c) (n + 1 + k) (bv (n + 1 + k) F)):=hown
  have HB:Hid (Below w0.heap.size w0 wr):=hb
  have hsr:=hb.size
  clear hown hb
  obtain ⟨r,hr⟩:∃ r,r = (n + 1 + k) % 64:=⟨_,rfl⟩
  obtain ⟨N,hN⟩:∃ N,N = n + 1 + k:=⟨_,rfl⟩
  have HN:Hid (N = n + 1 + k):=hN
  have hNb:N≤1300000:=by omega
  have hMd:=MOD.out k hk
  have y1:(N:Int) % 64 = (r:Int):=by omega
  have y1t:(N:Int).tmod 64 = (r:Int):=by rw [Int.tmod_eq_emod_of_nonneg (by omega)]; omega
  by_cases hlt:k < z
  ·have hr56:((r:Int) != 56) = true:=by simp; omega
   have HZk:Hid (F N = 0):=by show _ = _; rw [hN]; exact FZ.out k hlt
   rw [← hN] at HO ⊢
   clear hMd hr hN
   go_wp2_with (first
    | (at_builtin; refine wpList_append_own _ rfl (.tmp 20) _ 68 rfl w0.heap.size 5 i0 (.int .u8 0) 1 1 Tryz.underlying68 HI.out.1 HI.out.2.1 HI.out.2.2.1 HI.out.2.2.2 rfl (by decide) (.slice (some ⟨g,0,none⟩) N c) N _ rfl (HO.out.alloc _) ⟨wr.heap.size,0,none⟩ 1 1 [.int .u8 0] rfl rfl (one_new8 wr 0 _) (one_one8 0) (by unfold maxLen; omega) (by omega) (by simp; omega) ?_))
   intro v' w3 hown hgrow hnil
   have BG:Below w0.heap.size wr w3:=((Below.refl w0.heap.size wr).alloc hsr _).grown hgrow (by simp; omega) (fun b hb => (HO.out.lt b hb).1)
   have EB:bv N F ++ [Value.int .u8 0] = bv (N + 1) F:=by
    have:=bv_snoc N F
    rw [HZk.out] at this
    exact this
   rw [EB] at hown
   obtain ⟨g3,c3,hgc,rfl,-⟩:=own8_of_own hown hnil
   have HO3:Hid (w3.ownsRow w0.heap.size 5 1 (.slice (some ⟨g3,0,none⟩) (N + 1) c3) (N + 1) (bv (N + 1) F)):=hown
   have HB3:Hid (Below w0.heap.size w0 w3):=HB.out.trans BG
   have HN2:Hid (n + 1 + (k + 1) = N + 1):=by show _ = _; have:=HN.out; omega
   clear hown hgrow hnil BG hgc HO HB EB
   go_wp2
   go_roundw
   case rel => exact ⟨k + 1,g3,c3,by omega,by rw [HN2.out],by rw [HN2.out]; exact HO3.out,HB3.out⟩
   case measure => simp [lenH]; have:=HN.out; omega
  ·obtain rfl:k = z:=by omega
   have hr56:((r:Int) != 56) = false:=by simp; have:=hMd.2 rfl; omega
   rw [← hN] at HO ⊢
   clear hMd hr hN MOD FZ hk hlt
   go_wp2_with fail
   obtain ⟨n8,hn8⟩:∃ n8,n8 = 8 * n:=⟨_,rfl⟩
   have e8n:(8:Int) * (n:Int) = (n8:Int):=by omega
   have hn8b:n8≤9600000:=by omega
   have FN2:Hid (∀ r,r < 8→F (N + r) = n8 / 2 ^ (8 * (7 - r)) % 256):=fun r hr => by rw [HN.out,hn8]; exact FN.out r hr
   have HLN:Hid (L = N + 8):=by show _ = _; rw [HLz.out,HN.out]
   clear hn8 FN HLz HN hr56 y1 y1t
   go_loopw [4,5] (fun s i wr => ∃ r g c:Nat,r≤8∧i = .int .i64 (7 - (r:Int))∧s = .slice (some ⟨g,0,none⟩) (N + r) c∧wr.ownsRow w0.heap.size 5 1 (.slice (some ⟨g,0,none⟩) (N + r) c) (N + r) (bv (N + r) F)∧Below w0.heap.size w0 wr) (fun _ i _ => (intOf i + 1).toNat)
   case atStart => exact ⟨0,g,c,by omega,rfl,rfl,HO.out,HB.out⟩
   case round =>
    clear HO HB hsr
    obtain ⟨r,g,c,hr,rfl,rfl,hown,hb⟩:=hrel
    rename_i wr
    have HO:Hid (wr.ownsRow w0.heap.size 5 1 (.slice (some ⟨g,0,none⟩) (N + r) c) (N + r) (bv (N + r) F)):=hown
    have HB:Hid (Below w0.heap.size w0 wr):=hb
    have hsr:=hb.size
    clear hown hb
    by_cases hlt:r < 8
    ·have x0:(0:Int)≤7 - (r:Int):=by omega
     obtain ⟨s,hs⟩:∃ s,s = 8 * (7 - r):=⟨_,rfl⟩
     have e8:(8:Int) * (7 - (r:Int)) = (s:Int):=by omega
     have s0:(0:Int)≤(s:Int):=by omega
     have s1:(s:Int)≤64:=by omega
     have su:IntKind.u64.wrap (s:Int) = (s:Int):=by show (s:Int) % 18446744073709551616 = _; omega
     have sum:(s:Int) % 18446744073709551616 = (s:Int):=by omega
     have eX:(n8:Int) / 2 ^ s = ((n8 / 2 ^ s:Nat):Int):=by simp
     have HX:Hid (F (N + r) = n8 / 2 ^ s % 256):=by show _ = _; rw [hs]; exact FN2.out r hlt
     generalize n8 / 2 ^ s = y at *
     have eY:(y:Int) % 256 = ((y % 256:Nat):Int):=by omega
     generalize y % 256 = Y at *
     clear hs
     go_wp2_with (at_builtin; refine wpList_append_own _ rfl (.tmp 27) _ 68 rfl w0.heap.size 5 i0 (.int .u8 0) 1 1 Tryz.underlying68 HI.out.1 HI.out.2.1 HI.out.2.2.1 HI.out.2.2.2 rfl (by decide) (.slice (some ⟨g,0,none⟩) (N + r) c) (N + r) _ rfl (HO.out.alloc _) ⟨wr.heap.size,0,none⟩ 1 1 [.int .u8 (Y:Nat)] rfl rfl (one_new8 _ _ _) (one_one8 _) (by unfold maxLen; omega) (by omega) (by simp; omega) ?_)
     intro v' w2 hown' hgrow hnil
     have BG:Below w0.heap.size wr w2:=((Below.refl w0.heap.size wr).alloc hsr _).grown hgrow (by simp; omega) (fun b hb => (HO.out.lt b hb).1)
     have EB:bv (N + r) F ++ [Value.int .u8 (Y:Nat)] = bv (N + r + 1) F:=by
      have:=bv_snoc (N + r) F
      rw [HX.out] at this
      exact this
     rw [EB] at hown'
     obtain ⟨g2,c2,hgc,rfl,-⟩:=own8_of_own hown' hnil
     have HO2:Hid (w2.ownsRow w0.heap.size 5 1 (.slice (some ⟨g2,0,none⟩) (N + r + 1) c2) (N + r + 1) (bv (N + r + 1) F)):=hown'
     have HB2:Hid (Below w0.heap.size w0 w2):=HB.out.trans BG
     have HK:Hid (7 - (r:Int) - 1 = 7 - ((r + 1:Nat):Int)):=by show _ = _; omega
     clear hown' hgrow hnil HO HB BG EB hgc
     go_wp2
     go_roundw
     case rel => exact ⟨r + 1,g2,c2,by omega,numEq8 HK.out,rfl,HO2.out,HB2.out⟩
     case measure => simp [intOf]; omega
    ·obtain rfl:r = 8:=by omega
     have x0:¬ (0:Int)≤7 - ((8:Nat):Int):=by omega
     have hbb:Below w.heap.size w wr:=B0.out.trans (HB.out.mono B0.out.size)
     have hw0:w.heap.size < w0.heap.size:=by have:=S0.out; omega
     obtain ⟨g',c',⟨hg,hmc⟩,e',ho⟩:=own8_of_own HO.out (by intro e; cases e)
     cases e'
     have HAL:Hid (Own8 wr g L F):=by show Own8 _ _ _ _; rw [HLN.out]; exact ho
     have HLc:Hid (L≤c):=by show _≤_; rw [HLN.out]; exact hmc
     have HRr:Hid (RowW wr w.heap.size 177 8 (Sha.hashTo F 0)):=World.rowIs.of_block R0.out (HB.out.block _ hw0)
     have HBw:Hid (Below w.heap.size w wr):=hbb
     have hN8:N + 8 = L:=HLN.out.symm
     rw [hN8]
     clear hN8 HO HB ho hmc R0 S0 B0 FN2 HLN hbb e8n hn8b
     go_wp2_with fail
     refine (LC.out _).mono ?_
     rintro e w3 ⟨rfl,hk3,hb3⟩
     have hwk:w.heap.size < wr.heap.size:=Nat.lt_of_lt_of_le hw0 hsr
     have HK3:Hid (RowW w3 wr.heap.size 177 64 Sha.kc):=hk3
     have HA3:Hid (Own8 w3 g L F):=HAL.out.below hb3
     have HR3:Hid (RowW w3 w.heap.size 177 8 (Sha.hashTo F 0)):=HRr.out.below hb3
     have HB3:Hid (Below w.heap.size w w3):=HBw.out.trans (hb3.mono HBw.out.size)
     clear hk3 hb3 HAL HRr HBw LC
     generalize wr.heap.size = kb at *
     go_wp2_with fail
     clear x0 hlt hr
     go_loopw [7] (fun i wr => ∃ q:Nat,q≤m∧i = .int .i64 ((64 * q:Nat):Int)∧RowW wr w.heap.size 177 8 (Sha.hashTo F q)∧RowW wr kb 177 64 Sha.kc∧Own8 wr g L F∧Below w.heap.size w wr) (fun i _ => L - (intOf i).toNat)
     case atStart => exact ⟨0,by omega,rfl,HR3.out,HK3.out,HA3.out,HB3.out⟩
     case round =>
      clear HR3 HK3 HA3 HB3
      obtain ⟨q,hq,rfl,hr,hk,ha,hb⟩:=hrel
      rename_i wr
      have HR:Hid (RowW wr w.heap.size 177 8 (Sha.hashTo F q)):=hr
      have HKk:Hid (RowW wr kb 177 64 Sha.kc):=hk
      have HA:Hid (Own8 wr g L F):=ha
      have HB:Hid (Below w.heap.size w wr):=hb
      clear hr hk ha hb
      have hLm:=HLm.out
      have hLc:=HLc.out
      by_cases hlt:q < m
      ·have BQ:Hid (∀ ca:Nat,Calls Tryz.prog 124 #[.slice (some ⟨w.heap.size,0,none⟩) 8 8,.slice (some ⟨g,64 * q,none⟩) 64 ca,.slice (some ⟨kb,0,none⟩) 64 64] wr fun e w' => e = .returned (.tuple #[])∧RowW w' w.heap.size 177 8 (Sha.hashTo F (q + 1))∧OnlyB w.heap.size wr w'):=fun ca => LB.out q g kb ca w.heap.size wr HR.out HKk.out (code8_of (fun j hj => HA.out.cell (by omega)))
       obtain ⟨I,hI⟩:∃ I,I = 64 * q:=⟨_,rfl⟩
       have x1:(I:Int) < (L:Int):=by omega
       have x2:(I:Int) + 64≤(c:Int):=by omega
       have x3:(I:Int)≤(I:Int) + 64:=by omega
       have x4:(0:Int)≤(I:Int):=by omega
       have x5:I + 64 - I = 64:=by omega
       have x6:((I:Int) + 64).toNat = I + 64:=by omega
       have x7:¬ c = I:=by omega
       have x8:(0:Int)≤(I:Int) + 64:=by omega
       have HI2:Hid (64 * (q + 1) = I + 64):=by show _ = _; omega
       rw [← hI] at BQ ⊢
       have hIb:I≤2600000:=by omega
       clear hI hLm hLc HR
       go_wp2_with fail
       refine (BQ.out _).mono ?_
       rintro e w4 ⟨rfl,hr4,ho4⟩
       have HR4:Hid (RowW w4 w.heap.size 177 8 (Sha.hashTo F (q + 1))):=hr4
       have HK4:Hid (RowW w4 kb 177 64 Sha.kc):=HKk.out.onlyB ho4 (by omega)
       have HA4:Hid (Own8 w4 g L F):=HA.out.onlyB ho4 (by omega)
       have HB4:Hid (Below w.heap.size w w4):=HB.out.trans (ho4.toBelow (Nat.le_refl _) HB.out.size)
       clear hr4 ho4 HKk HA HB BQ
       go_wp2
       go_roundw
       case rel => exact ⟨q + 1,by omega,numEq8 (by rw [HI2.out]; rfl),HR4.out,HK4.out,HA4.out,HB4.out⟩
       case measure => simp [intOf]; omega
      ·obtain rfl:q = m:=by omega
       have x1:¬ ((64 * q:Nat):Int) < (L:Int):=by omega
       obtain ⟨V,hV⟩:∃ V,V = Sha.hashTo F q:=⟨_,rfl⟩
       rw [← hV] at HR HH
       have lV:∀ j,V j < 4294967296:=fun j => by rw [hV]; exact Sha.hashTo_lt F q j
       have LV:Hid (∀ j,V j < 4294967296):=lV
       clear hV lV HKk HA LB hLm hLc
       have HO0:Hid ((wr.alloc (.cells #[] 5)).ownsRow wr.heap.size 5 1 (.slice (some ⟨wr.heap.size,0,none⟩) 0 0) 0 (bv 0 (Sha.outB V))):=World.ownsRow_made wr #[] 0 (Nat.le_refl _) (Nat.zero_le _) (by simp)
       have HR0:Hid (RowW (wr.alloc (.cells #[] 5)) w.heap.size 177 8 V):=HR.out.alloc _
       have HB0:Hid (Below w.heap.size w (wr.alloc (.cells #[] 5))):=HB.out.alloc HB.out.size _
       have hw3:w.heap.size < wr.heap.size:=HR.out.lt
       have HZ0:Hid (wr.heap.size≤(wr.alloc (.cells #[] 5)).heap.size):=by show _≤_; simp
       clear HR HB hlt
       go_wp2
       generalize wr.alloc (.cells #[] 5) = wo at *
       generalize wr.heap.size = B3 at *
       go_loopw [8,9] (fun s i wr => ∃ k g2 c2:Nat,k≤8∧i = .int .i64 k∧s = .slice (some ⟨g2,0,none⟩) (4 * k) c2∧wr.ownsRow B3 5 1 (.slice (some ⟨g2,0,none⟩) (4 * k) c2) (4 * k) (bv (4 * k) (Sha.outB V))∧RowW wr w.heap.size 177 8 V∧Below w.heap.size w wr∧B3≤wr.heap.size) (fun _ i _ => 8 - (intOf i).toNat)
       case atStart => exact ⟨0,_,_,by omega,rfl,rfl,HO0.out,HR0.out,HB0.out,HZ0.out⟩
       case round =>
        clear HO0 HR0 HB0 HZ0
        obtain ⟨k,g2,c2,hk,rfl,rfl,hown,hr,hb,hsz⟩:=hrel
        rename_i wr
        have HO2:Hid (wr.ownsRow B3 5 1 (.slice (some ⟨g2,0,none⟩) (4 * k) c2) (4 * k) (bv (4 * k) (Sha.outB V))):=hown
        have HRr:Hid (RowW wr w.heap.size 177 8 V):=hr
        have HB:Hid (Below w.heap.size w wr):=hb
        by_cases hlt:k < 8
        rotate_left
        ·obtain rfl:k = 8:=by omega
         obtain ⟨g',c',hgc,e',ho⟩:=own8_of_own HO2.out (by intro h; cases h)
         cases e'
         have cv:=kstr_of_code (c:=c2) ho.code
         have EH:kstr (Sha.outB V) 0 (4 * 8) = HS:=HH.out.symm
         rw [EH] at cv
         clear ho HO2 hown hr hb EH HH hgc
         go_wp2
         go_ret
         exact ⟨rfl,HB.out⟩
        have hlt':(k:Int) < 8:=by omega
        have ch:wr.cell? ⟨w.heap.size,k,none⟩ = some (.int .u32 ((V k:Nat):Int)):=World.rowIs.cell hr hlt
        have B4:Hid (bv (4 * k) (Sha.outB V) ++ [.int .u8 ((V k / 16777216 % 256:Nat):Int),.int .u8 ((V k / 65536 % 256:Nat):Int),.int .u8 ((V k / 256 % 256:Nat):Int),.int .u8 ((V k % 256:Nat):Int)] = bv (4 * (k + 1)) (Sha.outB V)):=out4 V k
        have hvb:=LV.out k
        generalize V k = hv at *
        have z0:(hv:Int) / 16777216 % 256 = ((hv / 16777216 % 256:Nat):Int):=by omega
        have z1:(hv:Int) / 65536 % 256 = ((hv / 65536 % 256:Nat):Int):=by omega
        have z2:(hv:Int) / 256 % 256 = ((hv / 256 % 256:Nat):Int):=by omega
        have z3:(hv:Int) % 256 = ((hv % 256:Nat):Int):=by omega
        have u0:IntKind.u8.wrap ((hv:Int) / 16777216) = ((hv / 16777216 % 256:Nat):Int):=z0
        have u1:IntKind.u8.wrap ((hv:Int) / 65536) = ((hv / 65536 % 256:Nat):Int):=z1
        have u2:IntKind.u8.wrap ((hv:Int) / 256) = ((hv / 256 % 256:Nat):Int):=z2
        have u3:IntKind.u8.wrap (hv:Int) = ((hv % 256:Nat):Int):=z3
        generalize hv / 16777216 % 256 = b0 at *
        generalize hv / 65536 % 256 = b1 at *
        generalize hv / 256 % 256 = b2 at *
        generalize hv % 256 = b3 at *
        clear hown hr hb hvb
        go_wp2_with fail
        refine wp_region_noPanic ?_
        refine wp_region_held_drew (S:=fun w' => w'.cell? ⟨w.heap.size,k,none⟩ = some (.int .u32 (hv:Int))) (by kernel_rfl) ch (fun _ => ?_)
        have HS:Hid (wr.drew.cell? ⟨w.heap.size,k,none⟩ = some (.int .u32 (hv:Int))):=ch
        refine wpAnyH_take (i:=0) (v:=.slice (some ⟨g2,0,none⟩) (4 * k) c2) rfl (by kernel_rfl) (by kernel_rfl) (by kernel_rfl) (fun _ _ _ h => h) (Or.inl ⟨by rfl,?_⟩) HS.out ?_
        ·intro wq hSq; have dq:=hSq; go_simp
        refine ch86 ?_
        refine wpAnyH_take (i:=1) (v:=.slice (some ⟨w.heap.size,0,none⟩) 8 8) rfl (by kernel_rfl) (by kernel_rfl) (by kernel_rfl) (fun _ _ _ h => h) (Or.inl ⟨by rfl,?_⟩) HS.out ?_
        ·intro wq hSq; have dq:=hSq; go_simp
        refine ch86 ?_
        refine wpAnyH_take (i:=2) (v:=.int .i64 (k:Int)) rfl (by kernel_rfl) (by kernel_rfl) (by kernel_rfl) (fun _ _ _ h => h) (Or.inl ⟨by rfl,?_⟩) HS.out ?_
        ·intro wq hSq; have dq:=hSq; go_simp
        refine ch86 ?_
        refine wpAnyH_take (i:=3) (v:=.pointer (some ⟨w.heap.size,k,none⟩)) rfl (by kernel_rfl) (by kernel_rfl) (by kernel_rfl) (fun _ _ _ h => h) (Or.inl ⟨by rfl,?_⟩) HS.out ?_
        ·intro wq hSq; have dq:=hSq; go_simp
        refine ch86 ?_
        refine wpAnyH_take (i:=4) (v:=.int .u32 (hv:Int)) rfl (by kernel_rfl) (by kernel_rfl) (by kernel_rfl) (fun _ _ _ h => h) (Or.inl ⟨by rfl,?_⟩) HS.out ?_
        ·intro wq hSq; have dq:=hSq; go_simp
        refine ch86 ?_
        refine wpAnyH_take (i:=5) (v:=.int .u32 ((hv:Int) / 16777216)) rfl (by kernel_rfl) (by kernel_rfl) (by kernel_rfl) (fun _ _ _ h => h) (Or.inl ⟨by rfl,?_⟩) HS.out ?_
        ·intro wq hSq; have dq:=hSq; go_simp
        refine ch86 ?_
        refine wpAnyH_take (i:=6) (v:=.int .u8 (b0:Int)) rfl (by kernel_rfl) (by kernel_rfl) (by kernel_rfl) (fun _ _ _ h => h) (Or.inl ⟨by rfl,?_⟩) HS.out ?_
        ·intro wq hSq; have dq:=hSq; go_simp
        refine ch86 ?_
        refine wpAnyH_take (i:=7) (v:=.slice (some ⟨w.heap.size,0,none⟩) 8 8) rfl (by kernel_rfl) (by kernel_rfl) (by kernel_rfl) (fun _ _ _ h => h) (Or.inl ⟨by rfl,?_⟩) HS.out ?_
        ·intro wq hSq; have dq:=hSq; go_simp
        refine ch86 ?_
        refine wpAnyH_take (i:=8) (v:=.int .i64 (k:Int)) rfl (by kernel_rfl) (by kernel_rfl) (by kernel_rfl) (fun _ _ _ h => h) (Or.inl ⟨by rfl,?_⟩) HS.out ?_
        ·intro wq hSq; have dq:=hSq; go_simp
        refine ch86 ?_
        refine wpAnyH_take (i:=9) (v:=.pointer (some ⟨w.heap.size,k,none⟩)) rfl (by kernel_rfl) (by kernel_rfl) (by kernel_rfl) (fun _ _ _ h => h) (Or.inl ⟨by rfl,?_⟩) HS.out ?_
        ·intro wq hSq; have dq:=hSq; go_simp
        refine ch86 ?_
        refine wpAnyH_take (i:=10) (v:=.int .u32 (hv:Int)) rfl (by kernel_rfl) (by kernel_rfl) (by kernel_rfl) (fun _ _ _ h => h) (Or.inl ⟨by rfl,?_⟩) HS.out ?_
        ·intro wq hSq; have dq:=hSq; go_simp
        refine ch86 ?_
        refine wpAnyH_take (i:=11) (v:=.int .u32 ((hv:Int) / 65536)) rfl (by kernel_rfl) (by kernel_rfl) (by kernel_rfl) (fun _ _ _ h => h) (Or.inl ⟨by rfl,?_⟩) HS.out ?_
        ·intro wq hSq; have dq:=hSq; go_simp
        refine ch86 ?_
        refine wpAnyH_take (i:=12) (v:=.int .u8 (b1:Int)) rfl (by kernel_rfl) (by kernel_rfl) (by kernel_rfl) (fun _ _ _ h => h) (Or.inl ⟨by rfl,?_⟩) HS.out ?_
        ·intro wq hSq; have dq:=hSq; go_simp
        refine ch86 ?_
        refine wpAnyH_take (i:=13) (v:=.slice (some ⟨w.heap.size,0,none⟩) 8 8) rfl (by kernel_rfl) (by kernel_rfl) (by kernel_rfl) (fun _ _ _ h => h) (Or.inl ⟨by rfl,?_⟩) HS.out ?_
        ·intro wq hSq; have dq:=hSq; go_simp
        refine ch86 ?_
        refine wpAnyH_take (i:=14) (v:=.int .i64 (k:Int)) rfl (by kernel_rfl) (by kernel_rfl) (by kernel_rfl) (fun _ _ _ h => h) (Or.inl ⟨by rfl,?_⟩) HS.out ?_
        ·intro wq hSq; have dq:=hSq; go_simp
        refine ch86 ?_
        refine wpAnyH_take (i:=15) (v:=.pointer (some ⟨w.heap.size,k,none⟩)) rfl (by kernel_rfl) (by kernel_rfl) (by kernel_rfl) (fun _ _ _ h => h) (Or.inl ⟨by rfl,?_⟩) HS.out ?_
        ·intro wq hSq; have dq:=hSq; go_simp
        refine ch86 ?_
        refine wpAnyH_take (i:=16) (v:=.int .u32 (hv:Int)) rfl (by kernel_rfl) (by kernel_rfl) (by kernel_rfl) (fun _ _ _ h => h) (Or.inl ⟨by rfl,?_⟩) HS.out ?_
        ·intro wq hSq; have dq:=hSq; go_simp
        refine ch86 ?_
        refine wpAnyH_take (i:=17) (v:=.int .u32 ((hv:Int) / 256)) rfl (by kernel_rfl) (by kernel_rfl) (by kernel_rfl) (fun _ _ _ h => h) (Or.inl ⟨by rfl,?_⟩) HS.out ?_
        ·intro wq hSq; have dq:=hSq; go_simp
        refine ch86 ?_
        refine wpAnyH_take (i:=18) (v:=.int .u8 (b2:Int)) rfl (by kernel_rfl) (by kernel_rfl) (by kernel_rfl) (fun _ _ _ h => h) (Or.inl ⟨by rfl,?_⟩) HS.out ?_
        ·intro wq hSq; have dq:=hSq; go_simp
        refine ch86 ?_
        refine wpAnyH_take (i:=19) (v:=.slice (some ⟨w.heap.size,0,none⟩) 8 8) rfl (by kernel_rfl) (by kernel_rfl) (by kernel_rfl) (fun _ _ _ h => h) (Or.inl ⟨by rfl,?_⟩) HS.out ?_
        ·intro wq hSq; have dq:=hSq; go_simp
        refine ch86 ?_
        refine wpAnyH_take (i:=20) (v:=.int .i64 (k:Int)) rfl (by kernel_rfl) (by kernel_rfl) (by kernel_rfl) (fun _ _ _ h => h) (Or.inl ⟨by rfl,?_⟩) HS.out ?_
        ·intro wq hSq; have dq:=hSq; go_simp
        refine ch86 ?_
        refine wpAnyH_take (i:=21) (v:=.pointer (some ⟨w.heap.size,k,none⟩)) rfl (by kernel_rfl) (by kernel_rfl) (by kernel_rfl) (fun _ _ _ h => h) (Or.inl ⟨by rfl,?_⟩) HS.out ?_
        ·intro wq hSq; have dq:=hSq; go_simp
        refine ch86 ?_
        refine wpAnyH_take (i:=22) (v:=.int .u32 (hv:Int)) rfl (by kernel_rfl) (by kernel_rfl) (by kernel_rfl) (fun _ _ _ h => h) (Or.inl ⟨by rfl,?_⟩) HS.out ?_
        ·intro wq hSq; have dq:=hSq; go_simp
        refine ch86 ?_
        refine wpAnyH_take (i:=23) (v:=.int .u8 (b3:Int)) rfl (by kernel_rfl) (by kernel_rfl) (by kernel_rfl) (fun _ _ _ h => h) (Or.inl ⟨by rfl,?_⟩) HS.out ?_
        ·intro wq hSq; have dq:=hSq; go_simp
        refine ch86 ?_
        refine wpAnyH_ready (rs:=[24]) (by kernel_rfl) (by simp) ?_
        refine AllReadyH.cons rfl (fun KK hK => ?_) AllReadyH.nil
        go_simp
        have HS2:Hid ((wr.alloc (.cells #[.int .u8 (b0:Int),.int .u8 (b1:Int),.int .u8 (b2:Int),.int .u8 (b3:Int)] 5)).drew.cell? ⟨w.heap.size,k,none⟩ = some (.int .u32 (hv:Int))):=Lib.cell?_alloc_some _ ch
        refine hK.out _ _ HS2.out (fun _ => ?_)
        clear hK KK HS
        refine ch86 ?_
        refine wpAnyH_ready (rs:=[25]) (by kernel_rfl) (by simp) ?_
        refine AllReadyH.cons rfl (fun KK hK => ?_) AllReadyH.nil
        rw [if_pos (by rfl)]
        refine wp_append_own _ (.tmp 58) (.tmp 82) 68 rfl B3 5 i0 (.int .u8 0) 1 1 Tryz.underlying68 HI.out.1 HI.out.2.1 HI.out.2.2.1 HI.out.2.2.2 rfl (by decide) (.slice (some ⟨g2,0,none⟩) (4 * k) c2) (4 * k) _ rfl (HO2.out.alloc _) ⟨wr.heap.size,0,none⟩ 4 4 [.int .u8 (b0:Int),.int .u8 (b1:Int),.int .u8 (b2:Int),.int .u8 (b3:Int)] rfl rfl ?qn ?q1 (by unfold maxLen; omega) (by omega) (by show B3≤(wr.alloc (.cells #[.int .u8 (b0:Int),.int .u8 (b1:Int),.int .u8 (b2:Int),.int .u8 (b3:Int)] 5)).heap.size; simp; omega) ?_
        case qn =>
         intro j x hj
         rw [Addr.add_lit,Nat.zero_add]
         show (wr.alloc (.cells #[.int .u8 (b0:Int),.int .u8 (b1:Int),.int .u8 (b2:Int),.int .u8 (b3:Int)] 5)).cell? ⟨wr.heap.size,j,none⟩ = some x
         have hj4:j < 4:=by have:=(List.getElem?_eq_some_iff.1 hj).1; simpa using this
         rcases (show j = 0∨j = 1∨j = 2∨j = 3 by omega) with rfl | rfl | rfl | rfl <;> (simp at hj; subst hj; simp)
        case q1 =>
         intro x hx
         simp at hx
         rcases hx with rfl | rfl | rfl | rfl <;> rfl
        intro v' w4 hown' hgrow hnil
        have BG:Below B3 wr w4:=(((Below.refl B3 wr).alloc hsz _).drew).grown hgrow (by show B3≤(wr.alloc (.cells #[.int .u8 (b0:Int),.int .u8 (b1:Int),.int .u8 (b2:Int),.int .u8 (b3:Int)] 5)).heap.size; simp; omega) (fun b hb => (HO2.out.lt b hb).1)
        rw [B4.out] at hown'
        obtain ⟨g4,c4,⟨hg4,hc4⟩,rfl,-⟩:=own8_of_own hown' (fun h => by have:=hnil.1 h; simp at this)
        have HO4:Hid (w4.ownsRow B3 5 1 (.slice (some ⟨g4,0,none⟩) (4 * (k + 1)) c4) (4 * (k + 1)) (bv (4 * (k + 1)) (Sha.outB V))):=hown'
        have HR4:Hid (RowW w4 w.heap.size 177 8 V):=World.rowIs.of_block HRr.out (BG.block _ hw3)
        have HB4:Hid (Below w.heap.size w w4):=HB.out.trans (BG.mono (by omega))
        have HZ4:Hid (B3≤w4.heap.size):=Nat.le_trans hsz BG.size
        have HS4:Hid (w4.cell? ⟨w.heap.size,k,none⟩ = some (.int .u32 (hv:Int))):=by show _ = _; rw [BG.cell (p:=⟨w.heap.size,k,none⟩) hw3]; exact ch
        refine hK.out _ _ HS4.out (fun _ => ?_)
        clear hK KK HS2 hown' hgrow hnil BG
        refine ch86 ?_
        refine wpAnyH_take (i:=26) (v:=.slice (some ⟨g4,0,none⟩) (4 * k + 4) c4) rfl (by kernel_rfl) (by kernel_rfl) (by kernel_rfl) (fun _ _ _ h => h) (Or.inl ⟨by rfl,?_⟩) HS4.out ?_
        ·intro wq hSq; go_simp
        refine ch86 ?_
        refine wpAnyH_done (by kernel_rfl) ?_ _
        refine NoPanic.normal ?_
        clear HS4 ch HRr HB HO2
        go_wp2
        go_roundw
        case rel => exact ⟨k + 1,g4,c4,by omega,by go_num,rfl,HO4.out,HR4.out,HB4.out,HZ4.out⟩
        case measure => simp [intOf]; omega
end Go.Proofs.YtcpjeopnhgoonaaGreatDoor
