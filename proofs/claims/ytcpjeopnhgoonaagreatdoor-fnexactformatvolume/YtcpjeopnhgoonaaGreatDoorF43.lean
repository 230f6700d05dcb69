/-
  Texts of the proof, joined.
-/
import Derived.Test.YtcpjeopnhgoonaaGreatDoorF39
namespace Go.Proofs.YtcpjeopnhgoonaaGreatDoor
open Go.ChangeShapes Go.WideShapes Go.ChangeAt Go.RowKit
set_option linter.unusedVariables false
def SwH (b:Nat) (ep:Int) (s:ByteArray) (w:World):Prop:=CellAt w b 0 (.int .i64 ep)∧CellAt w b 1 (.string s)
theorem SwH.below {b:Nat} {ep:Int} {s:ByteArray} {w w':World} (h:SwH b ep s w) (hb:Below w.heap.size w w'):SwH b ep s w':=⟨h.1.below hb,h.2.below hb⟩
theorem SwH.same {b:Nat} {ep:Int} {s:ByteArray} {w w':World} (h:SwH b ep s w) (e:∀ i,w'.cell? i = w.cell? i):SwH b ep s w':=⟨(e _).trans h.1,(e _).trans h.2⟩
set_option maxRecDepth 100000 in
set_option maxHeartbeats 40000000 in
theorem l06Bytes_any (k s:ByteArray) (p ep:Nat) (hk:k.size = 32) (hp:p < 4294967296) (hep:ep < 4294967296) (hs:s.size≤60000) (w:World) :
  Calls Tryz.prog 38 #[.string k,.int .i64 (p:Int),.agg #[.int .i64 (ep:Int),.string s]] w fun e w' => RetM w.heap.size w' e (20 + s.size) (slotF k p ep s)∧Below w.heap.size w w':=by
 have FO:Hid (∀ (w:World),Calls Tryz.prog 56 #[.int .i64 (ep:Int)] w fun e w' => (e = .returned (.slice (some ⟨w.heap.size,0,none⟩) 4 4)∧Own8 w' w.heap.size 4 (fourF ep))∧Below w.heap.size w w'):=fun w => (l02FourB_any ep hep w).mono fun e w' h => ⟨⟨h.1,h.2.1⟩,h.2.2⟩
 have NO:Hid (∀ w:World,Calls Tryz.prog 53 #[.int .i64 (p:Int),.int .i64 (ep:Int)] w fun e w' => e = .returned (.string (kstr (nonceF p ep) 0 12))∧Below w.heap.size w w'):=fun w => l04Nonce_any p ep hp hep w
 have SE:Hid (∀ (xb xc b c:Nat) (w:World),Code8 w (some ⟨xb,0,none⟩) 4 slotX→Code8 w (some ⟨b,0,none⟩) s.size (strB s)→Calls Tryz.prog 52 #[.string k,.string (kstr (nonceF p ep) 0 12),.slice (some ⟨xb,0,none⟩) 4 xc,.slice (some ⟨b,0,none⟩) s.size c] w fun e w' => RetB w w' e (s.size + 16) (sealedF k (kstr (nonceF p ep) 0 12) 4 slotX s.size (strB s))∧Below w.heap.size w w'):=fun xb xc b c w h1 h2 => l04Seal_any k _ xb 0 4 xc b 0 s.size c slotX (strB s) hk (kstr_size _ _ _) (by omega) (by omega) slotX_lt (strB_lt _) w h1 h2
 have EF:Hid (∀ j,Sha.cat 4 (fourF ep) (sealedF k (kstr (nonceF p ep) 0 12) 4 slotX s.size (strB s)) j = slotF k p ep s j):=fun j => rfl
 generalize hN:kstr (nonceF p ep) 0 12 = NN at *
 generalize hF:sealedF k NN 4 slotX s.size (strB s) = F at *
 generalize hG:slotF k p ep s = GG at *
 generalize hU:fourF ep = U at *
 have HS:Hid (s.size≤60000):=hs
 clear hk hp hep hN hF hG hU hs
 have A1:Hid (Below w.heap.size w (w.alloc (.cells #[.int .i64 (ep:Int),.string s] 81))):=(Below.refl _ _).alloc (Nat.le_refl _) _
 have C0:Hid (CellAt (w.alloc (.cells #[.int .i64 (ep:Int),.string s] 81)) w.heap.size 0 (.int .i64 (ep:Int))):=by show World.cell? _ _ = _; simp
 have C1:Hid (CellAt (w.alloc (.cells #[.int .i64 (ep:Int),.string s] 81)) w.heap.size 1 (.string s)):=by show World.cell? _ _ = _; simp
 go_enter Tryz.func38,Tryz.ntmps38
 go_wp2_with fail
 generalize (w.alloc (.cells #[.int .i64 (ep:Int),.string s] 81)) = v1 at *
 have hb:Below v1.heap.size v1 v1.drew:=(Below.refl _ _).drew
 have H:SwH w.heap.size (ep:Int) s v1.drew:=⟨C0.out.below hb,C1.out.below hb⟩
 replace A1:Hid (Below w.heap.size w v1.drew):=A1.out.trans (hb.mono A1.out.size)
 clear hb C0 C1
 refine wp_region_noPanic ?_
 refine wp_region_held_drew (S:=fun w' => SwH w.heap.size (ep:Int) s w') (by kernel_rfl) H (fun _ => ?_)
 generalize v1.drew = y0 at *
 have SL:Hid (w.heap.size < y0.heap.size):=strBlock (p:=⟨w.heap.size,0,none⟩) H.1
 refine tkH (i:=0) (v:=.pointer (some ⟨w.heap.size,0,none⟩)) rfl (by kernel_rfl) (by rfl) ?_ H ?_
 ·intro w' hSw; go_simp
 refine ch22 ?_
 refine tkH (i:=1) (v:=.int .i64 (ep:Int)) rfl (by kernel_rfl) (by rfl) ?_ H ?_
 ·intro w' hSw; have t0:World.cell? _ _ = _:=hSw.1; clear hSw; go_simp
 refine ch22 ?_
 refine tkH (i:=3) (v:=.string k) rfl (by kernel_rfl) (by rfl) ?_ H ?_
 ·intro w' hSw; go_simp
 refine ch22 ?_
 refine tkH (i:=4) (v:=.int .i64 (p:Int)) rfl (by kernel_rfl) (by rfl) ?_ H ?_
 ·intro w' hSw; go_simp
 refine ch22 ?_
 refine tkH (i:=5) (v:=.pointer (some ⟨w.heap.size,0,none⟩)) rfl (by kernel_rfl) (by rfl) ?_ H ?_
 ·intro w' hSw; go_simp
 refine ch22 ?_
 refine tkH (i:=6) (v:=.int .i64 (ep:Int)) rfl (by kernel_rfl) (by rfl) ?_ H ?_
 ·intro w' hSw; have t0:World.cell? _ _ = _:=hSw.1; clear hSw; go_simp
 refine ch22 ?_
 refine tkH (i:=10) (v:=.pointer (some ⟨w.heap.size,1,none⟩)) rfl (by kernel_rfl) (by rfl) ?_ H ?_
 ·intro w' hSw; go_simp
 refine ch22 ?_
 refine tkH (i:=11) (v:=.string s) rfl (by kernel_rfl) (by rfl) ?_ H ?_
 ·intro w' hSw; have t0:World.cell? _ _ = _:=hSw.2; clear hSw; go_simp
 refine ch22 ?_
 refine wpAnyH_ready (rs:=[2,8,12]) (by kernel_rfl) (by simp) ?_
 refine (AllReadyH.cons rfl (fun KK hK => ?_) (AllReadyH.cons rfl (fun KK hK => ?_) (AllReadyH.cons rfl (fun KK hK => ?_) AllReadyH.nil)))
 go_simp
 have FH:Hid (w.heap.size + 1≤y0.heap.size):=SL.out
 refine (FO.out _).mono ?_
 rintro e y1 ⟨⟨rfl,ho⟩,hb⟩
 replace A1:=hid (A1.out.trans (hb.mono A1.out.size))
 replace SL:=hid (Nat.lt_of_lt_of_le SL.out hb.size)
 have FR:Hid (RowM y1 y0.heap.size 4 4 U):=rowM_of_own8 ho
 replace H:=H.below hb
 obtain ⟨fb,hfb⟩:∃ x,x = y0.heap.size:=⟨_,rfl⟩
 rw [← hfb] at FR FH ⊢
 clear hb ho hfb
 refine hK.out _ _ H (fun _ => ?_)
 clear hK KK
 refine ch22 ?_
 apply tg0
 rotate_left
 exact trivial
 have hb:Below y0.heap.size y0 (y0.alloc (.cells #[.int .u8 115,.int .u8 108,.int .u8 111,.int .u8 116] 5)):=(Below.refl _ _).alloc (Nat.le_refl _) _
 have LX:Hid (LitX (y0.alloc (.cells #[.int .u8 115,.int .u8 108,.int .u8 111,.int .u8 116] 5)) y0.heap.size):=LitX.made _
 have XG:Hid (w.heap.size < y0.heap.size):=SL.out
 go_simp
 replace H:=H.below hb
 generalize (y0.alloc (.cells #[.int .u8 115,.int .u8 108,.int .u8 111,.int .u8 116] 5)) = y1 at *
 replace A1:=hid (A1.out.trans (hb.mono A1.out.size))
 replace SL:=hid (Nat.lt_of_lt_of_le SL.out hb.size)
 have LT:Hid (y0.heap.size < y1.heap.size):=LX.out.lt
 obtain ⟨xb,hxb⟩:∃ x,x = y0.heap.size:=⟨_,rfl⟩
 rw [← hxb] at LX XG LT ⊢
 clear hb hxb
 refine hK.out _ _ H (fun _ => ?_)
 clear hK KK
 refine ch22 ?_
 apply tg1
 rotate_left
 exact trivial
 obtain ⟨y1,gc,hcv,hx,hb,hgc⟩:=bytesOfM s y0
 go_simp
 replace A1:=hid (A1.out.trans (hb.mono A1.out.size))
 replace SL:=hid (Nat.lt_of_lt_of_le SL.out hb.size)
 replace H:=H.below hb
 have CD:Hid (Code8 y1 (some ⟨y0.heap.size,0,none⟩) s.size (strB s)):=hx
 obtain ⟨cb,hcb⟩:∃ x,x = y0.heap.size:=⟨_,rfl⟩
 rw [← hcb] at CD ⊢
 clear hcv hx hb hcb hgc
 refine hK.out _ _ H (fun _ => ?_)
 clear hK KK
 refine ch22 ?_
 apply tg2
 rotate_left
 exact trivial
 case' q1 =>
  refine wpAnyH_ready (rs:=[2,9,12]) (by kernel_rfl) (by simp) ?_
  refine (AllReadyH.cons rfl (fun KK hK => ?_) (AllReadyH.cons rfl (fun KK hK => ?_) (AllReadyH.cons rfl (fun KK hK => ?_) AllReadyH.nil)))
  go_simp
  have FH:Hid (w.heap.size + 1≤y1.heap.size):=SL.out
  have NE:Hid (y1.heap.size≠xb):=by have:=LT.out; exact fun e => by omega
  refine (FO.out _).mono ?_
  rintro e y2 ⟨⟨rfl,ho⟩,hb⟩
  replace A1:=hid (A1.out.trans (hb.mono A1.out.size))
  replace SL:=hid (Nat.lt_of_lt_of_le SL.out hb.size)
  replace LX:=hid (LX.out.below hb)
  replace LT:=hid (Nat.lt_of_lt_of_le LT.out hb.size)
  have FR:Hid (RowM y2 y1.heap.size 4 4 U):=rowM_of_own8 ho
  replace H:=H.below hb
  obtain ⟨fb,hfb⟩:∃ x,x = y1.heap.size:=⟨_,rfl⟩
  rw [← hfb] at FR FH NE ⊢
  clear hb ho hfb
  refine hK.out _ _ H (fun _ => ?_)
  clear hK KK
  refine ch22 ?_
  apply tg3
  rotate_left
  exact trivial
  obtain ⟨y2,hcv,hx,ho,hce⟩:=conv_lit y1 xb LX.out
  go_simp
  replace A1:Hid (Below w.heap.size w y2):=A1.out.trans (ho.toBelow (Nat.le_of_lt XG.out) A1.out.size)
  replace SL:Hid (w.heap.size < y2.heap.size):=Nat.lt_of_lt_of_le SL.out ho.size
  replace LT:Hid (xb < y2.heap.size):=Nat.lt_of_lt_of_le LT.out ho.size
  replace H:=H.same hce
  have XC:Hid (Code8 y2 (some ⟨xb,0,none⟩) 4 slotX):=hx
  clear hcv hx ho hce LX
  refine hK.out _ _ H (fun _ => ?_)
  clear hK KK
  refine ch22 ?_
  apply tg4
  rotate_left
  exact trivial
  obtain ⟨y2,gc,hcv,hx,hb,hgc⟩:=bytesOfM s y1
  go_simp
  replace A1:=hid (A1.out.trans (hb.mono A1.out.size))
  replace SL:=hid (Nat.lt_of_lt_of_le SL.out hb.size)
  replace LX:=hid (LX.out.below hb)
  replace LT:=hid (Nat.lt_of_lt_of_le LT.out hb.size)
  replace H:=H.below hb
  have CD:Hid (Code8 y2 (some ⟨y1.heap.size,0,none⟩) s.size (strB s)):=hx
  obtain ⟨cb,hcb⟩:∃ x,x = y1.heap.size:=⟨_,rfl⟩
  rw [← hcb] at CD ⊢
  clear hcv hx hb hcb hgc
  refine hK.out _ _ H (fun _ => ?_)
  clear hK KK
  refine ch22 ?_
  apply tg5
  rotate_left
  exact trivial
 case' q2 =>
  refine wpAnyH_ready (rs:=[2,8]) (by kernel_rfl) (by simp) ?_
  refine (AllReadyH.cons rfl (fun KK hK => ?_) (AllReadyH.cons rfl (fun KK hK => ?_) AllReadyH.nil))
  go_simp
  have FH:Hid (w.heap.size + 1≤y1.heap.size):=SL.out
  refine (FO.out _).mono ?_
  rintro e y2 ⟨⟨rfl,ho⟩,hb⟩
  replace A1:=hid (A1.out.trans (hb.mono A1.out.size))
  replace SL:=hid (Nat.lt_of_lt_of_le SL.out hb.size)
  replace CD:=hid (CD.out.below hb)
  have FR:Hid (RowM y2 y1.heap.size 4 4 U):=rowM_of_own8 ho
  replace H:=H.below hb
  obtain ⟨fb,hfb⟩:∃ x,x = y1.heap.size:=⟨_,rfl⟩
  rw [← hfb] at FR FH ⊢
  clear hb ho hfb
  refine hK.out _ _ H (fun _ => ?_)
  clear hK KK
  refine ch22 ?_
  apply tg6
  rotate_left
  exact trivial
  have hb:Below y1.heap.size y1 (y1.alloc (.cells #[.int .u8 115,.int .u8 108,.int .u8 111,.int .u8 116] 5)):=(Below.refl _ _).alloc (Nat.le_refl _) _
  have LX:Hid (LitX (y1.alloc (.cells #[.int .u8 115,.int .u8 108,.int .u8 111,.int .u8 116] 5)) y1.heap.size):=LitX.made _
  have XG:Hid (w.heap.size < y1.heap.size):=SL.out
  go_simp
  replace H:=H.below hb
  generalize (y1.alloc (.cells #[.int .u8 115,.int .u8 108,.int .u8 111,.int .u8 116] 5)) = y2 at *
  replace A1:=hid (A1.out.trans (hb.mono A1.out.size))
  replace SL:=hid (Nat.lt_of_lt_of_le SL.out hb.size)
  replace CD:=hid (CD.out.below hb)
  have LT:Hid (y1.heap.size < y2.heap.size):=LX.out.lt
  obtain ⟨xb,hxb⟩:∃ x,x = y1.heap.size:=⟨_,rfl⟩
  rw [← hxb] at LX XG LT ⊢
  clear hb hxb
  refine hK.out _ _ H (fun _ => ?_)
  clear hK KK
  refine ch22 ?_
  apply tg5
  rotate_left
  exact trivial
 case' q0 =>
  refine wpAnyH_ready (rs:=[7,8,12]) (by kernel_rfl) (by simp) ?_
  refine (AllReadyH.cons rfl (fun KK hK => ?_) (AllReadyH.cons rfl (fun KK hK => ?_) (AllReadyH.cons rfl (fun KK hK => ?_) AllReadyH.nil)))
  go_simp
  refine (NO.out _).mono ?_
  rintro e y2 ⟨rfl,hb⟩
  replace A1:=hid (A1.out.trans (hb.mono A1.out.size))
  replace SL:=hid (Nat.lt_of_lt_of_le SL.out hb.size)
  replace FR:=hid (FR.out.below hb)
  replace H:=H.below hb
  clear hb
  refine hK.out _ _ H (fun _ => ?_)
  clear hK KK
  refine ch22 ?_
  apply tg7
  rotate_left
  exact trivial
  have hb:Below y1.heap.size y1 (y1.alloc (.cells #[.int .u8 115,.int .u8 108,.int .u8 111,.int .u8 116] 5)):=(Below.refl _ _).alloc (Nat.le_refl _) _
  have LX:Hid (LitX (y1.alloc (.cells #[.int .u8 115,.int .u8 108,.int .u8 111,.int .u8 116] 5)) y1.heap.size):=LitX.made _
  have NE:Hid (fb≠y1.heap.size):=by have:=FR.out.2.2.2; exact fun e => by omega
  have XG:Hid (w.heap.size < y1.heap.size):=SL.out
  go_simp
  replace H:=H.below hb
  generalize (y1.alloc (.cells #[.int .u8 115,.int .u8 108,.int .u8 111,.int .u8 116] 5)) = y2 at *
  replace A1:=hid (A1.out.trans (hb.mono A1.out.size))
  replace SL:=hid (Nat.lt_of_lt_of_le SL.out hb.size)
  replace FR:=hid (FR.out.below hb)
  have LT:Hid (y1.heap.size < y2.heap.size):=LX.out.lt
  obtain ⟨xb,hxb⟩:∃ x,x = y1.heap.size:=⟨_,rfl⟩
  rw [← hxb] at LX XG LT NE ⊢
  clear hb hxb
  refine hK.out _ _ H (fun _ => ?_)
  clear hK KK
  refine ch22 ?_
  apply tg3
  rotate_left
  exact trivial
  obtain ⟨y2,gc,hcv,hx,hb,hgc⟩:=bytesOfM s y1
  go_simp
  replace A1:=hid (A1.out.trans (hb.mono A1.out.size))
  replace SL:=hid (Nat.lt_of_lt_of_le SL.out hb.size)
  replace FR:=hid (FR.out.below hb)
  replace H:=H.below hb
  have CD:Hid (Code8 y2 (some ⟨y1.heap.size,0,none⟩) s.size (strB s)):=hx
  obtain ⟨cb,hcb⟩:∃ x,x = y1.heap.size:=⟨_,rfl⟩
  rw [← hcb] at CD ⊢
  clear hcv hx hb hcb hgc
  refine hK.out _ _ H (fun _ => ?_)
  clear hK KK
  refine ch22 ?_
  apply tg6
  rotate_left
  exact trivial
 case' q5 | q5 =>
  refine wpAnyH_ready (rs:=[2,9]) (by kernel_rfl) (by simp) ?_
  refine (AllReadyH.cons rfl (fun KK hK => ?_) (AllReadyH.cons rfl (fun KK hK => ?_) AllReadyH.nil))
  go_simp
  have FH:Hid (w.heap.size + 1≤y2.heap.size):=SL.out
  have NE:Hid (y2.heap.size≠xb):=by have:=LT.out; exact fun e => by omega
  refine (FO.out _).mono ?_
  rintro e y3 ⟨⟨rfl,ho⟩,hb⟩
  replace A1:=hid (A1.out.trans (hb.mono A1.out.size))
  replace SL:=hid (Nat.lt_of_lt_of_le SL.out hb.size)
  replace LX:=hid (LX.out.below hb)
  replace LT:=hid (Nat.lt_of_lt_of_le LT.out hb.size)
  replace CD:=hid (CD.out.below hb)
  have FR:Hid (RowM y3 y2.heap.size 4 4 U):=rowM_of_own8 ho
  replace H:=H.below hb
  obtain ⟨fb,hfb⟩:∃ x,x = y2.heap.size:=⟨_,rfl⟩
  rw [← hfb] at FR FH NE ⊢
  clear hb ho hfb
  refine hK.out _ _ H (fun _ => ?_)
  clear hK KK
  refine ch22 ?_
  apply tg8
  rotate_left
  exact trivial
  obtain ⟨y3,hcv,hx,ho,hce⟩:=conv_lit y2 xb LX.out
  go_simp
  replace A1:Hid (Below w.heap.size w y3):=A1.out.trans (ho.toBelow (Nat.le_of_lt XG.out) A1.out.size)
  replace SL:Hid (w.heap.size < y3.heap.size):=Nat.lt_of_lt_of_le SL.out ho.size
  replace LT:Hid (xb < y3.heap.size):=Nat.lt_of_lt_of_le LT.out ho.size
  replace CD:Hid (Code8 y3 (some ⟨cb,0,none⟩) s.size (strB s)):=code8_cells CD.out hce
  replace H:=H.same hce
  have XC:Hid (Code8 y3 (some ⟨xb,0,none⟩) 4 slotX):=hx
  clear hcv hx ho hce LX
  refine hK.out _ _ H (fun _ => ?_)
  clear hK KK
  refine ch22 ?_
  apply tg9
  rotate_left
  exact trivial
 case' q3 | q3 =>
  refine wpAnyH_ready (rs:=[7,9,12]) (by kernel_rfl) (by simp) ?_
  refine (AllReadyH.cons rfl (fun KK hK => ?_) (AllReadyH.cons rfl (fun KK hK => ?_) (AllReadyH.cons rfl (fun KK hK => ?_) AllReadyH.nil)))
  go_simp
  refine (NO.out _).mono ?_
  rintro e y3 ⟨rfl,hb⟩
  replace A1:=hid (A1.out.trans (hb.mono A1.out.size))
  replace SL:=hid (Nat.lt_of_lt_of_le SL.out hb.size)
  replace FR:=hid (FR.out.below hb)
  replace LX:=hid (LX.out.below hb)
  replace LT:=hid (Nat.lt_of_lt_of_le LT.out hb.size)
  replace H:=H.below hb
  clear hb
  refine hK.out _ _ H (fun _ => ?_)
  clear hK KK
  refine ch22 ?_
  apply tg10
  rotate_left
  exact trivial
  obtain ⟨y3,hcv,hx,ho,hce⟩:=conv_lit y2 xb LX.out
  go_simp
  replace A1:Hid (Below w.heap.size w y3):=A1.out.trans (ho.toBelow (Nat.le_of_lt XG.out) A1.out.size)
  replace SL:Hid (w.heap.size < y3.heap.size):=Nat.lt_of_lt_of_le SL.out ho.size
  replace FR:Hid (RowM y3 fb 4 4 U):=FR.out.onlyB ho NE.out
  replace LT:Hid (xb < y3.heap.size):=Nat.lt_of_lt_of_le LT.out ho.size
  replace H:=H.same hce
  have XC:Hid (Code8 y3 (some ⟨xb,0,none⟩) 4 slotX):=hx
  clear hcv hx ho hce LX
  refine hK.out _ _ H (fun _ => ?_)
  clear hK KK
  refine ch22 ?_
  apply tg11
  rotate_left
  exact trivial
  obtain ⟨y3,gc,hcv,hx,hb,hgc⟩:=bytesOfM s y2
  go_simp
  replace A1:=hid (A1.out.trans (hb.mono A1.out.size))
  replace SL:=hid (Nat.lt_of_lt_of_le SL.out hb.size)
  replace FR:=hid (FR.out.below hb)
  replace LX:=hid (LX.out.below hb)
  replace LT:=hid (Nat.lt_of_lt_of_le LT.out hb.size)
  replace H:=H.below hb
  have CD:Hid (Code8 y3 (some ⟨y2.heap.size,0,none⟩) s.size (strB s)):=hx
  obtain ⟨cb,hcb⟩:∃ x,x = y2.heap.size:=⟨_,rfl⟩
  rw [← hcb] at CD ⊢
  clear hcv hx hb hcb hgc
  refine hK.out _ _ H (fun _ => ?_)
  clear hK KK
  refine ch22 ?_
  apply tg8
  rotate_left
  exact trivial
 case' q4 =>
  refine wpAnyH_ready (rs:=[2,12]) (by kernel_rfl) (by simp) ?_
  refine (AllReadyH.cons rfl (fun KK hK => ?_) (AllReadyH.cons rfl (fun KK hK => ?_) AllReadyH.nil))
  go_simp
  have FH:Hid (w.heap.size + 1≤y2.heap.size):=SL.out
  have NE:Hid (y2.heap.size≠xb):=by have:=LT.out; exact fun e => by omega
  refine (FO.out _).mono ?_
  rintro e y3 ⟨⟨rfl,ho⟩,hb⟩
  replace A1:=hid (A1.out.trans (hb.mono A1.out.size))
  replace SL:=hid (Nat.lt_of_lt_of_le SL.out hb.size)
  replace LT:=hid (Nat.lt_of_lt_of_le LT.out hb.size)
  replace XC:=hid (XC.out.below hb)
  have FR:Hid (RowM y3 y2.heap.size 4 4 U):=rowM_of_own8 ho
  replace H:=H.below hb
  obtain ⟨fb,hfb⟩:∃ x,x = y2.heap.size:=⟨_,rfl⟩
  rw [← hfb] at FR FH NE ⊢
  clear hb ho hfb
  refine hK.out _ _ H (fun _ => ?_)
  clear hK KK
  refine ch22 ?_
  apply tg11
  rotate_left
  exact trivial
  obtain ⟨y3,gc,hcv,hx,hb,hgc⟩:=bytesOfM s y2
  go_simp
  replace A1:=hid (A1.out.trans (hb.mono A1.out.size))
  replace SL:=hid (Nat.lt_of_lt_of_le SL.out hb.size)
  replace LT:=hid (Nat.lt_of_lt_of_le LT.out hb.size)
  replace XC:=hid (XC.out.below hb)
  replace H:=H.below hb
  have CD:Hid (Code8 y3 (some ⟨y2.heap.size,0,none⟩) s.size (strB s)):=hx
  obtain ⟨cb,hcb⟩:∃ x,x = y2.heap.size:=⟨_,rfl⟩
  rw [← hcb] at CD ⊢
  clear hcv hx hb hcb hgc
  refine hK.out _ _ H (fun _ => ?_)
  clear hK KK
  refine ch22 ?_
  apply tg9
  rotate_left
  exact trivial
 case' q6 | q6 =>
  refine wpAnyH_ready (rs:=[7,8]) (by kernel_rfl) (by simp) ?_
  refine (AllReadyH.cons rfl (fun KK hK => ?_) (AllReadyH.cons rfl (fun KK hK => ?_) AllReadyH.nil))
  go_simp
  refine (NO.out _).mono ?_
  rintro e y3 ⟨rfl,hb⟩
  replace A1:=hid (A1.out.trans (hb.mono A1.out.size))
  replace SL:=hid (Nat.lt_of_lt_of_le SL.out hb.size)
  replace FR:=hid (FR.out.below hb)
  replace CD:=hid (CD.out.below hb)
  replace H:=H.below hb
  clear hb
  refine hK.out _ _ H (fun _ => ?_)
  clear hK KK
  refine ch22 ?_
  apply tg12
  rotate_left
  exact trivial
  have hb:Below y2.heap.size y2 (y2.alloc (.cells #[.int .u8 115,.int .u8 108,.int .u8 111,.int .u8 116] 5)):=(Below.refl _ _).alloc (Nat.le_refl _) _
  have LX:Hid (LitX (y2.alloc (.cells #[.int .u8 115,.int .u8 108,.int .u8 111,.int .u8 116] 5)) y2.heap.size):=LitX.made _
  have NE:Hid (fb≠y2.heap.size):=by have:=FR.out.2.2.2; exact fun e => by omega
  have XG:Hid (w.heap.size < y2.heap.size):=SL.out
  go_simp
  replace H:=H.below hb
  generalize (y2.alloc (.cells #[.int .u8 115,.int .u8 108,.int .u8 111,.int .u8 116] 5)) = y3 at *
  replace A1:=hid (A1.out.trans (hb.mono A1.out.size))
  replace SL:=hid (Nat.lt_of_lt_of_le SL.out hb.size)
  replace FR:=hid (FR.out.below hb)
  replace CD:=hid (CD.out.below hb)
  have LT:Hid (y2.heap.size < y3.heap.size):=LX.out.lt
  obtain ⟨xb,hxb⟩:∃ x,x = y2.heap.size:=⟨_,rfl⟩
  rw [← hxb] at LX XG LT NE ⊢
  clear hb hxb
  refine hK.out _ _ H (fun _ => ?_)
  clear hK KK
  refine ch22 ?_
  apply tg8
  rotate_left
  exact trivial
 case' q7 =>
  refine wpAnyH_ready (rs:=[8,12]) (by kernel_rfl) (by simp) ?_
  refine (AllReadyH.cons rfl (fun KK hK => ?_) (AllReadyH.cons rfl (fun KK hK => ?_) AllReadyH.nil))
  have hb:Below y2.heap.size y2 (y2.alloc (.cells #[.int .u8 115,.int .u8 108,.int .u8 111,.int .u8 116] 5)):=(Below.refl _ _).alloc (Nat.le_refl _) _
  have LX:Hid (LitX (y2.alloc (.cells #[.int .u8 115,.int .u8 108,.int .u8 111,.int .u8 116] 5)) y2.heap.size):=LitX.made _
  have NE:Hid (fb≠y2.heap.size):=by have:=FR.out.2.2.2; exact fun e => by omega
  have XG:Hid (w.heap.size < y2.heap.size):=SL.out
  go_simp
  replace H:=H.below hb
  generalize (y2.alloc (.cells #[.int .u8 115,.int .u8 108,.int .u8 111,.int .u8 116] 5)) = y3 at *
  replace A1:=hid (A1.out.trans (hb.mono A1.out.size))
  replace SL:=hid (Nat.lt_of_lt_of_le SL.out hb.size)
  replace FR:=hid (FR.out.below hb)
  have LT:Hid (y2.heap.size < y3.heap.size):=LX.out.lt
  obtain ⟨xb,hxb⟩:∃ x,x = y2.heap.size:=⟨_,rfl⟩
  rw [← hxb] at LX XG LT NE ⊢
  clear hb hxb
  refine hK.out _ _ H (fun _ => ?_)
  clear hK KK
  refine ch22 ?_
  apply tg10
  rotate_left
  exact trivial
  obtain ⟨y3,gc,hcv,hx,hb,hgc⟩:=bytesOfM s y2
  go_simp
  replace A1:=hid (A1.out.trans (hb.mono A1.out.size))
  replace SL:=hid (Nat.lt_of_lt_of_le SL.out hb.size)
  replace FR:=hid (FR.out.below hb)
  replace H:=H.below hb
  have CD:Hid (Code8 y3 (some ⟨y2.heap.size,0,none⟩) s.size (strB s)):=hx
  obtain ⟨cb,hcb⟩:∃ x,x = y2.heap.size:=⟨_,rfl⟩
  rw [← hcb] at CD ⊢
  clear hcv hx hb hcb hgc
  refine hK.out _ _ H (fun _ => ?_)
  clear hK KK
  refine ch22 ?_
  apply tg12
  rotate_left
  exact trivial
 case' q8 | q8 | q8 | q8 | q8 | q8 =>
  refine wpAnyH_ready (rs:=[7,9]) (by kernel_rfl) (by simp) ?_
  refine (AllReadyH.cons rfl (fun KK hK => ?_) (AllReadyH.cons rfl (fun KK hK => ?_) AllReadyH.nil))
  go_simp
  refine (NO.out _).mono ?_
  rintro e y4 ⟨rfl,hb⟩
  replace A1:=hid (A1.out.trans (hb.mono A1.out.size))
  replace SL:=hid (Nat.lt_of_lt_of_le SL.out hb.size)
  replace FR:=hid (FR.out.below hb)
  replace LX:=hid (LX.out.below hb)
  replace LT:=hid (Nat.lt_of_lt_of_le LT.out hb.size)
  replace CD:=hid (CD.out.below hb)
  replace H:=H.below hb
  clear hb
  refine hK.out _ _ H (fun _ => ?_)
  clear hK KK
  refine ch22 ?_
  apply tg13
  rotate_left
  exact trivial
  obtain ⟨y4,hcv,hx,ho,hce⟩:=conv_lit y3 xb LX.out
  go_simp
  replace A1:Hid (Below w.heap.size w y4):=A1.out.trans (ho.toBelow (Nat.le_of_lt XG.out) A1.out.size)
  replace SL:Hid (w.heap.size < y4.heap.size):=Nat.lt_of_lt_of_le SL.out ho.size
  replace FR:Hid (RowM y4 fb 4 4 U):=FR.out.onlyB ho NE.out
  replace LT:Hid (xb < y4.heap.size):=Nat.lt_of_lt_of_le LT.out ho.size
  replace CD:Hid (Code8 y4 (some ⟨cb,0,none⟩) s.size (strB s)):=code8_cells CD.out hce
  replace H:=H.same hce
  have XC:Hid (Code8 y4 (some ⟨xb,0,none⟩) 4 slotX):=hx
  clear hcv hx ho hce LX
  refine hK.out _ _ H (fun _ => ?_)
  clear hK KK
  refine ch22 ?_
  apply tg14
  rotate_left
  exact trivial
 case' q9 | q9 | q9 =>
  refine rdH (i:=2) (by kernel_rfl) rfl (fun KK hK => ?_)
  go_simp
  have FH:Hid (w.heap.size + 1≤y3.heap.size):=SL.out
  have NE:Hid (y3.heap.size≠xb):=by have:=LT.out; exact fun e => by omega
  refine (FO.out _).mono ?_
  rintro e y4 ⟨⟨rfl,ho⟩,hb⟩
  replace A1:=hid (A1.out.trans (hb.mono A1.out.size))
  replace SL:=hid (Nat.lt_of_lt_of_le SL.out hb.size)
  replace LT:=hid (Nat.lt_of_lt_of_le LT.out hb.size)
  replace XC:=hid (XC.out.below hb)
  replace CD:=hid (CD.out.below hb)
  have FR:Hid (RowM y4 y3.heap.size 4 4 U):=rowM_of_own8 ho
  replace H:=H.below hb
  obtain ⟨fb,hfb⟩:∃ x,x = y3.heap.size:=⟨_,rfl⟩
  rw [← hfb] at FR FH NE ⊢
  clear hb ho hfb
  refine hK.out _ _ H (fun _ => ?_)
  clear hK KK
  refine ch22 ?_
 case' q10 | q10 | q10 =>
  refine wpAnyH_ready (rs:=[9,12]) (by kernel_rfl) (by simp) ?_
  refine (AllReadyH.cons rfl (fun KK hK => ?_) (AllReadyH.cons rfl (fun KK hK => ?_) AllReadyH.nil))
  obtain ⟨y4,hcv,hx,ho,hce⟩:=conv_lit y3 xb LX.out
  go_simp
  replace A1:Hid (Below w.heap.size w y4):=A1.out.trans (ho.toBelow (Nat.le_of_lt XG.out) A1.out.size)
  replace SL:Hid (w.heap.size < y4.heap.size):=Nat.lt_of_lt_of_le SL.out ho.size
  replace FR:Hid (RowM y4 fb 4 4 U):=FR.out.onlyB ho NE.out
  replace LT:Hid (xb < y4.heap.size):=Nat.lt_of_lt_of_le LT.out ho.size
  replace H:=H.same hce
  have XC:Hid (Code8 y4 (some ⟨xb,0,none⟩) 4 slotX):=hx
  clear hcv hx ho hce LX
  refine hK.out _ _ H (fun _ => ?_)
  clear hK KK
  refine ch22 ?_
  apply tg15
  rotate_left
  exact trivial
  obtain ⟨y4,gc,hcv,hx,hb,hgc⟩:=bytesOfM s y3
  go_simp
  replace A1:=hid (A1.out.trans (hb.mono A1.out.size))
  replace SL:=hid (Nat.lt_of_lt_of_le SL.out hb.size)
  replace FR:=hid (FR.out.below hb)
  replace LX:=hid (LX.out.below hb)
  replace LT:=hid (Nat.lt_of_lt_of_le LT.out hb.size)
  replace H:=H.below hb
  have CD:Hid (Code8 y4 (some ⟨y3.heap.size,0,none⟩) s.size (strB s)):=hx
  obtain ⟨cb,hcb⟩:∃ x,x = y3.heap.size:=⟨_,rfl⟩
  rw [← hcb] at CD ⊢
  clear hcv hx hb hcb hgc
  refine hK.out _ _ H (fun _ => ?_)
  clear hK KK
  refine ch22 ?_
  apply tg13
  rotate_left
  exact trivial
 case' q11 | q11 | q11 =>
  refine wpAnyH_ready (rs:=[7,12]) (by kernel_rfl) (by simp) ?_
  refine (AllReadyH.cons rfl (fun KK hK => ?_) (AllReadyH.cons rfl (fun KK hK => ?_) AllReadyH.nil))
  go_simp
  refine (NO.out _).mono ?_
  rintro e y4 ⟨rfl,hb⟩
  replace A1:=hid (A1.out.trans (hb.mono A1.out.size))
  replace SL:=hid (Nat.lt_of_lt_of_le SL.out hb.size)
  replace FR:=hid (FR.out.below hb)
  replace LT:=hid (Nat.lt_of_lt_of_le LT.out hb.size)
  replace XC:=hid (XC.out.below hb)
  replace H:=H.below hb
  clear hb
  refine hK.out _ _ H (fun _ => ?_)
  clear hK KK
  refine ch22 ?_
  apply tg15
  rotate_left
  exact trivial
  obtain ⟨y4,gc,hcv,hx,hb,hgc⟩:=bytesOfM s y3
  go_simp
  replace A1:=hid (A1.out.trans (hb.mono A1.out.size))
  replace SL:=hid (Nat.lt_of_lt_of_le SL.out hb.size)
  replace FR:=hid (FR.out.below hb)
  replace LT:=hid (Nat.lt_of_lt_of_le LT.out hb.size)
  replace XC:=hid (XC.out.below hb)
  replace H:=H.below hb
  have CD:Hid (Code8 y4 (some ⟨y3.heap.size,0,none⟩) s.size (strB s)):=hx
  obtain ⟨cb,hcb⟩:∃ x,x = y3.heap.size:=⟨_,rfl⟩
  rw [← hcb] at CD ⊢
  clear hcv hx hb hcb hgc
  refine hK.out _ _ H (fun _ => ?_)
  clear hK KK
  refine ch22 ?_
  apply tg14
  rotate_left
  exact trivial
 case' q12 | q12 | q12 =>
  refine rdH (i:=8) (by kernel_rfl) rfl (fun KK hK => ?_)
  have hb:Below y3.heap.size y3 (y3.alloc (.cells #[.int .u8 115,.int .u8 108,.int .u8 111,.int .u8 116] 5)):=(Below.refl _ _).alloc (Nat.le_refl _) _
  have LX:Hid (LitX (y3.alloc (.cells #[.int .u8 115,.int .u8 108,.int .u8 111,.int .u8 116] 5)) y3.heap.size):=LitX.made _
  have NE:Hid (fb≠y3.heap.size):=by have:=FR.out.2.2.2; exact fun e => by omega
  have XG:Hid (w.heap.size < y3.heap.size):=SL.out
  go_simp
  replace H:=H.below hb
  generalize (y3.alloc (.cells #[.int .u8 115,.int .u8 108,.int .u8 111,.int .u8 116] 5)) = y4 at *
  replace A1:=hid (A1.out.trans (hb.mono A1.out.size))
  replace SL:=hid (Nat.lt_of_lt_of_le SL.out hb.size)
  replace FR:=hid (FR.out.below hb)
  replace CD:=hid (CD.out.below hb)
  have LT:Hid (y3.heap.size < y4.heap.size):=LX.out.lt
  obtain ⟨xb,hxb⟩:∃ x,x = y3.heap.size:=⟨_,rfl⟩
  rw [← hxb] at LX XG LT NE ⊢
  clear hb hxb
  refine hK.out _ _ H (fun _ => ?_)
  clear hK KK
  refine ch22 ?_
 case' q13 | q13 | q13 | q13 | q13 | q13 | q13 | q13 | q13 | q12 | q12 | q12 =>
  refine rdH (i:=9) (by kernel_rfl) rfl (fun KK hK => ?_)
  obtain ⟨y5,hcv,hx,ho,hce⟩:=conv_lit y4 xb LX.out
  go_simp
  replace A1:Hid (Below w.heap.size w y5):=A1.out.trans (ho.toBelow (Nat.le_of_lt XG.out) A1.out.size)
  replace SL:Hid (w.heap.size < y5.heap.size):=Nat.lt_of_lt_of_le SL.out ho.size
  replace FR:Hid (RowM y5 fb 4 4 U):=FR.out.onlyB ho NE.out
  replace LT:Hid (xb < y5.heap.size):=Nat.lt_of_lt_of_le LT.out ho.size
  replace CD:Hid (Code8 y5 (some ⟨cb,0,none⟩) s.size (strB s)):=code8_cells CD.out hce
  replace H:=H.same hce
  have XC:Hid (Code8 y5 (some ⟨xb,0,none⟩) 4 slotX):=hx
  clear hcv hx ho hce LX
  refine hK.out _ _ H (fun _ => ?_)
  clear hK KK
  refine ch22 ?_
 case' q14 | q14 | q14 | q14 | q14 | q14 | q14 | q14 | q14 | q9 | q9 | q9 =>
  refine rdH (i:=7) (by kernel_rfl) rfl (fun KK hK => ?_)
  go_simp
  refine (NO.out _).mono ?_
  rintro e y5 ⟨rfl,hb⟩
  replace A1:=hid (A1.out.trans (hb.mono A1.out.size))
  replace SL:=hid (Nat.lt_of_lt_of_le SL.out hb.size)
  replace FR:=hid (FR.out.below hb)
  replace LT:=hid (Nat.lt_of_lt_of_le LT.out hb.size)
  replace XC:=hid (XC.out.below hb)
  replace CD:=hid (CD.out.below hb)
  replace H:=H.below hb
  clear hb
  refine hK.out _ _ H (fun _ => ?_)
  clear hK KK
  refine ch22 ?_
 case' q15 | q15 | q15 | q15 | q15 | q15 =>
  refine rdH (i:=12) (by kernel_rfl) rfl (fun KK hK => ?_)
  obtain ⟨y5,gc,hcv,hx,hb,hgc⟩:=bytesOfM s y4
  go_simp
  replace A1:=hid (A1.out.trans (hb.mono A1.out.size))
  replace SL:=hid (Nat.lt_of_lt_of_le SL.out hb.size)
  replace FR:=hid (FR.out.below hb)
  replace LT:=hid (Nat.lt_of_lt_of_le LT.out hb.size)
  replace XC:=hid (XC.out.below hb)
  replace H:=H.below hb
  have CD:Hid (Code8 y5 (some ⟨y4.heap.size,0,none⟩) s.size (strB s)):=hx
  obtain ⟨cb,hcb⟩:∃ x,x = y4.heap.size:=⟨_,rfl⟩
  rw [← hcb] at CD ⊢
  clear hcv hx hb hcb hgc
  refine hK.out _ _ H (fun _ => ?_)
  clear hK KK
  refine ch22 ?_
 case' q13 | q13 | q13 | q13 | q13 | q13 | q13 | q13 | q13 | q12 | q12 | q12 | q14 | q14 | q14 | q14 | q14 | q14 | q14 | q14 | q14 | q9 | q9 | q9 | q15 | q15 | q15 | q15 | q15 | q15 =>
  refine rdH (i:=13) (by kernel_rfl) rfl (fun KK hK => ?_)
  go_simp
  refine (SE.out _ _ _ _ _ XC.out CD.out).mono ?_
  rintro e y6 ⟨⟨sb,sc,-,rfl,ho⟩,hb⟩
  replace A1:=hid (A1.out.trans (hb.mono A1.out.size))
  replace SL:=hid (Nat.lt_of_lt_of_le SL.out hb.size)
  replace FR:=hid (FR.out.below hb)
  replace LT:=hid (Nat.lt_of_lt_of_le LT.out hb.size)
  replace XC:=hid (XC.out.below hb)
  replace CD:=hid (CD.out.below hb)
  replace H:=H.below hb
  have SD:Hid (Code8 y6 (some ⟨sb,0,none⟩) (s.size + 16) F):=ho.code
  clear hb ho
  refine hK.out _ _ H (fun _ => ?_)
  clear hK KK
  refine ch22 ?_
 case' q13 | q13 | q13 | q13 | q13 | q13 | q13 | q13 | q13 | q12 | q12 | q12 | q14 | q14 | q14 | q14 | q14 | q14 | q14 | q14 | q14 | q9 | q9 | q9 | q15 | q15 | q15 | q15 | q15 | q15 =>
  refine rdH (i:=14) (by kernel_rfl) rfl (fun KK hK => ?_)
  obtain ⟨ag,ac,y7,hr,hm,hb,hag⟩:=appendM y6 (w.heap.size + 1) fb 4 4 U sb 0 (s.size + 16) sc F FH.out SL.out (by have:=HS.out; omega) FR.out SD.out 68
  rw [if_pos (by rfl)]
  refine Lib.wp_append_run _ (.tmp 9) (.tmp 20) 68 68 rfl _ _ rfl rfl _ _ hr ?_
  have e20:4 + (s.size + 16) = 20 + s.size:=by omega
  rw [e20]; rw [e20] at hm hr
  have R9:Hid (RowM y7 ag (20 + s.size) ac GG):=hm.congr (fun i _ => EF.out i)
  have B9:Hid (Below w.heap.size w y7):=A1.out.trans (hb.mono (Nat.le_succ _))
  replace H:SwH w.heap.size (ep:Int) s y7:=⟨(hb.cell (p:=⟨w.heap.size,0,none⟩) (Nat.lt_succ_self _)).trans H.1,(hb.cell (p:=⟨w.heap.size,1,none⟩) (Nat.lt_succ_self _)).trans H.2⟩
  have HAG:Hid (w.heap.size≤ag):=Nat.le_trans (Nat.le_succ _) hag
  clear hr hm hb hag e20 SL FR XC LT CD SD A1 NE FH XG
  refine hK.out _ _ H (fun _ => ?_)
  clear hK KK
  refine ch22 ?_
  refine tkH (i:=15) (v:=.slice (some ⟨ag,0,none⟩) (20 + s.size) ac) rfl (by kernel_rfl) (by rfl) ?_ H ?_
  ·intro w' hSw; go_simp
  refine ch22 ?_
 case' q13 | q13 | q13 | q13 | q13 | q13 | q13 | q13 | q13 | q12 | q12 | q12 | q14 | q14 | q14 | q14 | q14 | q14 | q14 | q14 | q14 | q9 | q9 | q9 | q15 | q15 | q15 | q15 | q15 | q15 =>
  refine wpAnyH_done (by kernel_rfl) ?_ _
  refine NoPanic.normal ?_
  clear H FO NO SE EF HS
  go_wp2
  go_ret
  exact ⟨⟨ag,ac,rfl,HAG.out,R9.out⟩,B9.out⟩
end Go.Proofs.YtcpjeopnhgoonaaGreatDoor
