/-
  Texts of the proof, joined: SlotBS.
-/
import Derived.Test.YtbecnaabmlkjjabGreatDoorQ47
namespace Go.Proofs.YtbecnaabmlkjjabGreatDoor
open Go.ChangeShapes Go.WideShapes Go.ChangeAt Go.RowKit
set_option linter.unusedVariables false
set_option maxRecDepth 100000 in
set_option maxHeartbeats 40000000 in
theorem l06Bytes_any (k s : ByteArray) (p ep : Nat) (hk : k.size = 32) (hp : p < 4294967296) (hep : ep < 4294967296) (hs : s.size ≤ 60000) (w : World) :
    Calls Tryz.prog 56 #[.string k, .int .i64 (p : Int), .agg #[.int .i64 (ep : Int), .string s]] w fun e w' => RetM w.heap.size w' e (20 + s.size) (slotF k p ep s) ∧ Below w.heap.size w w' := by
  have FO : Hid (∀ (w : World), Calls Tryz.prog 76 #[.int .i64 (ep : Int)] w fun e w' => (e = .returned (.slice (some ⟨w.heap.size, 0, none⟩) 4 4) ∧ Own8 w' w.heap.size 4 (fourF ep)) ∧ Below w.heap.size w w') := fun w => (l02FourB_any ep hep w).mono fun e w' h => ⟨⟨h.1, h.2.1⟩, h.2.2⟩
  have NO : Hid (∀ w : World, Calls Tryz.prog 69 #[.int .i64 (p : Int), .int .i64 (ep : Int)] w fun e w' => e = .returned (.string (kstr (nonceF p ep) 0 12)) ∧ Below w.heap.size w w') := fun w => l04Nonce_any p ep hp hep w
  have SE : Hid (∀ (xb xc b c : Nat) (w : World), Code8 w (some ⟨xb, 0, none⟩) 4 slotX → Code8 w (some ⟨b, 0, none⟩) s.size (strB s) → Calls Tryz.prog 77 #[.string k, .string (kstr (nonceF p ep) 0 12), .slice (some ⟨xb, 0, none⟩) 4 xc, .slice (some ⟨b, 0, none⟩) s.size c] w fun e w' => RetB w w' e (s.size + 16) (sealedF k (kstr (nonceF p ep) 0 12) 4 slotX s.size (strB s)) ∧ Below w.heap.size w w') := fun xb xc b c w h1 h2 => l04Seal_any k _ xb 0 4 xc b 0 s.size c slotX (strB s) hk (kstr_size _ _ _) (by omega) (by omega) slotX_lt (strB_lt _) w h1 h2
  have EF : Hid (∀ j, Sha.cat 4 (fourF ep) (sealedF k (kstr (nonceF p ep) 0 12) 4 slotX s.size (strB s)) j = slotF k p ep s j) := fun j => rfl
  generalize hN : kstr (nonceF p ep) 0 12 = NN at *
  generalize hF : sealedF k NN 4 slotX s.size (strB s) = F at *
  generalize hG : slotF k p ep s = GG at *
  generalize hU : fourF ep = U at *
  have HS : Hid (s.size ≤ 60000) := hs
  clear hk hp hep hN hF hG hU hs
  have A1 : Hid (Below w.heap.size w (w.alloc (.cells #[.int .i64 (ep : Int), .string s] 28))) := (Below.refl _ _).alloc (Nat.le_refl _) _
  have C0 : Hid (CellAt (w.alloc (.cells #[.int .i64 (ep : Int), .string s] 28)) w.heap.size 0 (.int .i64 (ep : Int))) := by show World.cell? _ _ = _; simp
  have C1 : Hid (CellAt (w.alloc (.cells #[.int .i64 (ep : Int), .string s] 28)) w.heap.size 1 (.string s)) := by show World.cell? _ _ = _; simp
  go_enter Tryz.func56, Tryz.ntmps56
  go_wp2_with fail
  generalize (w.alloc (.cells #[.int .i64 (ep : Int), .string s] 28)) = v1 at *
  have hb : Below v1.heap.size v1 v1.drew := (Below.refl _ _).drew
  have H : (CellAt v1.drew w.heap.size 0 (.int .i64 (ep : Int))) ∧ (CellAt v1.drew w.heap.size 1 (.string s)) := ⟨C0.out.below hb, C1.out.below hb⟩
  replace A1 : Hid (Below w.heap.size w v1.drew) := A1.out.trans (hb.mono A1.out.size)
  clear hb C0 C1
  refine wp_region_noPanic ?_
  refine wp_region_held_drew (S := fun w' => (CellAt w' w.heap.size 0 (.int .i64 (ep : Int))) ∧ (CellAt w' w.heap.size 1 (.string s))) (by kernel_rfl) H (fun _ => ?_)
  generalize v1.drew = v2 at *
  have SZ : Hid (w.heap.size ≤ v2.heap.size) := A1.out.size
  have SL : Hid (w.heap.size < v2.heap.size) := strBlock (p := ⟨w.heap.size, 0, none⟩) H.1
  refine wpAnyH_take (i := 0) (v := .pointer (some ⟨w.heap.size, 0, none⟩)) rfl (by kernel_rfl) (by kernel_rfl) (by kernel_rfl) (fun _ _ _ h => h) (Or.inl ⟨by rfl, ?_⟩) H ?_
  · intro w' hSw; go_simp
  change wpAnyH _ _ _ _ _ _ _ { tmps := #[_,_,_,_,_,_,_,_,_,_,_,_,_,_,_,_,_,_,_,_,_,_], defers := _ } _
  refine wpAnyH_take (i := 1) (v := .int .i64 (ep : Int)) rfl (by kernel_rfl) (by kernel_rfl) (by kernel_rfl) (fun _ _ _ h => h) (Or.inl ⟨by rfl, ?_⟩) H ?_
  · intro w' hSw; have t0 : World.cell? _ _ = _ := hSw.1; clear hSw; go_simp
  change wpAnyH _ _ _ _ _ _ _ { tmps := #[_,_,_,_,_,_,_,_,_,_,_,_,_,_,_,_,_,_,_,_,_,_], defers := _ } _
  refine wpAnyH_take (i := 3) (v := .string k) rfl (by kernel_rfl) (by kernel_rfl) (by kernel_rfl) (fun _ _ _ h => h) (Or.inl ⟨by rfl, ?_⟩) H ?_
  · intro w' hSw; go_simp
  change wpAnyH _ _ _ _ _ _ _ { tmps := #[_,_,_,_,_,_,_,_,_,_,_,_,_,_,_,_,_,_,_,_,_,_], defers := _ } _
  refine wpAnyH_take (i := 4) (v := .int .i64 (p : Int)) rfl (by kernel_rfl) (by kernel_rfl) (by kernel_rfl) (fun _ _ _ h => h) (Or.inl ⟨by rfl, ?_⟩) H ?_
  · intro w' hSw; go_simp
  change wpAnyH _ _ _ _ _ _ _ { tmps := #[_,_,_,_,_,_,_,_,_,_,_,_,_,_,_,_,_,_,_,_,_,_], defers := _ } _
  refine wpAnyH_take (i := 5) (v := .pointer (some ⟨w.heap.size, 0, none⟩)) rfl (by kernel_rfl) (by kernel_rfl) (by kernel_rfl) (fun _ _ _ h => h) (Or.inl ⟨by rfl, ?_⟩) H ?_
  · intro w' hSw; go_simp
  change wpAnyH _ _ _ _ _ _ _ { tmps := #[_,_,_,_,_,_,_,_,_,_,_,_,_,_,_,_,_,_,_,_,_,_], defers := _ } _
  refine wpAnyH_take (i := 6) (v := .int .i64 (ep : Int)) rfl (by kernel_rfl) (by kernel_rfl) (by kernel_rfl) (fun _ _ _ h => h) (Or.inl ⟨by rfl, ?_⟩) H ?_
  · intro w' hSw; have t0 : World.cell? _ _ = _ := hSw.1; clear hSw; go_simp
  change wpAnyH _ _ _ _ _ _ _ { tmps := #[_,_,_,_,_,_,_,_,_,_,_,_,_,_,_,_,_,_,_,_,_,_], defers := _ } _
  refine wpAnyH_take (i := 10) (v := .pointer (some ⟨w.heap.size, 1, none⟩)) rfl (by kernel_rfl) (by kernel_rfl) (by kernel_rfl) (fun _ _ _ h => h) (Or.inl ⟨by rfl, ?_⟩) H ?_
  · intro w' hSw; go_simp
  change wpAnyH _ _ _ _ _ _ _ { tmps := #[_,_,_,_,_,_,_,_,_,_,_,_,_,_,_,_,_,_,_,_,_,_], defers := _ } _
  refine wpAnyH_take (i := 11) (v := .string s) rfl (by kernel_rfl) (by kernel_rfl) (by kernel_rfl) (fun _ _ _ h => h) (Or.inl ⟨by rfl, ?_⟩) H ?_
  · intro w' hSw; have t0 : World.cell? _ _ = _ := hSw.2; clear hSw; go_simp
  change wpAnyH _ _ _ _ _ _ _ { tmps := #[_,_,_,_,_,_,_,_,_,_,_,_,_,_,_,_,_,_,_,_,_,_], defers := _ } _
  refine wpAnyH_ready (rs := [2, 8, 12]) (by kernel_rfl) (by simp) ?_
  refine (AllReadyH.cons rfl (fun KK hK => ?_) (AllReadyH.cons rfl (fun KK hK => ?_) (AllReadyH.cons rfl (fun KK hK => ?_) AllReadyH.nil)))
  · skip
    go_simp
    have FH : Hid (w.heap.size + 1 ≤ v2.heap.size) := SL.out
    refine (FO.out _).mono ?_
    rintro e v3 ⟨⟨rfl, ho⟩, hb⟩
    replace A1 : Hid (Below w.heap.size w v3) := A1.out.trans (hb.mono A1.out.size)
    replace SZ : Hid (w.heap.size ≤ (v3).heap.size) := Nat.le_trans SZ.out hb.size
    replace SL : Hid (w.heap.size < (v3).heap.size) := Nat.lt_of_lt_of_le SL.out hb.size
    have FR : Hid (RowM v3 v2.heap.size 4 4 U) := rowM_of_own8 ho
    replace H : (CellAt v3 w.heap.size 0 (.int .i64 (ep : Int))) ∧ (CellAt v3 w.heap.size 1 (.string s)) := ⟨(H.1).below hb, (H.2).below hb⟩
    obtain ⟨fb, hfb⟩ : ∃ x, x = v2.heap.size := ⟨_, rfl⟩
    rw [← hfb] at FR FH ⊢
    clear hb ho hfb
    refine hK.out _ _ H (fun _ => ?_)
    clear hK KK
    change wpAnyH _ _ _ _ _ _ _ { tmps := #[_,_,_,_,_,_,_,_,_,_,_,_,_,_,_,_,_,_,_,_,_,_], defers := _ } _
    refine wpAnyH_ready (rs := [7, 8, 12]) (by kernel_rfl) (by simp) ?_
    refine (AllReadyH.cons rfl (fun KK hK => ?_) (AllReadyH.cons rfl (fun KK hK => ?_) (AllReadyH.cons rfl (fun KK hK => ?_) AllReadyH.nil)))
    · skip
      go_simp
      refine (NO.out _).mono ?_
      rintro e v4 ⟨rfl, hb⟩
      replace A1 : Hid (Below w.heap.size w v4) := A1.out.trans (hb.mono A1.out.size)
      replace SZ : Hid (w.heap.size ≤ (v4).heap.size) := Nat.le_trans SZ.out hb.size
      replace SL : Hid (w.heap.size < (v4).heap.size) := Nat.lt_of_lt_of_le SL.out hb.size
      replace FR : Hid (RowM v4 fb 4 4 U) := FR.out.below hb
      replace H : (CellAt v4 w.heap.size 0 (.int .i64 (ep : Int))) ∧ (CellAt v4 w.heap.size 1 (.string s)) := ⟨(H.1).below hb, (H.2).below hb⟩
      clear hb
      refine hK.out _ _ H (fun _ => ?_)
      clear hK KK
      change wpAnyH _ _ _ _ _ _ _ { tmps := #[_,_,_,_,_,_,_,_,_,_,_,_,_,_,_,_,_,_,_,_,_,_], defers := _ } _
      refine wpAnyH_ready (rs := [8, 12]) (by kernel_rfl) (by simp) ?_
      refine (AllReadyH.cons rfl (fun KK hK => ?_) (AllReadyH.cons rfl (fun KK hK => ?_) AllReadyH.nil))
      · skip
        have hb : Below v4.heap.size v4 (v4.alloc (.cells #[.int .u8 115, .int .u8 108, .int .u8 111, .int .u8 116] 5)) := (Below.refl _ _).alloc (Nat.le_refl _) _
        have LX : Hid (LitX (v4.alloc (.cells #[.int .u8 115, .int .u8 108, .int .u8 111, .int .u8 116] 5)) v4.heap.size) := LitX.made _
        have NE : Hid (fb ≠ v4.heap.size) := by have := FR.out.2.2.2; exact fun e => by omega
        have XG : Hid (w.heap.size < v4.heap.size) := SL.out
        go_simp
        replace H : (CellAt (v4.alloc (.cells #[.int .u8 115, .int .u8 108, .int .u8 111, .int .u8 116] 5)) w.heap.size 0 (.int .i64 (ep : Int))) ∧ (CellAt (v4.alloc (.cells #[.int .u8 115, .int .u8 108, .int .u8 111, .int .u8 116] 5)) w.heap.size 1 (.string s)) := ⟨(H.1).below hb, (H.2).below hb⟩
        generalize (v4.alloc (.cells #[.int .u8 115, .int .u8 108, .int .u8 111, .int .u8 116] 5)) = v5 at *
        replace A1 : Hid (Below w.heap.size w v5) := A1.out.trans (hb.mono A1.out.size)
        replace SZ : Hid (w.heap.size ≤ (v5).heap.size) := Nat.le_trans SZ.out hb.size
        replace SL : Hid (w.heap.size < (v5).heap.size) := Nat.lt_of_lt_of_le SL.out hb.size
        replace FR : Hid (RowM v5 fb 4 4 U) := FR.out.below hb
        obtain ⟨xb, hxb⟩ : ∃ x, x = v4.heap.size := ⟨_, rfl⟩
        rw [← hxb] at LX XG NE ⊢
        clear hb hxb
        refine hK.out _ _ H (fun _ => ?_)
        clear hK KK
        change wpAnyH _ _ _ _ _ _ _ { tmps := #[_,_,_,_,_,_,_,_,_,_,_,_,_,_,_,_,_,_,_,_,_,_], defers := _ } _
        refine wpAnyH_ready (rs := [9, 12]) (by kernel_rfl) (by simp) ?_
        refine (AllReadyH.cons rfl (fun KK hK => ?_) (AllReadyH.cons rfl (fun KK hK => ?_) AllReadyH.nil))
        · skip
          obtain ⟨v6, hcv, hx, ho, hce⟩ := conv_lit v5 xb LX.out
          go_simp
          have hsz : v5.heap.size ≤ v6.heap.size := ho.size
          replace A1 : Hid (Below w.heap.size w v6) := A1.out.trans (ho.toBelow (Nat.le_of_lt XG.out) A1.out.size)
          have XL : Hid (xb < v6.heap.size) := Nat.lt_of_lt_of_le LX.out.lt ho.size
          replace SZ : Hid (w.heap.size ≤ (v6).heap.size) := Nat.le_trans SZ.out ho.size
          replace SL : Hid (w.heap.size < (v6).heap.size) := Nat.lt_of_lt_of_le SL.out ho.size
          replace FR : Hid (RowM v6 fb 4 4 U) := FR.out.onlyB ho NE.out
          replace H : (CellAt v6 w.heap.size 0 (.int .i64 (ep : Int))) ∧ (CellAt v6 w.heap.size 1 (.string s)) := ⟨(hce _).trans (H.1), (hce _).trans (H.2)⟩
          have XC : Hid (Code8 v6 (some ⟨xb, 0, none⟩) 4 slotX) := hx
          clear hcv hx ho hce hsz LX
          refine hK.out _ _ H (fun _ => ?_)
          clear hK KK
          change wpAnyH _ _ _ _ _ _ _ { tmps := #[_,_,_,_,_,_,_,_,_,_,_,_,_,_,_,_,_,_,_,_,_,_], defers := _ } _
          refine wpAnyH_ready (rs := [12]) (by kernel_rfl) (by simp) ?_
          refine (AllReadyH.cons rfl (fun KK hK => ?_) AllReadyH.nil)
          obtain ⟨v7, gc, hcv, hx, hb, hgc⟩ := bytesOfM s v6
          go_simp
          replace A1 : Hid (Below w.heap.size w v7) := A1.out.trans (hb.mono A1.out.size)
          replace SZ : Hid (w.heap.size ≤ (v7).heap.size) := Nat.le_trans SZ.out hb.size
          replace SL : Hid (w.heap.size < (v7).heap.size) := Nat.lt_of_lt_of_le SL.out hb.size
          replace FR : Hid (RowM v7 fb 4 4 U) := FR.out.below hb
          replace XC : Hid (Code8 v7 (some ⟨xb, 0, none⟩) 4 slotX) := XC.out.below hb
          replace XL : Hid (xb < (v7).heap.size) := Nat.lt_of_lt_of_le XL.out hb.size
          replace H : (CellAt v7 w.heap.size 0 (.int .i64 (ep : Int))) ∧ (CellAt v7 w.heap.size 1 (.string s)) := ⟨(H.1).below hb, (H.2).below hb⟩
          have CD : Hid (Code8 v7 (some ⟨v6.heap.size, 0, none⟩) s.size (strB s)) := hx
          obtain ⟨cb, hcb⟩ : ∃ x, x = v6.heap.size := ⟨_, rfl⟩
          rw [← hcb] at CD ⊢
          clear hcv hx hb hcb hgc
          refine hK.out _ _ H (fun _ => ?_)
          clear hK KK
          change wpAnyH _ _ _ _ _ _ _ { tmps := #[_,_,_,_,_,_,_,_,_,_,_,_,_,_,_,_,_,_,_,_,_,_], defers := _ } _
          refine wpAnyH_ready (rs := [13]) (by kernel_rfl) (by simp) ?_
          refine (AllReadyH.cons rfl (fun KK hK => ?_) AllReadyH.nil)
          go_simp
          refine (SE.out _ _ _ _ _ XC.out CD.out).mono ?_
          rintro e v8 ⟨⟨sb, sc, -, rfl, ho⟩, hb⟩
          replace A1 : Hid (Below w.heap.size w v8) := A1.out.trans (hb.mono A1.out.size)
          replace SZ : Hid (w.heap.size ≤ (v8).heap.size) := Nat.le_trans SZ.out hb.size
          replace SL : Hid (w.heap.size < (v8).heap.size) := Nat.lt_of_lt_of_le SL.out hb.size
          replace FR : Hid (RowM v8 fb 4 4 U) := FR.out.below hb
          replace XC : Hid (Code8 v8 (some ⟨xb, 0, none⟩) 4 slotX) := XC.out.below hb
          replace XL : Hid (xb < (v8).heap.size) := Nat.lt_of_lt_of_le XL.out hb.size
          replace CD : Hid (Code8 v8 (some ⟨cb, 0, none⟩) s.size (strB s)) := CD.out.below hb
          replace H : (CellAt v8 w.heap.size 0 (.int .i64 (ep : Int))) ∧ (CellAt v8 w.heap.size 1 (.string s)) := ⟨(H.1).below hb, (H.2).below hb⟩
          have SD : Hid (Code8 v8 (some ⟨sb, 0, none⟩) (s.size + 16) F) := ho.code
          clear hb ho
          refine hK.out _ _ H (fun _ => ?_)
          clear hK KK
          change wpAnyH _ _ _ _ _ _ _ { tmps := #[_,_,_,_,_,_,_,_,_,_,_,_,_,_,_,_,_,_,_,_,_,_], defers := _ } _
          refine wpAnyH_ready (rs := [14]) (by kernel_rfl) (by simp) ?_
          refine AllReadyH.cons rfl (fun KK hK => ?_) AllReadyH.nil
          obtain ⟨ag, ac, v9, hr, hm, hb, hag⟩ := appendM v8 (w.heap.size + 1) fb 4 4 U sb 0 (s.size + 16) sc F FH.out SL.out (by have := HS.out; omega) FR.out SD.out 88
          rw [if_pos (by rfl)]
          refine Lib.wp_append_run _ (.tmp 9) (.tmp 20) 88 88 rfl _ _ rfl rfl _ _ hr ?_
          have e20 : 4 + (s.size + 16) = 20 + s.size := by omega
          rw [e20]; rw [e20] at hm hr
          have R9 : Hid (RowM v9 ag (20 + s.size) ac GG) := hm.congr (fun i _ => EF.out i)
          have B9 : Hid (Below w.heap.size w v9) := A1.out.trans (hb.mono (Nat.le_succ _))
          replace H : (CellAt v9 w.heap.size 0 (.int .i64 (ep : Int))) ∧ (CellAt v9 w.heap.size 1 (.string s)) := ⟨(hb.cell (p := ⟨w.heap.size, 0, none⟩) (Nat.lt_succ_self _)).trans (H.1), (hb.cell (p := ⟨w.heap.size, 1, none⟩) (Nat.lt_succ_self _)).trans (H.2)⟩
          have HAG : Hid (w.heap.size ≤ ag) := Nat.le_trans (Nat.le_succ _) hag
          refine hK.out _ _ H (fun _ => ?_)
          clear hK KK hr hm hb hag e20 SZ SL FR XC XL CD SD A1 NE FH XG
          change wpAnyH _ _ _ _ _ _ _ { tmps := #[_,_,_,_,_,_,_,_,_,_,_,_,_,_,_,_,_,_,_,_,_,_], defers := _ } _
          refine wpAnyH_take (i := 15) (v := .slice (some ⟨ag, 0, none⟩) (20 + s.size) ac) rfl (by kernel_rfl) (by kernel_rfl) (by kernel_rfl) (fun _ _ _ h => h) (Or.inl ⟨by rfl, ?_⟩) H ?_
          · intro w' hSw; go_simp
          change wpAnyH _ _ _ _ _ _ _ { tmps := #[_,_,_,_,_,_,_,_,_,_,_,_,_,_,_,_,_,_,_,_,_,_], defers := _ } _
          refine wpAnyH_done (by kernel_rfl) ?_ _
          refine NoPanic.normal ?_
          clear H FO NO SE EF HS
          go_wp2
          go_ret
          exact ⟨⟨ag, ac, rfl, HAG.out, R9.out⟩, B9.out⟩
        · skip
          obtain ⟨v10, gc, hcv, hx, hb, hgc⟩ := bytesOfM s v5
          go_simp
          replace A1 : Hid (Below w.heap.size w v10) := A1.out.trans (hb.mono A1.out.size)
          replace SZ : Hid (w.heap.size ≤ (v10).heap.size) := Nat.le_trans SZ.out hb.size
          replace SL : Hid (w.heap.size < (v10).heap.size) := Nat.lt_of_lt_of_le SL.out hb.size
          replace FR : Hid (RowM v10 fb 4 4 U) := FR.out.below hb
          replace LX : Hid (LitX v10 xb) := LX.out.below hb
          replace H : (CellAt v10 w.heap.size 0 (.int .i64 (ep : Int))) ∧ (CellAt v10 w.heap.size 1 (.string s)) := ⟨(H.1).below hb, (H.2).below hb⟩
          have CD : Hid (Code8 v10 (some ⟨v5.heap.size, 0, none⟩) s.size (strB s)) := hx
          obtain ⟨cb, hcb⟩ : ∃ x, x = v5.heap.size := ⟨_, rfl⟩
          rw [← hcb] at CD ⊢
          clear hcv hx hb hcb hgc
          refine hK.out _ _ H (fun _ => ?_)
          clear hK KK
          change wpAnyH _ _ _ _ _ _ _ { tmps := #[_,_,_,_,_,_,_,_,_,_,_,_,_,_,_,_,_,_,_,_,_,_], defers := _ } _
          refine wpAnyH_ready (rs := [9]) (by kernel_rfl) (by simp) ?_
          refine (AllReadyH.cons rfl (fun KK hK => ?_) AllReadyH.nil)
          obtain ⟨v11, hcv, hx, ho, hce⟩ := conv_lit v10 xb LX.out
          go_simp
          have hsz : v10.heap.size ≤ v11.heap.size := ho.size
          replace A1 : Hid (Below w.heap.size w v11) := A1.out.trans (ho.toBelow (Nat.le_of_lt XG.out) A1.out.size)
          have XL : Hid (xb < v11.heap.size) := Nat.lt_of_lt_of_le LX.out.lt ho.size
          replace SZ : Hid (w.heap.size ≤ (v11).heap.size) := Nat.le_trans SZ.out ho.size
          replace SL : Hid (w.heap.size < (v11).heap.size) := Nat.lt_of_lt_of_le SL.out ho.size
          replace FR : Hid (RowM v11 fb 4 4 U) := FR.out.onlyB ho NE.out
          replace CD : Hid (Code8 v11 (some ⟨cb, 0, none⟩) s.size (strB s)) := code8_cells CD.out hce
          replace H : (CellAt v11 w.heap.size 0 (.int .i64 (ep : Int))) ∧ (CellAt v11 w.heap.size 1 (.string s)) := ⟨(hce _).trans (H.1), (hce _).trans (H.2)⟩
          have XC : Hid (Code8 v11 (some ⟨xb, 0, none⟩) 4 slotX) := hx
          clear hcv hx ho hce hsz LX
          refine hK.out _ _ H (fun _ => ?_)
          clear hK KK
          change wpAnyH _ _ _ _ _ _ _ { tmps := #[_,_,_,_,_,_,_,_,_,_,_,_,_,_,_,_,_,_,_,_,_,_], defers := _ } _
          refine wpAnyH_ready (rs := [13]) (by kernel_rfl) (by simp) ?_
          refine (AllReadyH.cons rfl (fun KK hK => ?_) AllReadyH.nil)
          go_simp
          refine (SE.out _ _ _ _ _ XC.out CD.out).mono ?_
          rintro e v12 ⟨⟨sb, sc, -, rfl, ho⟩, hb⟩
          replace A1 : Hid (Below w.heap.size w v12) := A1.out.trans (hb.mono A1.out.size)
          replace SZ : Hid (w.heap.size ≤ (v12).heap.size) := Nat.le_trans SZ.out hb.size
          replace SL : Hid (w.heap.size < (v12).heap.size) := Nat.lt_of_lt_of_le SL.out hb.size
          replace FR : Hid (RowM v12 fb 4 4 U) := FR.out.below hb
          replace CD : Hid (Code8 v12 (some ⟨cb, 0, none⟩) s.size (strB s)) := CD.out.below hb
          replace XC : Hid (Code8 v12 (some ⟨xb, 0, none⟩) 4 slotX) := XC.out.below hb
          replace XL : Hid (xb < (v12).heap.size) := Nat.lt_of_lt_of_le XL.out hb.size
          replace H : (CellAt v12 w.heap.size 0 (.int .i64 (ep : Int))) ∧ (CellAt v12 w.heap.size 1 (.string s)) := ⟨(H.1).below hb, (H.2).below hb⟩
          have SD : Hid (Code8 v12 (some ⟨sb, 0, none⟩) (s.size + 16) F) := ho.code
          clear hb ho
          refine hK.out _ _ H (fun _ => ?_)
          clear hK KK
          change wpAnyH _ _ _ _ _ _ _ { tmps := #[_,_,_,_,_,_,_,_,_,_,_,_,_,_,_,_,_,_,_,_,_,_], defers := _ } _
          refine wpAnyH_ready (rs := [14]) (by kernel_rfl) (by simp) ?_
          refine AllReadyH.cons rfl (fun KK hK => ?_) AllReadyH.nil
          obtain ⟨ag, ac, v13, hr, hm, hb, hag⟩ := appendM v12 (w.heap.size + 1) fb 4 4 U sb 0 (s.size + 16) sc F FH.out SL.out (by have := HS.out; omega) FR.out SD.out 88
          rw [if_pos (by rfl)]
          refine Lib.wp_append_run _ (.tmp 9) (.tmp 20) 88 88 rfl _ _ rfl rfl _ _ hr ?_
          have e20 : 4 + (s.size + 16) = 20 + s.size := by omega
          rw [e20]; rw [e20] at hm hr
          have R9 : Hid (RowM v13 ag (20 + s.size) ac GG) := hm.congr (fun i _ => EF.out i)
          have B9 : Hid (Below w.heap.size w v13) := A1.out.trans (hb.mono (Nat.le_succ _))
          replace H : (CellAt v13 w.heap.size 0 (.int .i64 (ep : Int))) ∧ (CellAt v13 w.heap.size 1 (.string s)) := ⟨(hb.cell (p := ⟨w.heap.size, 0, none⟩) (Nat.lt_succ_self _)).trans (H.1), (hb.cell (p := ⟨w.heap.size, 1, none⟩) (Nat.lt_succ_self _)).trans (H.2)⟩
          have HAG : Hid (w.heap.size ≤ ag) := Nat.le_trans (Nat.le_succ _) hag
          refine hK.out _ _ H (fun _ => ?_)
          clear hK KK hr hm hb hag e20 SZ SL FR CD XC XL SD A1 NE FH XG
          change wpAnyH _ _ _ _ _ _ _ { tmps := #[_,_,_,_,_,_,_,_,_,_,_,_,_,_,_,_,_,_,_,_,_,_], defers := _ } _
          refine wpAnyH_take (i := 15) (v := .slice (some ⟨ag, 0, none⟩) (20 + s.size) ac) rfl (by kernel_rfl) (by kernel_rfl) (by kernel_rfl) (fun _ _ _ h => h) (Or.inl ⟨by rfl, ?_⟩) H ?_
          · intro w' hSw; go_simp
          change wpAnyH _ _ _ _ _ _ _ { tmps := #[_,_,_,_,_,_,_,_,_,_,_,_,_,_,_,_,_,_,_,_,_,_], defers := _ } _
          refine wpAnyH_done (by kernel_rfl) ?_ _
          refine NoPanic.normal ?_
          clear H FO NO SE EF HS
          go_wp2
          go_ret
          exact ⟨⟨ag, ac, rfl, HAG.out, R9.out⟩, B9.out⟩
      · skip
        obtain ⟨v14, gc, hcv, hx, hb, hgc⟩ := bytesOfM s v4
        go_simp
        replace A1 : Hid (Below w.heap.size w v14) := A1.out.trans (hb.mono A1.out.size)
        replace SZ : Hid (w.heap.size ≤ (v14).heap.size) := Nat.le_trans SZ.out hb.size
        replace SL : Hid (w.heap.size < (v14).heap.size) := Nat.lt_of_lt_of_le SL.out hb.size
        replace FR : Hid (RowM v14 fb 4 4 U) := FR.out.below hb
        replace H : (CellAt v14 w.heap.size 0 (.int .i64 (ep : Int))) ∧ (CellAt v14 w.heap.size 1 (.string s)) := ⟨(H.1).below hb, (H.2).below hb⟩
        have CD : Hid (Code8 v14 (some ⟨v4.heap.size, 0, none⟩) s.size (strB s)) := hx
        obtain ⟨cb, hcb⟩ : ∃ x, x = v4.heap.size := ⟨_, rfl⟩
        rw [← hcb] at CD ⊢
        clear hcv hx hb hcb hgc
        refine hK.out _ _ H (fun _ => ?_)
        clear hK KK
        change wpAnyH _ _ _ _ _ _ _ { tmps := #[_,_,_,_,_,_,_,_,_,_,_,_,_,_,_,_,_,_,_,_,_,_], defers := _ } _
        refine wpAnyH_ready (rs := [8]) (by kernel_rfl) (by simp) ?_
        refine (AllReadyH.cons rfl (fun KK hK => ?_) AllReadyH.nil)
        have hb : Below v14.heap.size v14 (v14.alloc (.cells #[.int .u8 115, .int .u8 108, .int .u8 111, .int .u8 116] 5)) := (Below.refl _ _).alloc (Nat.le_refl _) _
        have LX : Hid (LitX (v14.alloc (.cells #[.int .u8 115, .int .u8 108, .int .u8 111, .int .u8 116] 5)) v14.heap.size) := LitX.made _
        have NE : Hid (fb ≠ v14.heap.size) := by have := FR.out.2.2.2; exact fun e => by omega
        have XG : Hid (w.heap.size < v14.heap.size) := SL.out
        go_simp
        replace H : (CellAt (v14.alloc (.cells #[.int .u8 115, .int .u8 108, .int .u8 111, .int .u8 116] 5)) w.heap.size 0 (.int .i64 (ep : Int))) ∧ (CellAt (v14.alloc (.cells #[.int .u8 115, .int .u8 108, .int .u8 111, .int .u8 116] 5)) w.heap.size 1 (.string s)) := ⟨(H.1).below hb, (H.2).below hb⟩
        generalize (v14.alloc (.cells #[.int .u8 115, .int .u8 108, .int .u8 111, .int .u8 116] 5)) = v15 at *
        replace A1 : Hid (Below w.heap.size w v15) := A1.out.trans (hb.mono A1.out.size)
        replace SZ : Hid (w.heap.size ≤ (v15).heap.size) := Nat.le_trans SZ.out hb.size
        replace SL : Hid (w.heap.size < (v15).heap.size) := Nat.lt_of_lt_of_le SL.out hb.size
        replace FR : Hid (RowM v15 fb 4 4 U) := FR.out.below hb
        replace CD : Hid (Code8 v15 (some ⟨cb, 0, none⟩) s.size (strB s)) := CD.out.below hb
        obtain ⟨xb, hxb⟩ : ∃ x, x = v14.heap.size := ⟨_, rfl⟩
        rw [← hxb] at LX XG NE ⊢
        clear hb hxb
        refine hK.out _ _ H (fun _ => ?_)
        clear hK KK
        change wpAnyH _ _ _ _ _ _ _ { tmps := #[_,_,_,_,_,_,_,_,_,_,_,_,_,_,_,_,_,_,_,_,_,_], defers := _ } _
        refine wpAnyH_ready (rs := [9]) (by kernel_rfl) (by simp) ?_
        refine (AllReadyH.cons rfl (fun KK hK => ?_) AllReadyH.nil)
        obtain ⟨v16, hcv, hx, ho, hce⟩ := conv_lit v15 xb LX.out
        go_simp
        have hsz : v15.heap.size ≤ v16.heap.size := ho.size
        replace A1 : Hid (Below w.heap.size w v16) := A1.out.trans (ho.toBelow (Nat.le_of_lt XG.out) A1.out.size)
        have XL : Hid (xb < v16.heap.size) := Nat.lt_of_lt_of_le LX.out.lt ho.size
        replace SZ : Hid (w.heap.size ≤ (v16).heap.size) := Nat.le_trans SZ.out ho.size
        replace SL : Hid (w.heap.size < (v16).heap.size) := Nat.lt_of_lt_of_le SL.out ho.size
        replace FR : Hid (RowM v16 fb 4 4 U) := FR.out.onlyB ho NE.out
        replace CD : Hid (Code8 v16 (some ⟨cb, 0, none⟩) s.size (strB s)) := code8_cells CD.out hce
        replace H : (CellAt v16 w.heap.size 0 (.int .i64 (ep : Int))) ∧ (CellAt v16 w.heap.size 1 (.string s)) := ⟨(hce _).trans (H.1), (hce _).trans (H.2)⟩
        have XC : Hid (Code8 v16 (some ⟨xb, 0, none⟩) 4 slotX) := hx
        clear hcv hx ho hce hsz LX
        refine hK.out _ _ H (fun _ => ?_)
        clear hK KK
        change wpAnyH _ _ _ _ _ _ _ { tmps := #[_,_,_,_,_,_,_,_,_,_,_,_,_,_,_,_,_,_,_,_,_,_], defers := _ } _
        refine wpAnyH_ready (rs := [13]) (by kernel_rfl) (by simp) ?_
        refine (AllReadyH.cons rfl (fun KK hK => ?_) AllReadyH.nil)
        go_simp
        refine (SE.out _ _ _ _ _ XC.out CD.out).mono ?_
        rintro e v17 ⟨⟨sb, sc, -, rfl, ho⟩, hb⟩
        replace A1 : Hid (Below w.heap.size w v17) := A1.out.trans (hb.mono A1.out.size)
        replace SZ : Hid (w.heap.size ≤ (v17).heap.size) := Nat.le_trans SZ.out hb.size
        replace SL : Hid (w.heap.size < (v17).heap.size) := Nat.lt_of_lt_of_le SL.out hb.size
        replace FR : Hid (RowM v17 fb 4 4 U) := FR.out.below hb
        replace CD : Hid (Code8 v17 (some ⟨cb, 0, none⟩) s.size (strB s)) := CD.out.below hb
        replace XC : Hid (Code8 v17 (some ⟨xb, 0, none⟩) 4 slotX) := XC.out.below hb
        replace XL : Hid (xb < (v17).heap.size) := Nat.lt_of_lt_of_le XL.out hb.size
        replace H : (CellAt v17 w.heap.size 0 (.int .i64 (ep : Int))) ∧ (CellAt v17 w.heap.size 1 (.string s)) := ⟨(H.1).below hb, (H.2).below hb⟩
        have SD : Hid (Code8 v17 (some ⟨sb, 0, none⟩) (s.size + 16) F) := ho.code
        clear hb ho
        refine hK.out _ _ H (fun _ => ?_)
        clear hK KK
        change wpAnyH _ _ _ _ _ _ _ { tmps := #[_,_,_,_,_,_,_,_,_,_,_,_,_,_,_,_,_,_,_,_,_,_], defers := _ } _
        refine wpAnyH_ready (rs := [14]) (by kernel_rfl) (by simp) ?_
        refine AllReadyH.cons rfl (fun KK hK => ?_) AllReadyH.nil
        obtain ⟨ag, ac, v18, hr, hm, hb, hag⟩ := appendM v17 (w.heap.size + 1) fb 4 4 U sb 0 (s.size + 16) sc F FH.out SL.out (by have := HS.out; omega) FR.out SD.out 88
        rw [if_pos (by rfl)]
        refine Lib.wp_append_run _ (.tmp 9) (.tmp 20) 88 88 rfl _ _ rfl rfl _ _ hr ?_
        have e20 : 4 + (s.size + 16) = 20 + s.size := by omega
        rw [e20]; rw [e20] at hm hr
        have R9 : Hid (RowM v18 ag (20 + s.size) ac GG) := hm.congr (fun i _ => EF.out i)
        have B9 : Hid (Below w.heap.size w v18) := A1.out.trans (hb.mono (Nat.le_succ _))
        replace H : (CellAt v18 w.heap.size 0 (.int .i64 (ep : Int))) ∧ (CellAt v18 w.heap.size 1 (.string s)) := ⟨(hb.cell (p := ⟨w.heap.size, 0, none⟩) (Nat.lt_succ_self _)).trans (H.1), (hb.cell (p := ⟨w.heap.size, 1, none⟩) (Nat.lt_succ_self _)).trans (H.2)⟩
        have HAG : Hid (w.heap.size ≤ ag) := Nat.le_trans (Nat.le_succ _) hag
        refine hK.out _ _ H (fun _ => ?_)
        clear hK KK hr hm hb hag e20 SZ SL FR CD XC XL SD A1 NE FH XG
        change wpAnyH _ _ _ _ _ _ _ { tmps := #[_,_,_,_,_,_,_,_,_,_,_,_,_,_,_,_,_,_,_,_,_,_], defers := _ } _
        refine wpAnyH_take (i := 15) (v := .slice (some ⟨ag, 0, none⟩) (20 + s.size) ac) rfl (by kernel_rfl) (by kernel_rfl) (by kernel_rfl) (fun _ _ _ h => h) (Or.inl ⟨by rfl, ?_⟩) H ?_
        · intro w' hSw; go_simp
        change wpAnyH _ _ _ _ _ _ _ { tmps := #[_,_,_,_,_,_,_,_,_,_,_,_,_,_,_,_,_,_,_,_,_,_], defers := _ } _
        refine wpAnyH_done (by kernel_rfl) ?_ _
        refine NoPanic.normal ?_
        clear H FO NO SE EF HS
        go_wp2
        go_ret
        exact ⟨⟨ag, ac, rfl, HAG.out, R9.out⟩, B9.out⟩
    · skip
      have hb : Below v3.heap.size v3 (v3.alloc (.cells #[.int .u8 115, .int .u8 108, .int .u8 111, .int .u8 116] 5)) := (Below.refl _ _).alloc (Nat.le_refl _) _
      have LX : Hid (LitX (v3.alloc (.cells #[.int .u8 115, .int .u8 108, .int .u8 111, .int .u8 116] 5)) v3.heap.size) := LitX.made _
      have NE : Hid (fb ≠ v3.heap.size) := by have := FR.out.2.2.2; exact fun e => by omega
      have XG : Hid (w.heap.size < v3.heap.size) := SL.out
      go_simp
      replace H : (CellAt (v3.alloc (.cells #[.int .u8 115, .int .u8 108, .int .u8 111, .int .u8 116] 5)) w.heap.size 0 (.int .i64 (ep : Int))) ∧ (CellAt (v3.alloc (.cells #[.int .u8 115, .int .u8 108, .int .u8 111, .int .u8 116] 5)) w.heap.size 1 (.string s)) := ⟨(H.1).below hb, (H.2).below hb⟩
      generalize (v3.alloc (.cells #[.int .u8 115, .int .u8 108, .int .u8 111, .int .u8 116] 5)) = v19 at *
      replace A1 : Hid (Below w.heap.size w v19) := A1.out.trans (hb.mono A1.out.size)
      replace SZ : Hid (w.heap.size ≤ (v19).heap.size) := Nat.le_trans SZ.out hb.size
      replace SL : Hid (w.heap.size < (v19).heap.size) := Nat.lt_of_lt_of_le SL.out hb.size
      replace FR : Hid (RowM v19 fb 4 4 U) := FR.out.below hb
      obtain ⟨xb, hxb⟩ : ∃ x, x = v3.heap.size := ⟨_, rfl⟩
      rw [← hxb] at LX XG NE ⊢
      clear hb hxb
      refine hK.out _ _ H (fun _ => ?_)
      clear hK KK
      change wpAnyH _ _ _ _ _ _ _ { tmps := #[_,_,_,_,_,_,_,_,_,_,_,_,_,_,_,_,_,_,_,_,_,_], defers := _ } _
      refine wpAnyH_ready (rs := [7, 9, 12]) (by kernel_rfl) (by simp) ?_
      refine (AllReadyH.cons rfl (fun KK hK => ?_) (AllReadyH.cons rfl (fun KK hK => ?_) (AllReadyH.cons rfl (fun KK hK => ?_) AllReadyH.nil)))
      · skip
        go_simp
        refine (NO.out _).mono ?_
        rintro e v20 ⟨rfl, hb⟩
        replace A1 : Hid (Below w.heap.size w v20) := A1.out.trans (hb.mono A1.out.size)
        replace SZ : Hid (w.heap.size ≤ (v20).heap.size) := Nat.le_trans SZ.out hb.size
        replace SL : Hid (w.heap.size < (v20).heap.size) := Nat.lt_of_lt_of_le SL.out hb.size
        replace FR : Hid (RowM v20 fb 4 4 U) := FR.out.below hb
        replace LX : Hid (LitX v20 xb) := LX.out.below hb
        replace H : (CellAt v20 w.heap.size 0 (.int .i64 (ep : Int))) ∧ (CellAt v20 w.heap.size 1 (.string s)) := ⟨(H.1).below hb, (H.2).below hb⟩
        clear hb
        refine hK.out _ _ H (fun _ => ?_)
        clear hK KK
        change wpAnyH _ _ _ _ _ _ _ { tmps := #[_,_,_,_,_,_,_,_,_,_,_,_,_,_,_,_,_,_,_,_,_,_], defers := _ } _
        refine wpAnyH_ready (rs := [9, 12]) (by kernel_rfl) (by simp) ?_
        refine (AllReadyH.cons rfl (fun KK hK => ?_) (AllReadyH.cons rfl (fun KK hK => ?_) AllReadyH.nil))
        · skip
          obtain ⟨v21, hcv, hx, ho, hce⟩ := conv_lit v20 xb LX.out
          go_simp
          have hsz : v20.heap.size ≤ v21.heap.size := ho.size
          replace A1 : Hid (Below w.heap.size w v21) := A1.out.trans (ho.toBelow (Nat.le_of_lt XG.out) A1.out.size)
          have XL : Hid (xb < v21.heap.size) := Nat.lt_of_lt_of_le LX.out.lt ho.size
          replace SZ : Hid (w.heap.size ≤ (v21).heap.size) := Nat.le_trans SZ.out ho.size
          replace SL : Hid (w.heap.size < (v21).heap.size) := Nat.lt_of_lt_of_le SL.out ho.size
          replace FR : Hid (RowM v21 fb 4 4 U) := FR.out.onlyB ho NE.out
          replace H : (CellAt v21 w.heap.size 0 (.int .i64 (ep : Int))) ∧ (CellAt v21 w.heap.size 1 (.string s)) := ⟨(hce _).trans (H.1), (hce _).trans (H.2)⟩
          have XC : Hid (Code8 v21 (some ⟨xb, 0, none⟩) 4 slotX) := hx
          clear hcv hx ho hce hsz LX
          refine hK.out _ _ H (fun _ => ?_)
          clear hK KK
          change wpAnyH _ _ _ _ _ _ _ { tmps := #[_,_,_,_,_,_,_,_,_,_,_,_,_,_,_,_,_,_,_,_,_,_], defers := _ } _
          refine wpAnyH_ready (rs := [12]) (by kernel_rfl) (by simp) ?_
          refine (AllReadyH.cons rfl (fun KK hK => ?_) AllReadyH.nil)
          obtain ⟨v22, gc, hcv, hx, hb, hgc⟩ := bytesOfM s v21
          go_simp
          replace A1 : Hid (Below w.heap.size w v22) := A1.out.trans (hb.mono A1.out.size)
          replace SZ : Hid (w.heap.size ≤ (v22).heap.size) := Nat.le_trans SZ.out hb.size
          replace SL : Hid (w.heap.size < (v22).heap.size) := Nat.lt_of_lt_of_le SL.out hb.size
          replace FR : Hid (RowM v22 fb 4 4 U) := FR.out.below hb
          replace XC : Hid (Code8 v22 (some ⟨xb, 0, none⟩) 4 slotX) := XC.out.below hb
          replace XL : Hid (xb < (v22).heap.size) := Nat.lt_of_lt_of_le XL.out hb.size
          replace H : (CellAt v22 w.heap.size 0 (.int .i64 (ep : Int))) ∧ (CellAt v22 w.heap.size 1 (.string s)) := ⟨(H.1).below hb, (H.2).below hb⟩
          have CD : Hid (Code8 v22 (some ⟨v21.heap.size, 0, none⟩) s.size (strB s)) := hx
          obtain ⟨cb, hcb⟩ : ∃ x, x = v21.heap.size := ⟨_, rfl⟩
          rw [← hcb] at CD ⊢
          clear hcv hx hb hcb hgc
          refine hK.out _ _ H (fun _ => ?_)
          clear hK KK
          change wpAnyH _ _ _ _ _ _ _ { tmps := #[_,_,_,_,_,_,_,_,_,_,_,_,_,_,_,_,_,_,_,_,_,_], defers := _ } _
          refine wpAnyH_ready (rs := [13]) (by kernel_rfl) (by simp) ?_
          refine (AllReadyH.cons rfl (fun KK hK => ?_) AllReadyH.nil)
          go_simp
          refine (SE.out _ _ _ _ _ XC.out CD.out).mono ?_
          rintro e v23 ⟨⟨sb, sc, -, rfl, ho⟩, hb⟩
          replace A1 : Hid (Below w.heap.size w v23) := A1.out.trans (hb.mono A1.out.size)
          replace SZ : Hid (w.heap.size ≤ (v23).heap.size) := Nat.le_trans SZ.out hb.size
          replace SL : Hid (w.heap.size < (v23).heap.size) := Nat.lt_of_lt_of_le SL.out hb.size
          replace FR : Hid (RowM v23 fb 4 4 U) := FR.out.below hb
          replace XC : Hid (Code8 v23 (some ⟨xb, 0, none⟩) 4 slotX) := XC.out.below hb
          replace XL : Hid (xb < (v23).heap.size) := Nat.lt_of_lt_of_le XL.out hb.size
          replace CD : Hid (Code8 v23 (some ⟨cb, 0, none⟩) s.size (strB s)) := CD.out.below hb
          replace H : (CellAt v23 w.heap.size 0 (.int .i64 (ep : Int))) ∧ (CellAt v23 w.heap.size 1 (.string s)) := ⟨(H.1).below hb, (H.2).below hb⟩
          have SD : Hid (Code8 v23 (some ⟨sb, 0, none⟩) (s.size + 16) F) := ho.code
          clear hb ho
          refine hK.out _ _ H (fun _ => ?_)
          clear hK KK
          change wpAnyH _ _ _ _ _ _ _ { tmps := #[_,_,_,_,_,_,_,_,_,_,_,_,_,_,_,_,_,_,_,_,_,_], defers := _ } _
          refine wpAnyH_ready (rs := [14]) (by kernel_rfl) (by simp) ?_
          refine AllReadyH.cons rfl (fun KK hK => ?_) AllReadyH.nil
          obtain ⟨ag, ac, v24, hr, hm, hb, hag⟩ := appendM v23 (w.heap.size + 1) fb 4 4 U sb 0 (s.size + 16) sc F FH.out SL.out (by have := HS.out; omega) FR.out SD.out 88
          rw [if_pos (by rfl)]
          refine Lib.wp_append_run _ (.tmp 9) (.tmp 20) 88 88 rfl _ _ rfl rfl _ _ hr ?_
          have e20 : 4 + (s.size + 16) = 20 + s.size := by omega
          rw [e20]; rw [e20] at hm hr
          have R9 : Hid (RowM v24 ag (20 + s.size) ac GG) := hm.congr (fun i _ => EF.out i)
          have B9 : Hid (Below w.heap.size w v24) := A1.out.trans (hb.mono (Nat.le_succ _))
          replace H : (CellAt v24 w.heap.size 0 (.int .i64 (ep : Int))) ∧ (CellAt v24 w.heap.size 1 (.string s)) := ⟨(hb.cell (p := ⟨w.heap.size, 0, none⟩) (Nat.lt_succ_self _)).trans (H.1), (hb.cell (p := ⟨w.heap.size, 1, none⟩) (Nat.lt_succ_self _)).trans (H.2)⟩
          have HAG : Hid (w.heap.size ≤ ag) := Nat.le_trans (Nat.le_succ _) hag
          refine hK.out _ _ H (fun _ => ?_)
          clear hK KK hr hm hb hag e20 SZ SL FR XC XL CD SD A1 NE FH XG
          change wpAnyH _ _ _ _ _ _ _ { tmps := #[_,_,_,_,_,_,_,_,_,_,_,_,_,_,_,_,_,_,_,_,_,_], defers := _ } _
          refine wpAnyH_take (i := 15) (v := .slice (some ⟨ag, 0, none⟩) (20 + s.size) ac) rfl (by kernel_rfl) (by kernel_rfl) (by kernel_rfl) (fun _ _ _ h => h) (Or.inl ⟨by rfl, ?_⟩) H ?_
          · intro w' hSw; go_simp
          change wpAnyH _ _ _ _ _ _ _ { tmps := #[_,_,_,_,_,_,_,_,_,_,_,_,_,_,_,_,_,_,_,_,_,_], defers := _ } _
          refine wpAnyH_done (by kernel_rfl) ?_ _
          refine NoPanic.normal ?_
          clear H FO NO SE EF HS
          go_wp2
          go_ret
          exact ⟨⟨ag, ac, rfl, HAG.out, R9.out⟩, B9.out⟩
        · skip
          obtain ⟨v25, gc, hcv, hx, hb, hgc⟩ := bytesOfM s v20
          go_simp
          replace A1 : Hid (Below w.heap.size w v25) := A1.out.trans (hb.mono A1.out.size)
          replace SZ : Hid (w.heap.size ≤ (v25).heap.size) := Nat.le_trans SZ.out hb.size
          replace SL : Hid (w.heap.size < (v25).heap.size) := Nat.lt_of_lt_of_le SL.out hb.size
          replace FR : Hid (RowM v25 fb 4 4 U) := FR.out.below hb
          replace LX : Hid (LitX v25 xb) := LX.out.below hb
          replace H : (CellAt v25 w.heap.size 0 (.int .i64 (ep : Int))) ∧ (CellAt v25 w.heap.size 1 (.string s)) := ⟨(H.1).below hb, (H.2).below hb⟩
          have CD : Hid (Code8 v25 (some ⟨v20.heap.size, 0, none⟩) s.size (strB s)) := hx
          obtain ⟨cb, hcb⟩ : ∃ x, x = v20.heap.size := ⟨_, rfl⟩
          rw [← hcb] at CD ⊢
          clear hcv hx hb hcb hgc
          refine hK.out _ _ H (fun _ => ?_)
          clear hK KK
          change wpAnyH _ _ _ _ _ _ _ { tmps := #[_,_,_,_,_,_,_,_,_,_,_,_,_,_,_,_,_,_,_,_,_,_], defers := _ } _
          refine wpAnyH_ready (rs := [9]) (by kernel_rfl) (by simp) ?_
          refine (AllReadyH.cons rfl (fun KK hK => ?_) AllReadyH.nil)
          obtain ⟨v26, hcv, hx, ho, hce⟩ := conv_lit v25 xb LX.out
          go_simp
          have hsz : v25.heap.size ≤ v26.heap.size := ho.size
          replace A1 : Hid (Below w.heap.size w v26) := A1.out.trans (ho.toBelow (Nat.le_of_lt XG.out) A1.out.size)
          have XL : Hid (xb < v26.heap.size) := Nat.lt_of_lt_of_le LX.out.lt ho.size
          replace SZ : Hid (w.heap.size ≤ (v26).heap.size) := Nat.le_trans SZ.out ho.size
          replace SL : Hid (w.heap.size < (v26).heap.size) := Nat.lt_of_lt_of_le SL.out ho.size
          replace FR : Hid (RowM v26 fb 4 4 U) := FR.out.onlyB ho NE.out
          replace CD : Hid (Code8 v26 (some ⟨cb, 0, none⟩) s.size (strB s)) := code8_cells CD.out hce
          replace H : (CellAt v26 w.heap.size 0 (.int .i64 (ep : Int))) ∧ (CellAt v26 w.heap.size 1 (.string s)) := ⟨(hce _).trans (H.1), (hce _).trans (H.2)⟩
          have XC : Hid (Code8 v26 (some ⟨xb, 0, none⟩) 4 slotX) := hx
          clear hcv hx ho hce hsz LX
          refine hK.out _ _ H (fun _ => ?_)
          clear hK KK
          change wpAnyH _ _ _ _ _ _ _ { tmps := #[_,_,_,_,_,_,_,_,_,_,_,_,_,_,_,_,_,_,_,_,_,_], defers := _ } _
          refine wpAnyH_ready (rs := [13]) (by kernel_rfl) (by simp) ?_
          refine (AllReadyH.cons rfl (fun KK hK => ?_) AllReadyH.nil)
          go_simp
          refine (SE.out _ _ _ _ _ XC.out CD.out).mono ?_
          rintro e v27 ⟨⟨sb, sc, -, rfl, ho⟩, hb⟩
          replace A1 : Hid (Below w.heap.size w v27) := A1.out.trans (hb.mono A1.out.size)
          replace SZ : Hid (w.heap.size ≤ (v27).heap.size) := Nat.le_trans SZ.out hb.size
          replace SL : Hid (w.heap.size < (v27).heap.size) := Nat.lt_of_lt_of_le SL.out hb.size
          replace FR : Hid (RowM v27 fb 4 4 U) := FR.out.below hb
          replace CD : Hid (Code8 v27 (some ⟨cb, 0, none⟩) s.size (strB s)) := CD.out.below hb
          replace XC : Hid (Code8 v27 (some ⟨xb, 0, none⟩) 4 slotX) := XC.out.below hb
          replace XL : Hid (xb < (v27).heap.size) := Nat.lt_of_lt_of_le XL.out hb.size
          replace H : (CellAt v27 w.heap.size 0 (.int .i64 (ep : Int))) ∧ (CellAt v27 w.heap.size 1 (.string s)) := ⟨(H.1).below hb, (H.2).below hb⟩
          have SD : Hid (Code8 v27 (some ⟨sb, 0, none⟩) (s.size + 16) F) := ho.code
          clear hb ho
          refine hK.out _ _ H (fun _ => ?_)
          clear hK KK
          change wpAnyH _ _ _ _ _ _ _ { tmps := #[_,_,_,_,_,_,_,_,_,_,_,_,_,_,_,_,_,_,_,_,_,_], defers := _ } _
          refine wpAnyH_ready (rs := [14]) (by kernel_rfl) (by simp) ?_
          refine AllReadyH.cons rfl (fun KK hK => ?_) AllReadyH.nil
          obtain ⟨ag, ac, v28, hr, hm, hb, hag⟩ := appendM v27 (w.heap.size + 1) fb 4 4 U sb 0 (s.size + 16) sc F FH.out SL.out (by have := HS.out; omega) FR.out SD.out 88
          rw [if_pos (by rfl)]
          refine Lib.wp_append_run _ (.tmp 9) (.tmp 20) 88 88 rfl _ _ rfl rfl _ _ hr ?_
          have e20 : 4 + (s.size + 16) = 20 + s.size := by omega
          rw [e20]; rw [e20] at hm hr
          have R9 : Hid (RowM v28 ag (20 + s.size) ac GG) := hm.congr (fun i _ => EF.out i)
          have B9 : Hid (Below w.heap.size w v28) := A1.out.trans (hb.mono (Nat.le_succ _))
          replace H : (CellAt v28 w.heap.size 0 (.int .i64 (ep : Int))) ∧ (CellAt v28 w.heap.size 1 (.string s)) := ⟨(hb.cell (p := ⟨w.heap.size, 0, none⟩) (Nat.lt_succ_self _)).trans (H.1), (hb.cell (p := ⟨w.heap.size, 1, none⟩) (Nat.lt_succ_self _)).trans (H.2)⟩
          have HAG : Hid (w.heap.size ≤ ag) := Nat.le_trans (Nat.le_succ _) hag
          refine hK.out _ _ H (fun _ => ?_)
          clear hK KK hr hm hb hag e20 SZ SL FR CD XC XL SD A1 NE FH XG
          change wpAnyH _ _ _ _ _ _ _ { tmps := #[_,_,_,_,_,_,_,_,_,_,_,_,_,_,_,_,_,_,_,_,_,_], defers := _ } _
          refine wpAnyH_take (i := 15) (v := .slice (some ⟨ag, 0, none⟩) (20 + s.size) ac) rfl (by kernel_rfl) (by kernel_rfl) (by kernel_rfl) (fun _ _ _ h => h) (Or.inl ⟨by rfl, ?_⟩) H ?_
          · intro w' hSw; go_simp
          change wpAnyH _ _ _ _ _ _ _ { tmps := #[_,_,_,_,_,_,_,_,_,_,_,_,_,_,_,_,_,_,_,_,_,_], defers := _ } _
          refine wpAnyH_done (by kernel_rfl) ?_ _
          refine NoPanic.normal ?_
          clear H FO NO SE EF HS
          go_wp2
          go_ret
          exact ⟨⟨ag, ac, rfl, HAG.out, R9.out⟩, B9.out⟩
      · skip
        obtain ⟨v29, hcv, hx, ho, hce⟩ := conv_lit v19 xb LX.out
        go_simp
        have hsz : v19.heap.size ≤ v29.heap.size := ho.size
        replace A1 : Hid (Below w.heap.size w v29) := A1.out.trans (ho.toBelow (Nat.le_of_lt XG.out) A1.out.size)
        have XL : Hid (xb < v29.heap.size) := Nat.lt_of_lt_of_le LX.out.lt ho.size
        replace SZ : Hid (w.heap.size ≤ (v29).heap.size) := Nat.le_trans SZ.out ho.size
        replace SL : Hid (w.heap.size < (v29).heap.size) := Nat.lt_of_lt_of_le SL.out ho.size
        replace FR : Hid (RowM v29 fb 4 4 U) := FR.out.onlyB ho NE.out
        replace H : (CellAt v29 w.heap.size 0 (.int .i64 (ep : Int))) ∧ (CellAt v29 w.heap.size 1 (.string s)) := ⟨(hce _).trans (H.1), (hce _).trans (H.2)⟩
        have XC : Hid (Code8 v29 (some ⟨xb, 0, none⟩) 4 slotX) := hx
        clear hcv hx ho hce hsz LX
        refine hK.out _ _ H (fun _ => ?_)
        clear hK KK
        change wpAnyH _ _ _ _ _ _ _ { tmps := #[_,_,_,_,_,_,_,_,_,_,_,_,_,_,_,_,_,_,_,_,_,_], defers := _ } _
        refine wpAnyH_ready (rs := [7, 12]) (by kernel_rfl) (by simp) ?_
        refine (AllReadyH.cons rfl (fun KK hK => ?_) (AllReadyH.cons rfl (fun KK hK => ?_) AllReadyH.nil))
        · skip
          go_simp
          refine (NO.out _).mono ?_
          rintro e v30 ⟨rfl, hb⟩
          replace A1 : Hid (Below w.heap.size w v30) := A1.out.trans (hb.mono A1.out.size)
          replace SZ : Hid (w.heap.size ≤ (v30).heap.size) := Nat.le_trans SZ.out hb.size
          replace SL : Hid (w.heap.size < (v30).heap.size) := Nat.lt_of_lt_of_le SL.out hb.size
          replace FR : Hid (RowM v30 fb 4 4 U) := FR.out.below hb
          replace XC : Hid (Code8 v30 (some ⟨xb, 0, none⟩) 4 slotX) := XC.out.below hb
          replace XL : Hid (xb < (v30).heap.size) := Nat.lt_of_lt_of_le XL.out hb.size
          replace H : (CellAt v30 w.heap.size 0 (.int .i64 (ep : Int))) ∧ (CellAt v30 w.heap.size 1 (.string s)) := ⟨(H.1).below hb, (H.2).below hb⟩
          clear hb
          refine hK.out _ _ H (fun _ => ?_)
          clear hK KK
          change wpAnyH _ _ _ _ _ _ _ { tmps := #[_,_,_,_,_,_,_,_,_,_,_,_,_,_,_,_,_,_,_,_,_,_], defers := _ } _
          refine wpAnyH_ready (rs := [12]) (by kernel_rfl) (by simp) ?_
          refine (AllReadyH.cons rfl (fun KK hK => ?_) AllReadyH.nil)
          obtain ⟨v31, gc, hcv, hx, hb, hgc⟩ := bytesOfM s v30
          go_simp
          replace A1 : Hid (Below w.heap.size w v31) := A1.out.trans (hb.mono A1.out.size)
          replace SZ : Hid (w.heap.size ≤ (v31).heap.size) := Nat.le_trans SZ.out hb.size
          replace SL : Hid (w.heap.size < (v31).heap.size) := Nat.lt_of_lt_of_le SL.out hb.size
          replace FR : Hid (RowM v31 fb 4 4 U) := FR.out.below hb
          replace XC : Hid (Code8 v31 (some ⟨xb, 0, none⟩) 4 slotX) := XC.out.below hb
          replace XL : Hid (xb < (v31).heap.size) := Nat.lt_of_lt_of_le XL.out hb.size
          replace H : (CellAt v31 w.heap.size 0 (.int .i64 (ep : Int))) ∧ (CellAt v31 w.heap.size 1 (.string s)) := ⟨(H.1).below hb, (H.2).below hb⟩
          have CD : Hid (Code8 v31 (some ⟨v30.heap.size, 0, none⟩) s.size (strB s)) := hx
          obtain ⟨cb, hcb⟩ : ∃ x, x = v30.heap.size := ⟨_, rfl⟩
          rw [← hcb] at CD ⊢
          clear hcv hx hb hcb hgc
          refine hK.out _ _ H (fun _ => ?_)
          clear hK KK
          change wpAnyH _ _ _ _ _ _ _ { tmps := #[_,_,_,_,_,_,_,_,_,_,_,_,_,_,_,_,_,_,_,_,_,_], defers := _ } _
          refine wpAnyH_ready (rs := [13]) (by kernel_rfl) (by simp) ?_
          refine (AllReadyH.cons rfl (fun KK hK => ?_) AllReadyH.nil)
          go_simp
          refine (SE.out _ _ _ _ _ XC.out CD.out).mono ?_
          rintro e v32 ⟨⟨sb, sc, -, rfl, ho⟩, hb⟩
          replace A1 : Hid (Below w.heap.size w v32) := A1.out.trans (hb.mono A1.out.size)
          replace SZ : Hid (w.heap.size ≤ (v32).heap.size) := Nat.le_trans SZ.out hb.size
          replace SL : Hid (w.heap.size < (v32).heap.size) := Nat.lt_of_lt_of_le SL.out hb.size
          replace FR : Hid (RowM v32 fb 4 4 U) := FR.out.below hb
          replace XC : Hid (Code8 v32 (some ⟨xb, 0, none⟩) 4 slotX) := XC.out.below hb
          replace XL : Hid (xb < (v32).heap.size) := Nat.lt_of_lt_of_le XL.out hb.size
          replace CD : Hid (Code8 v32 (some ⟨cb, 0, none⟩) s.size (strB s)) := CD.out.below hb
          replace H : (CellAt v32 w.heap.size 0 (.int .i64 (ep : Int))) ∧ (CellAt v32 w.heap.size 1 (.string s)) := ⟨(H.1).below hb, (H.2).below hb⟩
          have SD : Hid (Code8 v32 (some ⟨sb, 0, none⟩) (s.size + 16) F) := ho.code
          clear hb ho
          refine hK.out _ _ H (fun _ => ?_)
          clear hK KK
          change wpAnyH _ _ _ _ _ _ _ { tmps := #[_,_,_,_,_,_,_,_,_,_,_,_,_,_,_,_,_,_,_,_,_,_], defers := _ } _
          refine wpAnyH_ready (rs := [14]) (by kernel_rfl) (by simp) ?_
          refine AllReadyH.cons rfl (fun KK hK => ?_) AllReadyH.nil
          obtain ⟨ag, ac, v33, hr, hm, hb, hag⟩ := appendM v32 (w.heap.size + 1) fb 4 4 U sb 0 (s.size + 16) sc F FH.out SL.out (by have := HS.out; omega) FR.out SD.out 88
          rw [if_pos (by rfl)]
          refine Lib.wp_append_run _ (.tmp 9) (.tmp 20) 88 88 rfl _ _ rfl rfl _ _ hr ?_
          have e20 : 4 + (s.size + 16) = 20 + s.size := by omega
          rw [e20]; rw [e20] at hm hr
          have R9 : Hid (RowM v33 ag (20 + s.size) ac GG) := hm.congr (fun i _ => EF.out i)
          have B9 : Hid (Below w.heap.size w v33) := A1.out.trans (hb.mono (Nat.le_succ _))
          replace H : (CellAt v33 w.heap.size 0 (.int .i64 (ep : Int))) ∧ (CellAt v33 w.heap.size 1 (.string s)) := ⟨(hb.cell (p := ⟨w.heap.size, 0, none⟩) (Nat.lt_succ_self _)).trans (H.1), (hb.cell (p := ⟨w.heap.size, 1, none⟩) (Nat.lt_succ_self _)).trans (H.2)⟩
          have HAG : Hid (w.heap.size ≤ ag) := Nat.le_trans (Nat.le_succ _) hag
          refine hK.out _ _ H (fun _ => ?_)
          clear hK KK hr hm hb hag e20 SZ SL FR XC XL CD SD A1 NE FH XG
          change wpAnyH _ _ _ _ _ _ _ { tmps := #[_,_,_,_,_,_,_,_,_,_,_,_,_,_,_,_,_,_,_,_,_,_], defers := _ } _
          refine wpAnyH_take (i := 15) (v := .slice (some ⟨ag, 0, none⟩) (20 + s.size) ac) rfl (by kernel_rfl) (by kernel_rfl) (by kernel_rfl) (fun _ _ _ h => h) (Or.inl ⟨by rfl, ?_⟩) H ?_
          · intro w' hSw; go_simp
          change wpAnyH _ _ _ _ _ _ _ { tmps := #[_,_,_,_,_,_,_,_,_,_,_,_,_,_,_,_,_,_,_,_,_,_], defers := _ } _
          refine wpAnyH_done (by kernel_rfl) ?_ _
          refine NoPanic.normal ?_
          clear H FO NO SE EF HS
          go_wp2
          go_ret
          exact ⟨⟨ag, ac, rfl, HAG.out, R9.out⟩, B9.out⟩
        · skip
          obtain ⟨v34, gc, hcv, hx, hb, hgc⟩ := bytesOfM s v29
          go_simp
          replace A1 : Hid (Below w.heap.size w v34) := A1.out.trans (hb.mono A1.out.size)
          replace SZ : Hid (w.heap.size ≤ (v34).heap.size) := Nat.le_trans SZ.out hb.size
          replace SL : Hid (w.heap.size < (v34).heap.size) := Nat.lt_of_lt_of_le SL.out hb.size
          replace FR : Hid (RowM v34 fb 4 4 U) := FR.out.below hb
          replace XC : Hid (Code8 v34 (some ⟨xb, 0, none⟩) 4 slotX) := XC.out.below hb
          replace XL : Hid (xb < (v34).heap.size) := Nat.lt_of_lt_of_le XL.out hb.size
          replace H : (CellAt v34 w.heap.size 0 (.int .i64 (ep : Int))) ∧ (CellAt v34 w.heap.size 1 (.string s)) := ⟨(H.1).below hb, (H.2).below hb⟩
          have CD : Hid (Code8 v34 (some ⟨v29.heap.size, 0, none⟩) s.size (strB s)) := hx
          obtain ⟨cb, hcb⟩ : ∃ x, x = v29.heap.size := ⟨_, rfl⟩
          rw [← hcb] at CD ⊢
          clear hcv hx hb hcb hgc
          refine hK.out _ _ H (fun _ => ?_)
          clear hK KK
          change wpAnyH _ _ _ _ _ _ _ { tmps := #[_,_,_,_,_,_,_,_,_,_,_,_,_,_,_,_,_,_,_,_,_,_], defers := _ } _
          refine wpAnyH_ready (rs := [7]) (by kernel_rfl) (by simp) ?_
          refine (AllReadyH.cons rfl (fun KK hK => ?_) AllReadyH.nil)
          go_simp
          refine (NO.out _).mono ?_
          rintro e v35 ⟨rfl, hb⟩
          replace A1 : Hid (Below w.heap.size w v35) := A1.out.trans (hb.mono A1.out.size)
          replace SZ : Hid (w.heap.size ≤ (v35).heap.size) := Nat.le_trans SZ.out hb.size
          replace SL : Hid (w.heap.size < (v35).heap.size) := Nat.lt_of_lt_of_le SL.out hb.size
          replace FR : Hid (RowM v35 fb 4 4 U) := FR.out.below hb
          replace XC : Hid (Code8 v35 (some ⟨xb, 0, none⟩) 4 slotX) := XC.out.below hb
          replace XL : Hid (xb < (v35).heap.size) := Nat.lt_of_lt_of_le XL.out hb.size
          replace CD : Hid (Code8 v35 (some ⟨cb, 0, none⟩) s.size (strB s)) := CD.out.below hb
          replace H : (CellAt v35 w.heap.size 0 (.int .i64 (ep : Int))) ∧ (CellAt v35 w.heap.size 1 (.string s)) := ⟨(H.1).below hb, (H.2).below hb⟩
          clear hb
          refine hK.out _ _ H (fun _ => ?_)
          clear hK KK
          change wpAnyH _ _ _ _ _ _ _ { tmps := #[_,_,_,_,_,_,_,_,_,_,_,_,_,_,_,_,_,_,_,_,_,_], defers := _ } _
          refine wpAnyH_ready (rs := [13]) (by kernel_rfl) (by simp) ?_
          refine (AllReadyH.cons rfl (fun KK hK => ?_) AllReadyH.nil)
          go_simp
          refine (SE.out _ _ _ _ _ XC.out CD.out).mono ?_
          rintro e v36 ⟨⟨sb, sc, -, rfl, ho⟩, hb⟩
          replace A1 : Hid (Below w.heap.size w v36) := A1.out.trans (hb.mono A1.out.size)
          replace SZ : Hid (w.heap.size ≤ (v36).heap.size) := Nat.le_trans SZ.out hb.size
          replace SL : Hid (w.heap.size < (v36).heap.size) := Nat.lt_of_lt_of_le SL.out hb.size
          replace FR : Hid (RowM v36 fb 4 4 U) := FR.out.below hb
          replace XC : Hid (Code8 v36 (some ⟨xb, 0, none⟩) 4 slotX) := XC.out.below hb
          replace XL : Hid (xb < (v36).heap.size) := Nat.lt_of_lt_of_le XL.out hb.size
          replace CD : Hid (Code8 v36 (some ⟨cb, 0, none⟩) s.size (strB s)) := CD.out.below hb
          replace H : (CellAt v36 w.heap.size 0 (.int .i64 (ep : Int))) ∧ (CellAt v36 w.heap.size 1 (.string s)) := ⟨(H.1).below hb, (H.2).below hb⟩
          have SD : Hid (Code8 v36 (some ⟨sb, 0, none⟩) (s.size + 16) F) := ho.code
          clear hb ho
          refine hK.out _ _ H (fun _ => ?_)
          clear hK KK
          change wpAnyH _ _ _ _ _ _ _ { tmps := #[_,_,_,_,_,_,_,_,_,_,_,_,_,_,_,_,_,_,_,_,_,_], defers := _ } _
          refine wpAnyH_ready (rs := [14]) (by kernel_rfl) (by simp) ?_
          refine AllReadyH.cons rfl (fun KK hK => ?_) AllReadyH.nil
          obtain ⟨ag, ac, v37, hr, hm, hb, hag⟩ := appendM v36 (w.heap.size + 1) fb 4 4 U sb 0 (s.size + 16) sc F FH.out SL.out (by have := HS.out; omega) FR.out SD.out 88
          rw [if_pos (by rfl)]
          refine Lib.wp_append_run _ (.tmp 9) (.tmp 20) 88 88 rfl _ _ rfl rfl _ _ hr ?_
          have e20 : 4 + (s.size + 16) = 20 + s.size := by omega
          rw [e20]; rw [e20] at hm hr
          have R9 : Hid (RowM v37 ag (20 + s.size) ac GG) := hm.congr (fun i _ => EF.out i)
          have B9 : Hid (Below w.heap.size w v37) := A1.out.trans (hb.mono (Nat.le_succ _))
          replace H : (CellAt v37 w.heap.size 0 (.int .i64 (ep : Int))) ∧ (CellAt v37 w.heap.size 1 (.string s)) := ⟨(hb.cell (p := ⟨w.heap.size, 0, none⟩) (Nat.lt_succ_self _)).trans (H.1), (hb.cell (p := ⟨w.heap.size, 1, none⟩) (Nat.lt_succ_self _)).trans (H.2)⟩
          have HAG : Hid (w.heap.size ≤ ag) := Nat.le_trans (Nat.le_succ _) hag
          refine hK.out _ _ H (fun _ => ?_)
          clear hK KK hr hm hb hag e20 SZ SL FR XC XL CD SD A1 NE FH XG
          change wpAnyH _ _ _ _ _ _ _ { tmps := #[_,_,_,_,_,_,_,_,_,_,_,_,_,_,_,_,_,_,_,_,_,_], defers := _ } _
          refine wpAnyH_take (i := 15) (v := .slice (some ⟨ag, 0, none⟩) (20 + s.size) ac) rfl (by kernel_rfl) (by kernel_rfl) (by kernel_rfl) (fun _ _ _ h => h) (Or.inl ⟨by rfl, ?_⟩) H ?_
          · intro w' hSw; go_simp
          change wpAnyH _ _ _ _ _ _ _ { tmps := #[_,_,_,_,_,_,_,_,_,_,_,_,_,_,_,_,_,_,_,_,_,_], defers := _ } _
          refine wpAnyH_done (by kernel_rfl) ?_ _
          refine NoPanic.normal ?_
          clear H FO NO SE EF HS
          go_wp2
          go_ret
          exact ⟨⟨ag, ac, rfl, HAG.out, R9.out⟩, B9.out⟩
      · skip
        obtain ⟨v38, gc, hcv, hx, hb, hgc⟩ := bytesOfM s v19
        go_simp
        replace A1 : Hid (Below w.heap.size w v38) := A1.out.trans (hb.mono A1.out.size)
        replace SZ : Hid (w.heap.size ≤ (v38).heap.size) := Nat.le_trans SZ.out hb.size
        replace SL : Hid (w.heap.size < (v38).heap.size) := Nat.lt_of_lt_of_le SL.out hb.size
        replace FR : Hid (RowM v38 fb 4 4 U) := FR.out.below hb
        replace LX : Hid (LitX v38 xb) := LX.out.below hb
        replace H : (CellAt v38 w.heap.size 0 (.int .i64 (ep : Int))) ∧ (CellAt v38 w.heap.size 1 (.string s)) := ⟨(H.1).below hb, (H.2).below hb⟩
        have CD : Hid (Code8 v38 (some ⟨v19.heap.size, 0, none⟩) s.size (strB s)) := hx
        obtain ⟨cb, hcb⟩ : ∃ x, x = v19.heap.size := ⟨_, rfl⟩
        rw [← hcb] at CD ⊢
        clear hcv hx hb hcb hgc
        refine hK.out _ _ H (fun _ => ?_)
        clear hK KK
        change wpAnyH _ _ _ _ _ _ _ { tmps := #[_,_,_,_,_,_,_,_,_,_,_,_,_,_,_,_,_,_,_,_,_,_], defers := _ } _
        refine wpAnyH_ready (rs := [7, 9]) (by kernel_rfl) (by simp) ?_
        refine (AllReadyH.cons rfl (fun KK hK => ?_) (AllReadyH.cons rfl (fun KK hK => ?_) AllReadyH.nil))
        · skip
          go_simp
          refine (NO.out _).mono ?_
          rintro e v39 ⟨rfl, hb⟩
          replace A1 : Hid (Below w.heap.size w v39) := A1.out.trans (hb.mono A1.out.size)
          replace SZ : Hid (w.heap.size ≤ (v39).heap.size) := Nat.le_trans SZ.out hb.size
          replace SL : Hid (w.heap.size < (v39).heap.size) := Nat.lt_of_lt_of_le SL.out hb.size
          replace FR : Hid (RowM v39 fb 4 4 U) := FR.out.below hb
          replace LX : Hid (LitX v39 xb) := LX.out.below hb
          replace CD : Hid (Code8 v39 (some ⟨cb, 0, none⟩) s.size (strB s)) := CD.out.below hb
          replace H : (CellAt v39 w.heap.size 0 (.int .i64 (ep : Int))) ∧ (CellAt v39 w.heap.size 1 (.string s)) := ⟨(H.1).below hb, (H.2).below hb⟩
          clear hb
          refine hK.out _ _ H (fun _ => ?_)
          clear hK KK
          change wpAnyH _ _ _ _ _ _ _ { tmps := #[_,_,_,_,_,_,_,_,_,_,_,_,_,_,_,_,_,_,_,_,_,_], defers := _ } _
          refine wpAnyH_ready (rs := [9]) (by kernel_rfl) (by simp) ?_
          refine (AllReadyH.cons rfl (fun KK hK => ?_) AllReadyH.nil)
          obtain ⟨v40, hcv, hx, ho, hce⟩ := conv_lit v39 xb LX.out
          go_simp
          have hsz : v39.heap.size ≤ v40.heap.size := ho.size
          replace A1 : Hid (Below w.heap.size w v40) := A1.out.trans (ho.toBelow (Nat.le_of_lt XG.out) A1.out.size)
          have XL : Hid (xb < v40.heap.size) := Nat.lt_of_lt_of_le LX.out.lt ho.size
          replace SZ : Hid (w.heap.size ≤ (v40).heap.size) := Nat.le_trans SZ.out ho.size
          replace SL : Hid (w.heap.size < (v40).heap.size) := Nat.lt_of_lt_of_le SL.out ho.size
          replace FR : Hid (RowM v40 fb 4 4 U) := FR.out.onlyB ho NE.out
          replace CD : Hid (Code8 v40 (some ⟨cb, 0, none⟩) s.size (strB s)) := code8_cells CD.out hce
          replace H : (CellAt v40 w.heap.size 0 (.int .i64 (ep : Int))) ∧ (CellAt v40 w.heap.size 1 (.string s)) := ⟨(hce _).trans (H.1), (hce _).trans (H.2)⟩
          have XC : Hid (Code8 v40 (some ⟨xb, 0, none⟩) 4 slotX) := hx
          clear hcv hx ho hce hsz LX
          refine hK.out _ _ H (fun _ => ?_)
          clear hK KK
          change wpAnyH _ _ _ _ _ _ _ { tmps := #[_,_,_,_,_,_,_,_,_,_,_,_,_,_,_,_,_,_,_,_,_,_], defers := _ } _
          refine wpAnyH_ready (rs := [13]) (by kernel_rfl) (by simp) ?_
          refine (AllReadyH.cons rfl (fun KK hK => ?_) AllReadyH.nil)
          go_simp
          refine (SE.out _ _ _ _ _ XC.out CD.out).mono ?_
          rintro e v41 ⟨⟨sb, sc, -, rfl, ho⟩, hb⟩
          replace A1 : Hid (Below w.heap.size w v41) := A1.out.trans (hb.mono A1.out.size)
          replace SZ : Hid (w.heap.size ≤ (v41).heap.size) := Nat.le_trans SZ.out hb.size
          replace SL : Hid (w.heap.size < (v41).heap.size) := Nat.lt_of_lt_of_le SL.out hb.size
          replace FR : Hid (RowM v41 fb 4 4 U) := FR.out.below hb
          replace CD : Hid (Code8 v41 (some ⟨cb, 0, none⟩) s.size (strB s)) := CD.out.below hb
          replace XC : Hid (Code8 v41 (some ⟨xb, 0, none⟩) 4 slotX) := XC.out.below hb
          replace XL : Hid (xb < (v41).heap.size) := Nat.lt_of_lt_of_le XL.out hb.size
          replace H : (CellAt v41 w.heap.size 0 (.int .i64 (ep : Int))) ∧ (CellAt v41 w.heap.size 1 (.string s)) := ⟨(H.1).below hb, (H.2).below hb⟩
          have SD : Hid (Code8 v41 (some ⟨sb, 0, none⟩) (s.size + 16) F) := ho.code
          clear hb ho
          refine hK.out _ _ H (fun _ => ?_)
          clear hK KK
          change wpAnyH _ _ _ _ _ _ _ { tmps := #[_,_,_,_,_,_,_,_,_,_,_,_,_,_,_,_,_,_,_,_,_,_], defers := _ } _
          refine wpAnyH_ready (rs := [14]) (by kernel_rfl) (by simp) ?_
          refine AllReadyH.cons rfl (fun KK hK => ?_) AllReadyH.nil
          obtain ⟨ag, ac, v42, hr, hm, hb, hag⟩ := appendM v41 (w.heap.size + 1) fb 4 4 U sb 0 (s.size + 16) sc F FH.out SL.out (by have := HS.out; omega) FR.out SD.out 88
          rw [if_pos (by rfl)]
          refine Lib.wp_append_run _ (.tmp 9) (.tmp 20) 88 88 rfl _ _ rfl rfl _ _ hr ?_
          have e20 : 4 + (s.size + 16) = 20 + s.size := by omega
          rw [e20]; rw [e20] at hm hr
          have R9 : Hid (RowM v42 ag (20 + s.size) ac GG) := hm.congr (fun i _ => EF.out i)
          have B9 : Hid (Below w.heap.size w v42) := A1.out.trans (hb.mono (Nat.le_succ _))
          replace H : (CellAt v42 w.heap.size 0 (.int .i64 (ep : Int))) ∧ (CellAt v42 w.heap.size 1 (.string s)) := ⟨(hb.cell (p := ⟨w.heap.size, 0, none⟩) (Nat.lt_succ_self _)).trans (H.1), (hb.cell (p := ⟨w.heap.size, 1, none⟩) (Nat.lt_succ_self _)).trans (H.2)⟩
          have HAG : Hid (w.heap.size ≤ ag) := Nat.le_trans (Nat.le_succ _) hag
          refine hK.out _ _ H (fun _ => ?_)
          clear hK KK hr hm hb hag e20 SZ SL FR CD XC XL SD A1 NE FH XG
          change wpAnyH _ _ _ _ _ _ _ { tmps := #[_,_,_,_,_,_,_,_,_,_,_,_,_,_,_,_,_,_,_,_,_,_], defers := _ } _
          refine wpAnyH_take (i := 15) (v := .slice (some ⟨ag, 0, none⟩) (20 + s.size) ac) rfl (by kernel_rfl) (by kernel_rfl) (by kernel_rfl) (fun _ _ _ h => h) (Or.inl ⟨by rfl, ?_⟩) H ?_
          · intro w' hSw; go_simp
          change wpAnyH _ _ _ _ _ _ _ { tmps := #[_,_,_,_,_,_,_,_,_,_,_,_,_,_,_,_,_,_,_,_,_,_], defers := _ } _
          refine wpAnyH_done (by kernel_rfl) ?_ _
          refine NoPanic.normal ?_
          clear H FO NO SE EF HS
          go_wp2
          go_ret
          exact ⟨⟨ag, ac, rfl, HAG.out, R9.out⟩, B9.out⟩
        · skip
          obtain ⟨v43, hcv, hx, ho, hce⟩ := conv_lit v38 xb LX.out
          go_simp
          have hsz : v38.heap.size ≤ v43.heap.size := ho.size
          replace A1 : Hid (Below w.heap.size w v43) := A1.out.trans (ho.toBelow (Nat.le_of_lt XG.out) A1.out.size)
          have XL : Hid (xb < v43.heap.size) := Nat.lt_of_lt_of_le LX.out.lt ho.size
          replace SZ : Hid (w.heap.size ≤ (v43).heap.size) := Nat.le_trans SZ.out ho.size
          replace SL : Hid (w.heap.size < (v43).heap.size) := Nat.lt_of_lt_of_le SL.out ho.size
          replace FR : Hid (RowM v43 fb 4 4 U) := FR.out.onlyB ho NE.out
          replace CD : Hid (Code8 v43 (some ⟨cb, 0, none⟩) s.size (strB s)) := code8_cells CD.out hce
          replace H : (CellAt v43 w.heap.size 0 (.int .i64 (ep : Int))) ∧ (CellAt v43 w.heap.size 1 (.string s)) := ⟨(hce _).trans (H.1), (hce _).trans (H.2)⟩
          have XC : Hid (Code8 v43 (some ⟨xb, 0, none⟩) 4 slotX) := hx
          clear hcv hx ho hce hsz LX
          refine hK.out _ _ H (fun _ => ?_)
          clear hK KK
          change wpAnyH _ _ _ _ _ _ _ { tmps := #[_,_,_,_,_,_,_,_,_,_,_,_,_,_,_,_,_,_,_,_,_,_], defers := _ } _
          refine wpAnyH_ready (rs := [7]) (by kernel_rfl) (by simp) ?_
          refine (AllReadyH.cons rfl (fun KK hK => ?_) AllReadyH.nil)
          go_simp
          refine (NO.out _).mono ?_
          rintro e v44 ⟨rfl, hb⟩
          replace A1 : Hid (Below w.heap.size w v44) := A1.out.trans (hb.mono A1.out.size)
          replace SZ : Hid (w.heap.size ≤ (v44).heap.size) := Nat.le_trans SZ.out hb.size
          replace SL : Hid (w.heap.size < (v44).heap.size) := Nat.lt_of_lt_of_le SL.out hb.size
          replace FR : Hid (RowM v44 fb 4 4 U) := FR.out.below hb
          replace CD : Hid (Code8 v44 (some ⟨cb, 0, none⟩) s.size (strB s)) := CD.out.below hb
          replace XC : Hid (Code8 v44 (some ⟨xb, 0, none⟩) 4 slotX) := XC.out.below hb
          replace XL : Hid (xb < (v44).heap.size) := Nat.lt_of_lt_of_le XL.out hb.size
          replace H : (CellAt v44 w.heap.size 0 (.int .i64 (ep : Int))) ∧ (CellAt v44 w.heap.size 1 (.string s)) := ⟨(H.1).below hb, (H.2).below hb⟩
          clear hb
          refine hK.out _ _ H (fun _ => ?_)
          clear hK KK
          change wpAnyH _ _ _ _ _ _ _ { tmps := #[_,_,_,_,_,_,_,_,_,_,_,_,_,_,_,_,_,_,_,_,_,_], defers := _ } _
          refine wpAnyH_ready (rs := [13]) (by kernel_rfl) (by simp) ?_
          refine (AllReadyH.cons rfl (fun KK hK => ?_) AllReadyH.nil)
          go_simp
          refine (SE.out _ _ _ _ _ XC.out CD.out).mono ?_
          rintro e v45 ⟨⟨sb, sc, -, rfl, ho⟩, hb⟩
          replace A1 : Hid (Below w.heap.size w v45) := A1.out.trans (hb.mono A1.out.size)
          replace SZ : Hid (w.heap.size ≤ (v45).heap.size) := Nat.le_trans SZ.out hb.size
          replace SL : Hid (w.heap.size < (v45).heap.size) := Nat.lt_of_lt_of_le SL.out hb.size
          replace FR : Hid (RowM v45 fb 4 4 U) := FR.out.below hb
          replace CD : Hid (Code8 v45 (some ⟨cb, 0, none⟩) s.size (strB s)) := CD.out.below hb
          replace XC : Hid (Code8 v45 (some ⟨xb, 0, none⟩) 4 slotX) := XC.out.below hb
          replace XL : Hid (xb < (v45).heap.size) := Nat.lt_of_lt_of_le XL.out hb.size
          replace H : (CellAt v45 w.heap.size 0 (.int .i64 (ep : Int))) ∧ (CellAt v45 w.heap.size 1 (.string s)) := ⟨(H.1).below hb, (H.2).below hb⟩
          have SD : Hid (Code8 v45 (some ⟨sb, 0, none⟩) (s.size + 16) F) := ho.code
          clear hb ho
          refine hK.out _ _ H (fun _ => ?_)
          clear hK KK
          change wpAnyH _ _ _ _ _ _ _ { tmps := #[_,_,_,_,_,_,_,_,_,_,_,_,_,_,_,_,_,_,_,_,_,_], defers := _ } _
          refine wpAnyH_ready (rs := [14]) (by kernel_rfl) (by simp) ?_
          refine AllReadyH.cons rfl (fun KK hK => ?_) AllReadyH.nil
          obtain ⟨ag, ac, v46, hr, hm, hb, hag⟩ := appendM v45 (w.heap.size + 1) fb 4 4 U sb 0 (s.size + 16) sc F FH.out SL.out (by have := HS.out; omega) FR.out SD.out 88
          rw [if_pos (by rfl)]
          refine Lib.wp_append_run _ (.tmp 9) (.tmp 20) 88 88 rfl _ _ rfl rfl _ _ hr ?_
          have e20 : 4 + (s.size + 16) = 20 + s.size := by omega
          rw [e20]; rw [e20] at hm hr
          have R9 : Hid (RowM v46 ag (20 + s.size) ac GG) := hm.congr (fun i _ => EF.out i)
          have B9 : Hid (Below w.heap.size w v46) := A1.out.trans (hb.mono (Nat.le_succ _))
          replace H : (CellAt v46 w.heap.size 0 (.int .i64 (ep : Int))) ∧ (CellAt v46 w.heap.size 1 (.string s)) := ⟨(hb.cell (p := ⟨w.heap.size, 0, none⟩) (Nat.lt_succ_self _)).trans (H.1), (hb.cell (p := ⟨w.heap.size, 1, none⟩) (Nat.lt_succ_self _)).trans (H.2)⟩
          have HAG : Hid (w.heap.size ≤ ag) := Nat.le_trans (Nat.le_succ _) hag
          refine hK.out _ _ H (fun _ => ?_)
          clear hK KK hr hm hb hag e20 SZ SL FR CD XC XL SD A1 NE FH XG
          change wpAnyH _ _ _ _ _ _ _ { tmps := #[_,_,_,_,_,_,_,_,_,_,_,_,_,_,_,_,_,_,_,_,_,_], defers := _ } _
          refine wpAnyH_take (i := 15) (v := .slice (some ⟨ag, 0, none⟩) (20 + s.size) ac) rfl (by kernel_rfl) (by kernel_rfl) (by kernel_rfl) (fun _ _ _ h => h) (Or.inl ⟨by rfl, ?_⟩) H ?_
          · intro w' hSw; go_simp
          change wpAnyH _ _ _ _ _ _ _ { tmps := #[_,_,_,_,_,_,_,_,_,_,_,_,_,_,_,_,_,_,_,_,_,_], defers := _ } _
          refine wpAnyH_done (by kernel_rfl) ?_ _
          refine NoPanic.normal ?_
          clear H FO NO SE EF HS
          go_wp2
          go_ret
          exact ⟨⟨ag, ac, rfl, HAG.out, R9.out⟩, B9.out⟩
    · skip
      obtain ⟨v47, gc, hcv, hx, hb, hgc⟩ := bytesOfM s v3
      go_simp
      replace A1 : Hid (Below w.heap.size w v47) := A1.out.trans (hb.mono A1.out.size)
      replace SZ : Hid (w.heap.size ≤ (v47).heap.size) := Nat.le_trans SZ.out hb.size
      replace SL : Hid (w.heap.size < (v47).heap.size) := Nat.lt_of_lt_of_le SL.out hb.size
      replace FR : Hid (RowM v47 fb 4 4 U) := FR.out.below hb
      replace H : (CellAt v47 w.heap.size 0 (.int .i64 (ep : Int))) ∧ (CellAt v47 w.heap.size 1 (.string s)) := ⟨(H.1).below hb, (H.2).below hb⟩
      have CD : Hid (Code8 v47 (some ⟨v3.heap.size, 0, none⟩) s.size (strB s)) := hx
      obtain ⟨cb, hcb⟩ : ∃ x, x = v3.heap.size := ⟨_, rfl⟩
      rw [← hcb] at CD ⊢
      clear hcv hx hb hcb hgc
      refine hK.out _ _ H (fun _ => ?_)
      clear hK KK
      change wpAnyH _ _ _ _ _ _ _ { tmps := #[_,_,_,_,_,_,_,_,_,_,_,_,_,_,_,_,_,_,_,_,_,_], defers := _ } _
      refine wpAnyH_ready (rs := [7, 8]) (by kernel_rfl) (by simp) ?_
      refine (AllReadyH.cons rfl (fun KK hK => ?_) (AllReadyH.cons rfl (fun KK hK => ?_) AllReadyH.nil))
      · skip
        go_simp
        refine (NO.out _).mono ?_
        rintro e v48 ⟨rfl, hb⟩
        replace A1 : Hid (Below w.heap.size w v48) := A1.out.trans (hb.mono A1.out.size)
        replace SZ : Hid (w.heap.size ≤ (v48).heap.size) := Nat.le_trans SZ.out hb.size
        replace SL : Hid (w.heap.size < (v48).heap.size) := Nat.lt_of_lt_of_le SL.out hb.size
        replace FR : Hid (RowM v48 fb 4 4 U) := FR.out.below hb
        replace CD : Hid (Code8 v48 (some ⟨cb, 0, none⟩) s.size (strB s)) := CD.out.below hb
        replace H : (CellAt v48 w.heap.size 0 (.int .i64 (ep : Int))) ∧ (CellAt v48 w.heap.size 1 (.string s)) := ⟨(H.1).below hb, (H.2).below hb⟩
        clear hb
        refine hK.out _ _ H (fun _ => ?_)
        clear hK KK
        change wpAnyH _ _ _ _ _ _ _ { tmps := #[_,_,_,_,_,_,_,_,_,_,_,_,_,_,_,_,_,_,_,_,_,_], defers := _ } _
        refine wpAnyH_ready (rs := [8]) (by kernel_rfl) (by simp) ?_
        refine (AllReadyH.cons rfl (fun KK hK => ?_) AllReadyH.nil)
        have hb : Below v48.heap.size v48 (v48.alloc (.cells #[.int .u8 115, .int .u8 108, .int .u8 111, .int .u8 116] 5)) := (Below.refl _ _).alloc (Nat.le_refl _) _
        have LX : Hid (LitX (v48.alloc (.cells #[.int .u8 115, .int .u8 108, .int .u8 111, .int .u8 116] 5)) v48.heap.size) := LitX.made _
        have NE : Hid (fb ≠ v48.heap.size) := by have := FR.out.2.2.2; exact fun e => by omega
        have XG : Hid (w.heap.size < v48.heap.size) := SL.out
        go_simp
        replace H : (CellAt (v48.alloc (.cells #[.int .u8 115, .int .u8 108, .int .u8 111, .int .u8 116] 5)) w.heap.size 0 (.int .i64 (ep : Int))) ∧ (CellAt (v48.alloc (.cells #[.int .u8 115, .int .u8 108, .int .u8 111, .int .u8 116] 5)) w.heap.size 1 (.string s)) := ⟨(H.1).below hb, (H.2).below hb⟩
        generalize (v48.alloc (.cells #[.int .u8 115, .int .u8 108, .int .u8 111, .int .u8 116] 5)) = v49 at *
        replace A1 : Hid (Below w.heap.size w v49) := A1.out.trans (hb.mono A1.out.size)
        replace SZ : Hid (w.heap.size ≤ (v49).heap.size) := Nat.le_trans SZ.out hb.size
        replace SL : Hid (w.heap.size < (v49).heap.size) := Nat.lt_of_lt_of_le SL.out hb.size
        replace FR : Hid (RowM v49 fb 4 4 U) := FR.out.below hb
        replace CD : Hid (Code8 v49 (some ⟨cb, 0, none⟩) s.size (strB s)) := CD.out.below hb
        obtain ⟨xb, hxb⟩ : ∃ x, x = v48.heap.size := ⟨_, rfl⟩
        rw [← hxb] at LX XG NE ⊢
        clear hb hxb
        refine hK.out _ _ H (fun _ => ?_)
        clear hK KK
        change wpAnyH _ _ _ _ _ _ _ { tmps := #[_,_,_,_,_,_,_,_,_,_,_,_,_,_,_,_,_,_,_,_,_,_], defers := _ } _
        refine wpAnyH_ready (rs := [9]) (by kernel_rfl) (by simp) ?_
        refine (AllReadyH.cons rfl (fun KK hK => ?_) AllReadyH.nil)
        obtain ⟨v50, hcv, hx, ho, hce⟩ := conv_lit v49 xb LX.out
        go_simp
        have hsz : v49.heap.size ≤ v50.heap.size := ho.size
        replace A1 : Hid (Below w.heap.size w v50) := A1.out.trans (ho.toBelow (Nat.le_of_lt XG.out) A1.out.size)
        have XL : Hid (xb < v50.heap.size) := Nat.lt_of_lt_of_le LX.out.lt ho.size
        replace SZ : Hid (w.heap.size ≤ (v50).heap.size) := Nat.le_trans SZ.out ho.size
        replace SL : Hid (w.heap.size < (v50).heap.size) := Nat.lt_of_lt_of_le SL.out ho.size
        replace FR : Hid (RowM v50 fb 4 4 U) := FR.out.onlyB ho NE.out
        replace CD : Hid (Code8 v50 (some ⟨cb, 0, none⟩) s.size (strB s)) := code8_cells CD.out hce
        replace H : (CellAt v50 w.heap.size 0 (.int .i64 (ep : Int))) ∧ (CellAt v50 w.heap.size 1 (.string s)) := ⟨(hce _).trans (H.1), (hce _).trans (H.2)⟩
        have XC : Hid (Code8 v50 (some ⟨xb, 0, none⟩) 4 slotX) := hx
        clear hcv hx ho hce hsz LX
        refine hK.out _ _ H (fun _ => ?_)
        clear hK KK
        change wpAnyH _ _ _ _ _ _ _ { tmps := #[_,_,_,_,_,_,_,_,_,_,_,_,_,_,_,_,_,_,_,_,_,_], defers := _ } _
        refine wpAnyH_ready (rs := [13]) (by kernel_rfl) (by simp) ?_
        refine (AllReadyH.cons rfl (fun KK hK => ?_) AllReadyH.nil)
        go_simp
        refine (SE.out _ _ _ _ _ XC.out CD.out).mono ?_
        rintro e v51 ⟨⟨sb, sc, -, rfl, ho⟩, hb⟩
        replace A1 : Hid (Below w.heap.size w v51) := A1.out.trans (hb.mono A1.out.size)
        replace SZ : Hid (w.heap.size ≤ (v51).heap.size) := Nat.le_trans SZ.out hb.size
        replace SL : Hid (w.heap.size < (v51).heap.size) := Nat.lt_of_lt_of_le SL.out hb.size
        replace FR : Hid (RowM v51 fb 4 4 U) := FR.out.below hb
        replace CD : Hid (Code8 v51 (some ⟨cb, 0, none⟩) s.size (strB s)) := CD.out.below hb
        replace XC : Hid (Code8 v51 (some ⟨xb, 0, none⟩) 4 slotX) := XC.out.below hb
        replace XL : Hid (xb < (v51).heap.size) := Nat.lt_of_lt_of_le XL.out hb.size
        replace H : (CellAt v51 w.heap.size 0 (.int .i64 (ep : Int))) ∧ (CellAt v51 w.heap.size 1 (.string s)) := ⟨(H.1).below hb, (H.2).below hb⟩
        have SD : Hid (Code8 v51 (some ⟨sb, 0, none⟩) (s.size + 16) F) := ho.code
        clear hb ho
        refine hK.out _ _ H (fun _ => ?_)
        clear hK KK
        change wpAnyH _ _ _ _ _ _ _ { tmps := #[_,_,_,_,_,_,_,_,_,_,_,_,_,_,_,_,_,_,_,_,_,_], defers := _ } _
        refine wpAnyH_ready (rs := [14]) (by kernel_rfl) (by simp) ?_
        refine AllReadyH.cons rfl (fun KK hK => ?_) AllReadyH.nil
        obtain ⟨ag, ac, v52, hr, hm, hb, hag⟩ := appendM v51 (w.heap.size + 1) fb 4 4 U sb 0 (s.size + 16) sc F FH.out SL.out (by have := HS.out; omega) FR.out SD.out 88
        rw [if_pos (by rfl)]
        refine Lib.wp_append_run _ (.tmp 9) (.tmp 20) 88 88 rfl _ _ rfl rfl _ _ hr ?_
        have e20 : 4 + (s.size + 16) = 20 + s.size := by omega
        rw [e20]; rw [e20] at hm hr
        have R9 : Hid (RowM v52 ag (20 + s.size) ac GG) := hm.congr (fun i _ => EF.out i)
        have B9 : Hid (Below w.heap.size w v52) := A1.out.trans (hb.mono (Nat.le_succ _))
        replace H : (CellAt v52 w.heap.size 0 (.int .i64 (ep : Int))) ∧ (CellAt v52 w.heap.size 1 (.string s)) := ⟨(hb.cell (p := ⟨w.heap.size, 0, none⟩) (Nat.lt_succ_self _)).trans (H.1), (hb.cell (p := ⟨w.heap.size, 1, none⟩) (Nat.lt_succ_self _)).trans (H.2)⟩
        have HAG : Hid (w.heap.size ≤ ag) := Nat.le_trans (Nat.le_succ _) hag
        refine hK.out _ _ H (fun _ => ?_)
        clear hK KK hr hm hb hag e20 SZ SL FR CD XC XL SD A1 NE FH XG
        change wpAnyH _ _ _ _ _ _ _ { tmps := #[_,_,_,_,_,_,_,_,_,_,_,_,_,_,_,_,_,_,_,_,_,_], defers := _ } _
        refine wpAnyH_take (i := 15) (v := .slice (some ⟨ag, 0, none⟩) (20 + s.size) ac) rfl (by kernel_rfl) (by kernel_rfl) (by kernel_rfl) (fun _ _ _ h => h) (Or.inl ⟨by rfl, ?_⟩) H ?_
        · intro w' hSw; go_simp
        change wpAnyH _ _ _ _ _ _ _ { tmps := #[_,_,_,_,_,_,_,_,_,_,_,_,_,_,_,_,_,_,_,_,_,_], defers := _ } _
        refine wpAnyH_done (by kernel_rfl) ?_ _
        refine NoPanic.normal ?_
        clear H FO NO SE EF HS
        go_wp2
        go_ret
        exact ⟨⟨ag, ac, rfl, HAG.out, R9.out⟩, B9.out⟩
      · skip
        have hb : Below v47.heap.size v47 (v47.alloc (.cells #[.int .u8 115, .int .u8 108, .int .u8 111, .int .u8 116] 5)) := (Below.refl _ _).alloc (Nat.le_refl _) _
        have LX : Hid (LitX (v47.alloc (.cells #[.int .u8 115, .int .u8 108, .int .u8 111, .int .u8 116] 5)) v47.heap.size) := LitX.made _
        have NE : Hid (fb ≠ v47.heap.size) := by have := FR.out.2.2.2; exact fun e => by omega
        have XG : Hid (w.heap.size < v47.heap.size) := SL.out
        go_simp
        replace H : (CellAt (v47.alloc (.cells #[.int .u8 115, .int .u8 108, .int .u8 111, .int .u8 116] 5)) w.heap.size 0 (.int .i64 (ep : Int))) ∧ (CellAt (v47.alloc (.cells #[.int .u8 115, .int .u8 108, .int .u8 111, .int .u8 116] 5)) w.heap.size 1 (.string s)) := ⟨(H.1).below hb, (H.2).below hb⟩
        generalize (v47.alloc (.cells #[.int .u8 115, .int .u8 108, .int .u8 111, .int .u8 116] 5)) = v53 at *
        replace A1 : Hid (Below w.heap.size w v53) := A1.out.trans (hb.mono A1.out.size)
        replace SZ : Hid (w.heap.size ≤ (v53).heap.size) := Nat.le_trans SZ.out hb.size
        replace SL : Hid (w.heap.size < (v53).heap.size) := Nat.lt_of_lt_of_le SL.out hb.size
        replace FR : Hid (RowM v53 fb 4 4 U) := FR.out.below hb
        replace CD : Hid (Code8 v53 (some ⟨cb, 0, none⟩) s.size (strB s)) := CD.out.below hb
        obtain ⟨xb, hxb⟩ : ∃ x, x = v47.heap.size := ⟨_, rfl⟩
        rw [← hxb] at LX XG NE ⊢
        clear hb hxb
        refine hK.out _ _ H (fun _ => ?_)
        clear hK KK
        change wpAnyH _ _ _ _ _ _ _ { tmps := #[_,_,_,_,_,_,_,_,_,_,_,_,_,_,_,_,_,_,_,_,_,_], defers := _ } _
        refine wpAnyH_ready (rs := [7, 9]) (by kernel_rfl) (by simp) ?_
        refine (AllReadyH.cons rfl (fun KK hK => ?_) (AllReadyH.cons rfl (fun KK hK => ?_) AllReadyH.nil))
        · skip
          go_simp
          refine (NO.out _).mono ?_
          rintro e v54 ⟨rfl, hb⟩
          replace A1 : Hid (Below w.heap.size w v54) := A1.out.trans (hb.mono A1.out.size)
          replace SZ : Hid (w.heap.size ≤ (v54).heap.size) := Nat.le_trans SZ.out hb.size
          replace SL : Hid (w.heap.size < (v54).heap.size) := Nat.lt_of_lt_of_le SL.out hb.size
          replace FR : Hid (RowM v54 fb 4 4 U) := FR.out.below hb
          replace CD : Hid (Code8 v54 (some ⟨cb, 0, none⟩) s.size (strB s)) := CD.out.below hb
          replace LX : Hid (LitX v54 xb) := LX.out.below hb
          replace H : (CellAt v54 w.heap.size 0 (.int .i64 (ep : Int))) ∧ (CellAt v54 w.heap.size 1 (.string s)) := ⟨(H.1).below hb, (H.2).below hb⟩
          clear hb
          refine hK.out _ _ H (fun _ => ?_)
          clear hK KK
          change wpAnyH _ _ _ _ _ _ _ { tmps := #[_,_,_,_,_,_,_,_,_,_,_,_,_,_,_,_,_,_,_,_,_,_], defers := _ } _
          refine wpAnyH_ready (rs := [9]) (by kernel_rfl) (by simp) ?_
          refine (AllReadyH.cons rfl (fun KK hK => ?_) AllReadyH.nil)
          obtain ⟨v55, hcv, hx, ho, hce⟩ := conv_lit v54 xb LX.out
          go_simp
          have hsz : v54.heap.size ≤ v55.heap.size := ho.size
          replace A1 : Hid (Below w.heap.size w v55) := A1.out.trans (ho.toBelow (Nat.le_of_lt XG.out) A1.out.size)
          have XL : Hid (xb < v55.heap.size) := Nat.lt_of_lt_of_le LX.out.lt ho.size
          replace SZ : Hid (w.heap.size ≤ (v55).heap.size) := Nat.le_trans SZ.out ho.size
          replace SL : Hid (w.heap.size < (v55).heap.size) := Nat.lt_of_lt_of_le SL.out ho.size
          replace FR : Hid (RowM v55 fb 4 4 U) := FR.out.onlyB ho NE.out
          replace CD : Hid (Code8 v55 (some ⟨cb, 0, none⟩) s.size (strB s)) := code8_cells CD.out hce
          replace H : (CellAt v55 w.heap.size 0 (.int .i64 (ep : Int))) ∧ (CellAt v55 w.heap.size 1 (.string s)) := ⟨(hce _).trans (H.1), (hce _).trans (H.2)⟩
          have XC : Hid (Code8 v55 (some ⟨xb, 0, none⟩) 4 slotX) := hx
          clear hcv hx ho hce hsz LX
          refine hK.out _ _ H (fun _ => ?_)
          clear hK KK
          change wpAnyH _ _ _ _ _ _ _ { tmps := #[_,_,_,_,_,_,_,_,_,_,_,_,_,_,_,_,_,_,_,_,_,_], defers := _ } _
          refine wpAnyH_ready (rs := [13]) (by kernel_rfl) (by simp) ?_
          refine (AllReadyH.cons rfl (fun KK hK => ?_) AllReadyH.nil)
          go_simp
          refine (SE.out _ _ _ _ _ XC.out CD.out).mono ?_
          rintro e v56 ⟨⟨sb, sc, -, rfl, ho⟩, hb⟩
          replace A1 : Hid (Below w.heap.size w v56) := A1.out.trans (hb.mono A1.out.size)
          replace SZ : Hid (w.heap.size ≤ (v56).heap.size) := Nat.le_trans SZ.out hb.size
          replace SL : Hid (w.heap.size < (v56).heap.size) := Nat.lt_of_lt_of_le SL.out hb.size
          replace FR : Hid (RowM v56 fb 4 4 U) := FR.out.below hb
          replace CD : Hid (Code8 v56 (some ⟨cb, 0, none⟩) s.size (strB s)) := CD.out.below hb
          replace XC : Hid (Code8 v56 (some ⟨xb, 0, none⟩) 4 slotX) := XC.out.below hb
          replace XL : Hid (xb < (v56).heap.size) := Nat.lt_of_lt_of_le XL.out hb.size
          replace H : (CellAt v56 w.heap.size 0 (.int .i64 (ep : Int))) ∧ (CellAt v56 w.heap.size 1 (.string s)) := ⟨(H.1).below hb, (H.2).below hb⟩
          have SD : Hid (Code8 v56 (some ⟨sb, 0, none⟩) (s.size + 16) F) := ho.code
          clear hb ho
          refine hK.out _ _ H (fun _ => ?_)
          clear hK KK
          change wpAnyH _ _ _ _ _ _ _ { tmps := #[_,_,_,_,_,_,_,_,_,_,_,_,_,_,_,_,_,_,_,_,_,_], defers := _ } _
          refine wpAnyH_ready (rs := [14]) (by kernel_rfl) (by simp) ?_
          refine AllReadyH.cons rfl (fun KK hK => ?_) AllReadyH.nil
          obtain ⟨ag, ac, v57, hr, hm, hb, hag⟩ := appendM v56 (w.heap.size + 1) fb 4 4 U sb 0 (s.size + 16) sc F FH.out SL.out (by have := HS.out; omega) FR.out SD.out 88
          rw [if_pos (by rfl)]
          refine Lib.wp_append_run _ (.tmp 9) (.tmp 20) 88 88 rfl _ _ rfl rfl _ _ hr ?_
          have e20 : 4 + (s.size + 16) = 20 + s.size := by omega
          rw [e20]; rw [e20] at hm hr
          have R9 : Hid (RowM v57 ag (20 + s.size) ac GG) := hm.congr (fun i _ => EF.out i)
          have B9 : Hid (Below w.heap.size w v57) := A1.out.trans (hb.mono (Nat.le_succ _))
          replace H : (CellAt v57 w.heap.size 0 (.int .i64 (ep : Int))) ∧ (CellAt v57 w.heap.size 1 (.string s)) := ⟨(hb.cell (p := ⟨w.heap.size, 0, none⟩) (Nat.lt_succ_self _)).trans (H.1), (hb.cell (p := ⟨w.heap.size, 1, none⟩) (Nat.lt_succ_self _)).trans (H.2)⟩
          have HAG : Hid (w.heap.size ≤ ag) := Nat.le_trans (Nat.le_succ _) hag
          refine hK.out _ _ H (fun _ => ?_)
          clear hK KK hr hm hb hag e20 SZ SL FR CD XC XL SD A1 NE FH XG
          change wpAnyH _ _ _ _ _ _ _ { tmps := #[_,_,_,_,_,_,_,_,_,_,_,_,_,_,_,_,_,_,_,_,_,_], defers := _ } _
          refine wpAnyH_take (i := 15) (v := .slice (some ⟨ag, 0, none⟩) (20 + s.size) ac) rfl (by kernel_rfl) (by kernel_rfl) (by kernel_rfl) (fun _ _ _ h => h) (Or.inl ⟨by rfl, ?_⟩) H ?_
          · intro w' hSw; go_simp
          change wpAnyH _ _ _ _ _ _ _ { tmps := #[_,_,_,_,_,_,_,_,_,_,_,_,_,_,_,_,_,_,_,_,_,_], defers := _ } _
          refine wpAnyH_done (by kernel_rfl) ?_ _
          refine NoPanic.normal ?_
          clear H FO NO SE EF HS
          go_wp2
          go_ret
          exact ⟨⟨ag, ac, rfl, HAG.out, R9.out⟩, B9.out⟩
        · skip
          obtain ⟨v58, hcv, hx, ho, hce⟩ := conv_lit v53 xb LX.out
          go_simp
          have hsz : v53.heap.size ≤ v58.heap.size := ho.size
          replace A1 : Hid (Below w.heap.size w v58) := A1.out.trans (ho.toBelow (Nat.le_of_lt XG.out) A1.out.size)
          have XL : Hid (xb < v58.heap.size) := Nat.lt_of_lt_of_le LX.out.lt ho.size
          replace SZ : Hid (w.heap.size ≤ (v58).heap.size) := Nat.le_trans SZ.out ho.size
          replace SL : Hid (w.heap.size < (v58).heap.size) := Nat.lt_of_lt_of_le SL.out ho.size
          replace FR : Hid (RowM v58 fb 4 4 U) := FR.out.onlyB ho NE.out
          replace CD : Hid (Code8 v58 (some ⟨cb, 0, none⟩) s.size (strB s)) := code8_cells CD.out hce
          replace H : (CellAt v58 w.heap.size 0 (.int .i64 (ep : Int))) ∧ (CellAt v58 w.heap.size 1 (.string s)) := ⟨(hce _).trans (H.1), (hce _).trans (H.2)⟩
          have XC : Hid (Code8 v58 (some ⟨xb, 0, none⟩) 4 slotX) := hx
          clear hcv hx ho hce hsz LX
          refine hK.out _ _ H (fun _ => ?_)
          clear hK KK
          change wpAnyH _ _ _ _ _ _ _ { tmps := #[_,_,_,_,_,_,_,_,_,_,_,_,_,_,_,_,_,_,_,_,_,_], defers := _ } _
          refine wpAnyH_ready (rs := [7]) (by kernel_rfl) (by simp) ?_
          refine (AllReadyH.cons rfl (fun KK hK => ?_) AllReadyH.nil)
          go_simp
          refine (NO.out _).mono ?_
          rintro e v59 ⟨rfl, hb⟩
          replace A1 : Hid (Below w.heap.size w v59) := A1.out.trans (hb.mono A1.out.size)
          replace SZ : Hid (w.heap.size ≤ (v59).heap.size) := Nat.le_trans SZ.out hb.size
          replace SL : Hid (w.heap.size < (v59).heap.size) := Nat.lt_of_lt_of_le SL.out hb.size
          replace FR : Hid (RowM v59 fb 4 4 U) := FR.out.below hb
          replace CD : Hid (Code8 v59 (some ⟨cb, 0, none⟩) s.size (strB s)) := CD.out.below hb
          replace XC : Hid (Code8 v59 (some ⟨xb, 0, none⟩) 4 slotX) := XC.out.below hb
          replace XL : Hid (xb < (v59).heap.size) := Nat.lt_of_lt_of_le XL.out hb.size
          replace H : (CellAt v59 w.heap.size 0 (.int .i64 (ep : Int))) ∧ (CellAt v59 w.heap.size 1 (.string s)) := ⟨(H.1).below hb, (H.2).below hb⟩
          clear hb
          refine hK.out _ _ H (fun _ => ?_)
          clear hK KK
          change wpAnyH _ _ _ _ _ _ _ { tmps := #[_,_,_,_,_,_,_,_,_,_,_,_,_,_,_,_,_,_,_,_,_,_], defers := _ } _
          refine wpAnyH_ready (rs := [13]) (by kernel_rfl) (by simp) ?_
          refine (AllReadyH.cons rfl (fun KK hK => ?_) AllReadyH.nil)
          go_simp
          refine (SE.out _ _ _ _ _ XC.out CD.out).mono ?_
          rintro e v60 ⟨⟨sb, sc, -, rfl, ho⟩, hb⟩
          replace A1 : Hid (Below w.heap.size w v60) := A1.out.trans (hb.mono A1.out.size)
          replace SZ : Hid (w.heap.size ≤ (v60).heap.size) := Nat.le_trans SZ.out hb.size
          replace SL : Hid (w.heap.size < (v60).heap.size) := Nat.lt_of_lt_of_le SL.out hb.size
          replace FR : Hid (RowM v60 fb 4 4 U) := FR.out.below hb
          replace CD : Hid (Code8 v60 (some ⟨cb, 0, none⟩) s.size (strB s)) := CD.out.below hb
          replace XC : Hid (Code8 v60 (some ⟨xb, 0, none⟩) 4 slotX) := XC.out.below hb
          replace XL : Hid (xb < (v60).heap.size) := Nat.lt_of_lt_of_le XL.out hb.size
          replace H : (CellAt v60 w.heap.size 0 (.int .i64 (ep : Int))) ∧ (CellAt v60 w.heap.size 1 (.string s)) := ⟨(H.1).below hb, (H.2).below hb⟩
          have SD : Hid (Code8 v60 (some ⟨sb, 0, none⟩) (s.size + 16) F) := ho.code
          clear hb ho
          refine hK.out _ _ H (fun _ => ?_)
          clear hK KK
          change wpAnyH _ _ _ _ _ _ _ { tmps := #[_,_,_,_,_,_,_,_,_,_,_,_,_,_,_,_,_,_,_,_,_,_], defers := _ } _
          refine wpAnyH_ready (rs := [14]) (by kernel_rfl) (by simp) ?_
          refine AllReadyH.cons rfl (fun KK hK => ?_) AllReadyH.nil
          obtain ⟨ag, ac, v61, hr, hm, hb, hag⟩ := appendM v60 (w.heap.size + 1) fb 4 4 U sb 0 (s.size + 16) sc F FH.out SL.out (by have := HS.out; omega) FR.out SD.out 88
          rw [if_pos (by rfl)]
          refine Lib.wp_append_run _ (.tmp 9) (.tmp 20) 88 88 rfl _ _ rfl rfl _ _ hr ?_
          have e20 : 4 + (s.size + 16) = 20 + s.size := by omega
          rw [e20]; rw [e20] at hm hr
          have R9 : Hid (RowM v61 ag (20 + s.size) ac GG) := hm.congr (fun i _ => EF.out i)
          have B9 : Hid (Below w.heap.size w v61) := A1.out.trans (hb.mono (Nat.le_succ _))
          replace H : (CellAt v61 w.heap.size 0 (.int .i64 (ep : Int))) ∧ (CellAt v61 w.heap.size 1 (.string s)) := ⟨(hb.cell (p := ⟨w.heap.size, 0, none⟩) (Nat.lt_succ_self _)).trans (H.1), (hb.cell (p := ⟨w.heap.size, 1, none⟩) (Nat.lt_succ_self _)).trans (H.2)⟩
          have HAG : Hid (w.heap.size ≤ ag) := Nat.le_trans (Nat.le_succ _) hag
          refine hK.out _ _ H (fun _ => ?_)
          clear hK KK hr hm hb hag e20 SZ SL FR CD XC XL SD A1 NE FH XG
          change wpAnyH _ _ _ _ _ _ _ { tmps := #[_,_,_,_,_,_,_,_,_,_,_,_,_,_,_,_,_,_,_,_,_,_], defers := _ } _
          refine wpAnyH_take (i := 15) (v := .slice (some ⟨ag, 0, none⟩) (20 + s.size) ac) rfl (by kernel_rfl) (by kernel_rfl) (by kernel_rfl) (fun _ _ _ h => h) (Or.inl ⟨by rfl, ?_⟩) H ?_
          · intro w' hSw; go_simp
          change wpAnyH _ _ _ _ _ _ _ { tmps := #[_,_,_,_,_,_,_,_,_,_,_,_,_,_,_,_,_,_,_,_,_,_], defers := _ } _
          refine wpAnyH_done (by kernel_rfl) ?_ _
          refine NoPanic.normal ?_
          clear H FO NO SE EF HS
          go_wp2
          go_ret
          exact ⟨⟨ag, ac, rfl, HAG.out, R9.out⟩, B9.out⟩
  · skip
    have hb : Below v2.heap.size v2 (v2.alloc (.cells #[.int .u8 115, .int .u8 108, .int .u8 111, .int .u8 116] 5)) := (Below.refl _ _).alloc (Nat.le_refl _) _
    have LX : Hid (LitX (v2.alloc (.cells #[.int .u8 115, .int .u8 108, .int .u8 111, .int .u8 116] 5)) v2.heap.size) := LitX.made _
    have XG : Hid (w.heap.size < v2.heap.size) := SL.out
    go_simp
    replace H : (CellAt (v2.alloc (.cells #[.int .u8 115, .int .u8 108, .int .u8 111, .int .u8 116] 5)) w.heap.size 0 (.int .i64 (ep : Int))) ∧ (CellAt (v2.alloc (.cells #[.int .u8 115, .int .u8 108, .int .u8 111, .int .u8 116] 5)) w.heap.size 1 (.string s)) := ⟨(H.1).below hb, (H.2).below hb⟩
    generalize (v2.alloc (.cells #[.int .u8 115, .int .u8 108, .int .u8 111, .int .u8 116] 5)) = v62 at *
    replace A1 : Hid (Below w.heap.size w v62) := A1.out.trans (hb.mono A1.out.size)
    replace SZ : Hid (w.heap.size ≤ (v62).heap.size) := Nat.le_trans SZ.out hb.size
    replace SL : Hid (w.heap.size < (v62).heap.size) := Nat.lt_of_lt_of_le SL.out hb.size
    obtain ⟨xb, hxb⟩ : ∃ x, x = v2.heap.size := ⟨_, rfl⟩
    rw [← hxb] at LX XG ⊢
    clear hb hxb
    refine hK.out _ _ H (fun _ => ?_)
    clear hK KK
    change wpAnyH _ _ _ _ _ _ _ { tmps := #[_,_,_,_,_,_,_,_,_,_,_,_,_,_,_,_,_,_,_,_,_,_], defers := _ } _
    refine wpAnyH_ready (rs := [2, 9, 12]) (by kernel_rfl) (by simp) ?_
    refine (AllReadyH.cons rfl (fun KK hK => ?_) (AllReadyH.cons rfl (fun KK hK => ?_) (AllReadyH.cons rfl (fun KK hK => ?_) AllReadyH.nil)))
    · skip
      go_simp
      have NE : Hid (v62.heap.size ≠ xb) := by have := LX.out.lt; exact fun e => by omega
      have FH : Hid (w.heap.size + 1 ≤ v62.heap.size) := SL.out
      refine (FO.out _).mono ?_
      rintro e v63 ⟨⟨rfl, ho⟩, hb⟩
      replace A1 : Hid (Below w.heap.size w v63) := A1.out.trans (hb.mono A1.out.size)
      replace SZ : Hid (w.heap.size ≤ (v63).heap.size) := Nat.le_trans SZ.out hb.size
      replace SL : Hid (w.heap.size < (v63).heap.size) := Nat.lt_of_lt_of_le SL.out hb.size
      replace LX : Hid (LitX v63 xb) := LX.out.below hb
      have FR : Hid (RowM v63 v62.heap.size 4 4 U) := rowM_of_own8 ho
      replace H : (CellAt v63 w.heap.size 0 (.int .i64 (ep : Int))) ∧ (CellAt v63 w.heap.size 1 (.string s)) := ⟨(H.1).below hb, (H.2).below hb⟩
      obtain ⟨fb, hfb⟩ : ∃ x, x = v62.heap.size := ⟨_, rfl⟩
      rw [← hfb] at FR FH NE ⊢
      clear hb ho hfb
      refine hK.out _ _ H (fun _ => ?_)
      clear hK KK
      change wpAnyH _ _ _ _ _ _ _ { tmps := #[_,_,_,_,_,_,_,_,_,_,_,_,_,_,_,_,_,_,_,_,_,_], defers := _ } _
      refine wpAnyH_ready (rs := [7, 9, 12]) (by kernel_rfl) (by simp) ?_
      refine (AllReadyH.cons rfl (fun KK hK => ?_) (AllReadyH.cons rfl (fun KK hK => ?_) (AllReadyH.cons rfl (fun KK hK => ?_) AllReadyH.nil)))
      · skip
        go_simp
        refine (NO.out _).mono ?_
        rintro e v64 ⟨rfl, hb⟩
        replace A1 : Hid (Below w.heap.size w v64) := A1.out.trans (hb.mono A1.out.size)
        replace SZ : Hid (w.heap.size ≤ (v64).heap.size) := Nat.le_trans SZ.out hb.size
        replace SL : Hid (w.heap.size < (v64).heap.size) := Nat.lt_of_lt_of_le SL.out hb.size
        replace LX : Hid (LitX v64 xb) := LX.out.below hb
        replace FR : Hid (RowM v64 fb 4 4 U) := FR.out.below hb
        replace H : (CellAt v64 w.heap.size 0 (.int .i64 (ep : Int))) ∧ (CellAt v64 w.heap.size 1 (.string s)) := ⟨(H.1).below hb, (H.2).below hb⟩
        clear hb
        refine hK.out _ _ H (fun _ => ?_)
        clear hK KK
        change wpAnyH _ _ _ _ _ _ _ { tmps := #[_,_,_,_,_,_,_,_,_,_,_,_,_,_,_,_,_,_,_,_,_,_], defers := _ } _
        refine wpAnyH_ready (rs := [9, 12]) (by kernel_rfl) (by simp) ?_
        refine (AllReadyH.cons rfl (fun KK hK => ?_) (AllReadyH.cons rfl (fun KK hK => ?_) AllReadyH.nil))
        · skip
          obtain ⟨v65, hcv, hx, ho, hce⟩ := conv_lit v64 xb LX.out
          go_simp
          have hsz : v64.heap.size ≤ v65.heap.size := ho.size
          replace A1 : Hid (Below w.heap.size w v65) := A1.out.trans (ho.toBelow (Nat.le_of_lt XG.out) A1.out.size)
          have XL : Hid (xb < v65.heap.size) := Nat.lt_of_lt_of_le LX.out.lt ho.size
          replace SZ : Hid (w.heap.size ≤ (v65).heap.size) := Nat.le_trans SZ.out ho.size
          replace SL : Hid (w.heap.size < (v65).heap.size) := Nat.lt_of_lt_of_le SL.out ho.size
          replace FR : Hid (RowM v65 fb 4 4 U) := FR.out.onlyB ho NE.out
          replace H : (CellAt v65 w.heap.size 0 (.int .i64 (ep : Int))) ∧ (CellAt v65 w.heap.size 1 (.string s)) := ⟨(hce _).trans (H.1), (hce _).trans (H.2)⟩
          have XC : Hid (Code8 v65 (some ⟨xb, 0, none⟩) 4 slotX) := hx
          clear hcv hx ho hce hsz LX
          refine hK.out _ _ H (fun _ => ?_)
          clear hK KK
          change wpAnyH _ _ _ _ _ _ _ { tmps := #[_,_,_,_,_,_,_,_,_,_,_,_,_,_,_,_,_,_,_,_,_,_], defers := _ } _
          refine wpAnyH_ready (rs := [12]) (by kernel_rfl) (by simp) ?_
          refine (AllReadyH.cons rfl (fun KK hK => ?_) AllReadyH.nil)
          obtain ⟨v66, gc, hcv, hx, hb, hgc⟩ := bytesOfM s v65
          go_simp
          replace A1 : Hid (Below w.heap.size w v66) := A1.out.trans (hb.mono A1.out.size)
          replace SZ : Hid (w.heap.size ≤ (v66).heap.size) := Nat.le_trans SZ.out hb.size
          replace SL : Hid (w.heap.size < (v66).heap.size) := Nat.lt_of_lt_of_le SL.out hb.size
          replace FR : Hid (RowM v66 fb 4 4 U) := FR.out.below hb
          replace XC : Hid (Code8 v66 (some ⟨xb, 0, none⟩) 4 slotX) := XC.out.below hb
          replace XL : Hid (xb < (v66).heap.size) := Nat.lt_of_lt_of_le XL.out hb.size
          replace H : (CellAt v66 w.heap.size 0 (.int .i64 (ep : Int))) ∧ (CellAt v66 w.heap.size 1 (.string s)) := ⟨(H.1).below hb, (H.2).below hb⟩
          have CD : Hid (Code8 v66 (some ⟨v65.heap.size, 0, none⟩) s.size (strB s)) := hx
          obtain ⟨cb, hcb⟩ : ∃ x, x = v65.heap.size := ⟨_, rfl⟩
          rw [← hcb] at CD ⊢
          clear hcv hx hb hcb hgc
          refine hK.out _ _ H (fun _ => ?_)
          clear hK KK
          change wpAnyH _ _ _ _ _ _ _ { tmps := #[_,_,_,_,_,_,_,_,_,_,_,_,_,_,_,_,_,_,_,_,_,_], defers := _ } _
          refine wpAnyH_ready (rs := [13]) (by kernel_rfl) (by simp) ?_
          refine (AllReadyH.cons rfl (fun KK hK => ?_) AllReadyH.nil)
          go_simp
          refine (SE.out _ _ _ _ _ XC.out CD.out).mono ?_
          rintro e v67 ⟨⟨sb, sc, -, rfl, ho⟩, hb⟩
          replace A1 : Hid (Below w.heap.size w v67) := A1.out.trans (hb.mono A1.out.size)
          replace SZ : Hid (w.heap.size ≤ (v67).heap.size) := Nat.le_trans SZ.out hb.size
          replace SL : Hid (w.heap.size < (v67).heap.size) := Nat.lt_of_lt_of_le SL.out hb.size
          replace FR : Hid (RowM v67 fb 4 4 U) := FR.out.below hb
          replace XC : Hid (Code8 v67 (some ⟨xb, 0, none⟩) 4 slotX) := XC.out.below hb
          replace XL : Hid (xb < (v67).heap.size) := Nat.lt_of_lt_of_le XL.out hb.size
          replace CD : Hid (Code8 v67 (some ⟨cb, 0, none⟩) s.size (strB s)) := CD.out.below hb
          replace H : (CellAt v67 w.heap.size 0 (.int .i64 (ep : Int))) ∧ (CellAt v67 w.heap.size 1 (.string s)) := ⟨(H.1).below hb, (H.2).below hb⟩
          have SD : Hid (Code8 v67 (some ⟨sb, 0, none⟩) (s.size + 16) F) := ho.code
          clear hb ho
          refine hK.out _ _ H (fun _ => ?_)
          clear hK KK
          change wpAnyH _ _ _ _ _ _ _ { tmps := #[_,_,_,_,_,_,_,_,_,_,_,_,_,_,_,_,_,_,_,_,_,_], defers := _ } _
          refine wpAnyH_ready (rs := [14]) (by kernel_rfl) (by simp) ?_
          refine AllReadyH.cons rfl (fun KK hK => ?_) AllReadyH.nil
          obtain ⟨ag, ac, v68, hr, hm, hb, hag⟩ := appendM v67 (w.heap.size + 1) fb 4 4 U sb 0 (s.size + 16) sc F FH.out SL.out (by have := HS.out; omega) FR.out SD.out 88
          rw [if_pos (by rfl)]
          refine Lib.wp_append_run _ (.tmp 9) (.tmp 20) 88 88 rfl _ _ rfl rfl _ _ hr ?_
          have e20 : 4 + (s.size + 16) = 20 + s.size := by omega
          rw [e20]; rw [e20] at hm hr
          have R9 : Hid (RowM v68 ag (20 + s.size) ac GG) := hm.congr (fun i _ => EF.out i)
          have B9 : Hid (Below w.heap.size w v68) := A1.out.trans (hb.mono (Nat.le_succ _))
          replace H : (CellAt v68 w.heap.size 0 (.int .i64 (ep : Int))) ∧ (CellAt v68 w.heap.size 1 (.string s)) := ⟨(hb.cell (p := ⟨w.heap.size, 0, none⟩) (Nat.lt_succ_self _)).trans (H.1), (hb.cell (p := ⟨w.heap.size, 1, none⟩) (Nat.lt_succ_self _)).trans (H.2)⟩
          have HAG : Hid (w.heap.size ≤ ag) := Nat.le_trans (Nat.le_succ _) hag
          refine hK.out _ _ H (fun _ => ?_)
          clear hK KK hr hm hb hag e20 SZ SL FR XC XL CD SD A1 NE FH XG
          change wpAnyH _ _ _ _ _ _ _ { tmps := #[_,_,_,_,_,_,_,_,_,_,_,_,_,_,_,_,_,_,_,_,_,_], defers := _ } _
          refine wpAnyH_take (i := 15) (v := .slice (some ⟨ag, 0, none⟩) (20 + s.size) ac) rfl (by kernel_rfl) (by kernel_rfl) (by kernel_rfl) (fun _ _ _ h => h) (Or.inl ⟨by rfl, ?_⟩) H ?_
          · intro w' hSw; go_simp
          change wpAnyH _ _ _ _ _ _ _ { tmps := #[_,_,_,_,_,_,_,_,_,_,_,_,_,_,_,_,_,_,_,_,_,_], defers := _ } _
          refine wpAnyH_done (by kernel_rfl) ?_ _
          refine NoPanic.normal ?_
          clear H FO NO SE EF HS
          go_wp2
          go_ret
          exact ⟨⟨ag, ac, rfl, HAG.out, R9.out⟩, B9.out⟩
        · skip
          obtain ⟨v69, gc, hcv, hx, hb, hgc⟩ := bytesOfM s v64
          go_simp
          replace A1 : Hid (Below w.heap.size w v69) := A1.out.trans (hb.mono A1.out.size)
          replace SZ : Hid (w.heap.size ≤ (v69).heap.size) := Nat.le_trans SZ.out hb.size
          replace SL : Hid (w.heap.size < (v69).heap.size) := Nat.lt_of_lt_of_le SL.out hb.size
          replace LX : Hid (LitX v69 xb) := LX.out.below hb
          replace FR : Hid (RowM v69 fb 4 4 U) := FR.out.below hb
          replace H : (CellAt v69 w.heap.size 0 (.int .i64 (ep : Int))) ∧ (CellAt v69 w.heap.size 1 (.string s)) := ⟨(H.1).below hb, (H.2).below hb⟩
          have CD : Hid (Code8 v69 (some ⟨v64.heap.size, 0, none⟩) s.size (strB s)) := hx
          obtain ⟨cb, hcb⟩ : ∃ x, x = v64.heap.size := ⟨_, rfl⟩
          rw [← hcb] at CD ⊢
          clear hcv hx hb hcb hgc
          refine hK.out _ _ H (fun _ => ?_)
          clear hK KK
          change wpAnyH _ _ _ _ _ _ _ { tmps := #[_,_,_,_,_,_,_,_,_,_,_,_,_,_,_,_,_,_,_,_,_,_], defers := _ } _
          refine wpAnyH_ready (rs := [9]) (by kernel_rfl) (by simp) ?_
          refine (AllReadyH.cons rfl (fun KK hK => ?_) AllReadyH.nil)
          obtain ⟨v70, hcv, hx, ho, hce⟩ := conv_lit v69 xb LX.out
          go_simp
          have hsz : v69.heap.size ≤ v70.heap.size := ho.size
          replace A1 : Hid (Below w.heap.size w v70) := A1.out.trans (ho.toBelow (Nat.le_of_lt XG.out) A1.out.size)
          have XL : Hid (xb < v70.heap.size) := Nat.lt_of_lt_of_le LX.out.lt ho.size
          replace SZ : Hid (w.heap.size ≤ (v70).heap.size) := Nat.le_trans SZ.out ho.size
          replace SL : Hid (w.heap.size < (v70).heap.size) := Nat.lt_of_lt_of_le SL.out ho.size
          replace FR : Hid (RowM v70 fb 4 4 U) := FR.out.onlyB ho NE.out
          replace CD : Hid (Code8 v70 (some ⟨cb, 0, none⟩) s.size (strB s)) := code8_cells CD.out hce
          replace H : (CellAt v70 w.heap.size 0 (.int .i64 (ep : Int))) ∧ (CellAt v70 w.heap.size 1 (.string s)) := ⟨(hce _).trans (H.1), (hce _).trans (H.2)⟩
          have XC : Hid (Code8 v70 (some ⟨xb, 0, none⟩) 4 slotX) := hx
          clear hcv hx ho hce hsz LX
          refine hK.out _ _ H (fun _ => ?_)
          clear hK KK
          change wpAnyH _ _ _ _ _ _ _ { tmps := #[_,_,_,_,_,_,_,_,_,_,_,_,_,_,_,_,_,_,_,_,_,_], defers := _ } _
          refine wpAnyH_ready (rs := [13]) (by kernel_rfl) (by simp) ?_
          refine (AllReadyH.cons rfl (fun KK hK => ?_) AllReadyH.nil)
          go_simp
          refine (SE.out _ _ _ _ _ XC.out CD.out).mono ?_
          rintro e v71 ⟨⟨sb, sc, -, rfl, ho⟩, hb⟩
          replace A1 : Hid (Below w.heap.size w v71) := A1.out.trans (hb.mono A1.out.size)
          replace SZ : Hid (w.heap.size ≤ (v71).heap.size) := Nat.le_trans SZ.out hb.size
          replace SL : Hid (w.heap.size < (v71).heap.size) := Nat.lt_of_lt_of_le SL.out hb.size
          replace FR : Hid (RowM v71 fb 4 4 U) := FR.out.below hb
          replace CD : Hid (Code8 v71 (some ⟨cb, 0, none⟩) s.size (strB s)) := CD.out.below hb
          replace XC : Hid (Code8 v71 (some ⟨xb, 0, none⟩) 4 slotX) := XC.out.below hb
          replace XL : Hid (xb < (v71).heap.size) := Nat.lt_of_lt_of_le XL.out hb.size
          replace H : (CellAt v71 w.heap.size 0 (.int .i64 (ep : Int))) ∧ (CellAt v71 w.heap.size 1 (.string s)) := ⟨(H.1).below hb, (H.2).below hb⟩
          have SD : Hid (Code8 v71 (some ⟨sb, 0, none⟩) (s.size + 16) F) := ho.code
          clear hb ho
          refine hK.out _ _ H (fun _ => ?_)
          clear hK KK
          change wpAnyH _ _ _ _ _ _ _ { tmps := #[_,_,_,_,_,_,_,_,_,_,_,_,_,_,_,_,_,_,_,_,_,_], defers := _ } _
          refine wpAnyH_ready (rs := [14]) (by kernel_rfl) (by simp) ?_
          refine AllReadyH.cons rfl (fun KK hK => ?_) AllReadyH.nil
          obtain ⟨ag, ac, v72, hr, hm, hb, hag⟩ := appendM v71 (w.heap.size + 1) fb 4 4 U sb 0 (s.size + 16) sc F FH.out SL.out (by have := HS.out; omega) FR.out SD.out 88
          rw [if_pos (by rfl)]
          refine Lib.wp_append_run _ (.tmp 9) (.tmp 20) 88 88 rfl _ _ rfl rfl _ _ hr ?_
          have e20 : 4 + (s.size + 16) = 20 + s.size := by omega
          rw [e20]; rw [e20] at hm hr
          have R9 : Hid (RowM v72 ag (20 + s.size) ac GG) := hm.congr (fun i _ => EF.out i)
          have B9 : Hid (Below w.heap.size w v72) := A1.out.trans (hb.mono (Nat.le_succ _))
          replace H : (CellAt v72 w.heap.size 0 (.int .i64 (ep : Int))) ∧ (CellAt v72 w.heap.size 1 (.string s)) := ⟨(hb.cell (p := ⟨w.heap.size, 0, none⟩) (Nat.lt_succ_self _)).trans (H.1), (hb.cell (p := ⟨w.heap.size, 1, none⟩) (Nat.lt_succ_self _)).trans (H.2)⟩
          have HAG : Hid (w.heap.size ≤ ag) := Nat.le_trans (Nat.le_succ _) hag
          refine hK.out _ _ H (fun _ => ?_)
          clear hK KK hr hm hb hag e20 SZ SL FR CD XC XL SD A1 NE FH XG
          change wpAnyH _ _ _ _ _ _ _ { tmps := #[_,_,_,_,_,_,_,_,_,_,_,_,_,_,_,_,_,_,_,_,_,_], defers := _ } _
          refine wpAnyH_take (i := 15) (v := .slice (some ⟨ag, 0, none⟩) (20 + s.size) ac) rfl (by kernel_rfl) (by kernel_rfl) (by kernel_rfl) (fun _ _ _ h => h) (Or.inl ⟨by rfl, ?_⟩) H ?_
          · intro w' hSw; go_simp
          change wpAnyH _ _ _ _ _ _ _ { tmps := #[_,_,_,_,_,_,_,_,_,_,_,_,_,_,_,_,_,_,_,_,_,_], defers := _ } _
          refine wpAnyH_done (by kernel_rfl) ?_ _
          refine NoPanic.normal ?_
          clear H FO NO SE EF HS
          go_wp2
          go_ret
          exact ⟨⟨ag, ac, rfl, HAG.out, R9.out⟩, B9.out⟩
      · skip
        obtain ⟨v73, hcv, hx, ho, hce⟩ := conv_lit v63 xb LX.out
        go_simp
        have hsz : v63.heap.size ≤ v73.heap.size := ho.size
        replace A1 : Hid (Below w.heap.size w v73) := A1.out.trans (ho.toBelow (Nat.le_of_lt XG.out) A1.out.size)
        have XL : Hid (xb < v73.heap.size) := Nat.lt_of_lt_of_le LX.out.lt ho.size
        replace SZ : Hid (w.heap.size ≤ (v73).heap.size) := Nat.le_trans SZ.out ho.size
        replace SL : Hid (w.heap.size < (v73).heap.size) := Nat.lt_of_lt_of_le SL.out ho.size
        replace FR : Hid (RowM v73 fb 4 4 U) := FR.out.onlyB ho NE.out
        replace H : (CellAt v73 w.heap.size 0 (.int .i64 (ep : Int))) ∧ (CellAt v73 w.heap.size 1 (.string s)) := ⟨(hce _).trans (H.1), (hce _).trans (H.2)⟩
        have XC : Hid (Code8 v73 (some ⟨xb, 0, none⟩) 4 slotX) := hx
        clear hcv hx ho hce hsz LX
        refine hK.out _ _ H (fun _ => ?_)
        clear hK KK
        change wpAnyH _ _ _ _ _ _ _ { tmps := #[_,_,_,_,_,_,_,_,_,_,_,_,_,_,_,_,_,_,_,_,_,_], defers := _ } _
        refine wpAnyH_ready (rs := [7, 12]) (by kernel_rfl) (by simp) ?_
        refine (AllReadyH.cons rfl (fun KK hK => ?_) (AllReadyH.cons rfl (fun KK hK => ?_) AllReadyH.nil))
        · skip
          go_simp
          refine (NO.out _).mono ?_
          rintro e v74 ⟨rfl, hb⟩
          replace A1 : Hid (Below w.heap.size w v74) := A1.out.trans (hb.mono A1.out.size)
          replace SZ : Hid (w.heap.size ≤ (v74).heap.size) := Nat.le_trans SZ.out hb.size
          replace SL : Hid (w.heap.size < (v74).heap.size) := Nat.lt_of_lt_of_le SL.out hb.size
          replace FR : Hid (RowM v74 fb 4 4 U) := FR.out.below hb
          replace XC : Hid (Code8 v74 (some ⟨xb, 0, none⟩) 4 slotX) := XC.out.below hb
          replace XL : Hid (xb < (v74).heap.size) := Nat.lt_of_lt_of_le XL.out hb.size
          replace H : (CellAt v74 w.heap.size 0 (.int .i64 (ep : Int))) ∧ (CellAt v74 w.heap.size 1 (.string s)) := ⟨(H.1).below hb, (H.2).below hb⟩
          clear hb
          refine hK.out _ _ H (fun _ => ?_)
          clear hK KK
          change wpAnyH _ _ _ _ _ _ _ { tmps := #[_,_,_,_,_,_,_,_,_,_,_,_,_,_,_,_,_,_,_,_,_,_], defers := _ } _
          refine wpAnyH_ready (rs := [12]) (by kernel_rfl) (by simp) ?_
          refine (AllReadyH.cons rfl (fun KK hK => ?_) AllReadyH.nil)
          obtain ⟨v75, gc, hcv, hx, hb, hgc⟩ := bytesOfM s v74
          go_simp
          replace A1 : Hid (Below w.heap.size w v75) := A1.out.trans (hb.mono A1.out.size)
          replace SZ : Hid (w.heap.size ≤ (v75).heap.size) := Nat.le_trans SZ.out hb.size
          replace SL : Hid (w.heap.size < (v75).heap.size) := Nat.lt_of_lt_of_le SL.out hb.size
          replace FR : Hid (RowM v75 fb 4 4 U) := FR.out.below hb
          replace XC : Hid (Code8 v75 (some ⟨xb, 0, none⟩) 4 slotX) := XC.out.below hb
          replace XL : Hid (xb < (v75).heap.size) := Nat.lt_of_lt_of_le XL.out hb.size
          replace H : (CellAt v75 w.heap.size 0 (.int .i64 (ep : Int))) ∧ (CellAt v75 w.heap.size 1 (.string s)) := ⟨(H.1).below hb, (H.2).below hb⟩
          have CD : Hid (Code8 v75 (some ⟨v74.heap.size, 0, none⟩) s.size (strB s)) := hx
          obtain ⟨cb, hcb⟩ : ∃ x, x = v74.heap.size := ⟨_, rfl⟩
          rw [← hcb] at CD ⊢
          clear hcv hx hb hcb hgc
          refine hK.out _ _ H (fun _ => ?_)
          clear hK KK
          change wpAnyH _ _ _ _ _ _ _ { tmps := #[_,_,_,_,_,_,_,_,_,_,_,_,_,_,_,_,_,_,_,_,_,_], defers := _ } _
          refine wpAnyH_ready (rs := [13]) (by kernel_rfl) (by simp) ?_
          refine (AllReadyH.cons rfl (fun KK hK => ?_) AllReadyH.nil)
          go_simp
          refine (SE.out _ _ _ _ _ XC.out CD.out).mono ?_
          rintro e v76 ⟨⟨sb, sc, -, rfl, ho⟩, hb⟩
          replace A1 : Hid (Below w.heap.size w v76) := A1.out.trans (hb.mono A1.out.size)
          replace SZ : Hid (w.heap.size ≤ (v76).heap.size) := Nat.le_trans SZ.out hb.size
          replace SL : Hid (w.heap.size < (v76).heap.size) := Nat.lt_of_lt_of_le SL.out hb.size
          replace FR : Hid (RowM v76 fb 4 4 U) := FR.out.below hb
          replace XC : Hid (Code8 v76 (some ⟨xb, 0, none⟩) 4 slotX) := XC.out.below hb
          replace XL : Hid (xb < (v76).heap.size) := Nat.lt_of_lt_of_le XL.out hb.size
          replace CD : Hid (Code8 v76 (some ⟨cb, 0, none⟩) s.size (strB s)) := CD.out.below hb
          replace H : (CellAt v76 w.heap.size 0 (.int .i64 (ep : Int))) ∧ (CellAt v76 w.heap.size 1 (.string s)) := ⟨(H.1).below hb, (H.2).below hb⟩
          have SD : Hid (Code8 v76 (some ⟨sb, 0, none⟩) (s.size + 16) F) := ho.code
          clear hb ho
          refine hK.out _ _ H (fun _ => ?_)
          clear hK KK
          change wpAnyH _ _ _ _ _ _ _ { tmps := #[_,_,_,_,_,_,_,_,_,_,_,_,_,_,_,_,_,_,_,_,_,_], defers := _ } _
          refine wpAnyH_ready (rs := [14]) (by kernel_rfl) (by simp) ?_
          refine AllReadyH.cons rfl (fun KK hK => ?_) AllReadyH.nil
          obtain ⟨ag, ac, v77, hr, hm, hb, hag⟩ := appendM v76 (w.heap.size + 1) fb 4 4 U sb 0 (s.size + 16) sc F FH.out SL.out (by have := HS.out; omega) FR.out SD.out 88
          rw [if_pos (by rfl)]
          refine Lib.wp_append_run _ (.tmp 9) (.tmp 20) 88 88 rfl _ _ rfl rfl _ _ hr ?_
          have e20 : 4 + (s.size + 16) = 20 + s.size := by omega
          rw [e20]; rw [e20] at hm hr
          have R9 : Hid (RowM v77 ag (20 + s.size) ac GG) := hm.congr (fun i _ => EF.out i)
          have B9 : Hid (Below w.heap.size w v77) := A1.out.trans (hb.mono (Nat.le_succ _))
          replace H : (CellAt v77 w.heap.size 0 (.int .i64 (ep : Int))) ∧ (CellAt v77 w.heap.size 1 (.string s)) := ⟨(hb.cell (p := ⟨w.heap.size, 0, none⟩) (Nat.lt_succ_self _)).trans (H.1), (hb.cell (p := ⟨w.heap.size, 1, none⟩) (Nat.lt_succ_self _)).trans (H.2)⟩
          have HAG : Hid (w.heap.size ≤ ag) := Nat.le_trans (Nat.le_succ _) hag
          refine hK.out _ _ H (fun _ => ?_)
          clear hK KK hr hm hb hag e20 SZ SL FR XC XL CD SD A1 NE FH XG
          change wpAnyH _ _ _ _ _ _ _ { tmps := #[_,_,_,_,_,_,_,_,_,_,_,_,_,_,_,_,_,_,_,_,_,_], defers := _ } _
          refine wpAnyH_take (i := 15) (v := .slice (some ⟨ag, 0, none⟩) (20 + s.size) ac) rfl (by kernel_rfl) (by kernel_rfl) (by kernel_rfl) (fun _ _ _ h => h) (Or.inl ⟨by rfl, ?_⟩) H ?_
          · intro w' hSw; go_simp
          change wpAnyH _ _ _ _ _ _ _ { tmps := #[_,_,_,_,_,_,_,_,_,_,_,_,_,_,_,_,_,_,_,_,_,_], defers := _ } _
          refine wpAnyH_done (by kernel_rfl) ?_ _
          refine NoPanic.normal ?_
          clear H FO NO SE EF HS
          go_wp2
          go_ret
          exact ⟨⟨ag, ac, rfl, HAG.out, R9.out⟩, B9.out⟩
        · skip
          obtain ⟨v78, gc, hcv, hx, hb, hgc⟩ := bytesOfM s v73
          go_simp
          replace A1 : Hid (Below w.heap.size w v78) := A1.out.trans (hb.mono A1.out.size)
          replace SZ : Hid (w.heap.size ≤ (v78).heap.size) := Nat.le_trans SZ.out hb.size
          replace SL : Hid (w.heap.size < (v78).heap.size) := Nat.lt_of_lt_of_le SL.out hb.size
          replace FR : Hid (RowM v78 fb 4 4 U) := FR.out.below hb
          replace XC : Hid (Code8 v78 (some ⟨xb, 0, none⟩) 4 slotX) := XC.out.below hb
          replace XL : Hid (xb < (v78).heap.size) := Nat.lt_of_lt_of_le XL.out hb.size
          replace H : (CellAt v78 w.heap.size 0 (.int .i64 (ep : Int))) ∧ (CellAt v78 w.heap.size 1 (.string s)) := ⟨(H.1).below hb, (H.2).below hb⟩
          have CD : Hid (Code8 v78 (some ⟨v73.heap.size, 0, none⟩) s.size (strB s)) := hx
          obtain ⟨cb, hcb⟩ : ∃ x, x = v73.heap.size := ⟨_, rfl⟩
          rw [← hcb] at CD ⊢
          clear hcv hx hb hcb hgc
          refine hK.out _ _ H (fun _ => ?_)
          clear hK KK
          change wpAnyH _ _ _ _ _ _ _ { tmps := #[_,_,_,_,_,_,_,_,_,_,_,_,_,_,_,_,_,_,_,_,_,_], defers := _ } _
          refine wpAnyH_ready (rs := [7]) (by kernel_rfl) (by simp) ?_
          refine (AllReadyH.cons rfl (fun KK hK => ?_) AllReadyH.nil)
          go_simp
          refine (NO.out _).mono ?_
          rintro e v79 ⟨rfl, hb⟩
          replace A1 : Hid (Below w.heap.size w v79) := A1.out.trans (hb.mono A1.out.size)
          replace SZ : Hid (w.heap.size ≤ (v79).heap.size) := Nat.le_trans SZ.out hb.size
          replace SL : Hid (w.heap.size < (v79).heap.size) := Nat.lt_of_lt_of_le SL.out hb.size
          replace FR : Hid (RowM v79 fb 4 4 U) := FR.out.below hb
          replace XC : Hid (Code8 v79 (some ⟨xb, 0, none⟩) 4 slotX) := XC.out.below hb
          replace XL : Hid (xb < (v79).heap.size) := Nat.lt_of_lt_of_le XL.out hb.size
          replace CD : Hid (Code8 v79 (some ⟨cb, 0, none⟩) s.size (strB s)) := CD.out.below hb
          replace H : (CellAt v79 w.heap.size 0 (.int .i64 (ep : Int))) ∧ (CellAt v79 w.heap.size 1 (.string s)) := ⟨(H.1).below hb, (H.2).below hb⟩
          clear hb
          refine hK.out _ _ H (fun _ => ?_)
          clear hK KK
          change wpAnyH _ _ _ _ _ _ _ { tmps := #[_,_,_,_,_,_,_,_,_,_,_,_,_,_,_,_,_,_,_,_,_,_], defers := _ } _
          refine wpAnyH_ready (rs := [13]) (by kernel_rfl) (by simp) ?_
          refine (AllReadyH.cons rfl (fun KK hK => ?_) AllReadyH.nil)
          go_simp
          refine (SE.out _ _ _ _ _ XC.out CD.out).mono ?_
          rintro e v80 ⟨⟨sb, sc, -, rfl, ho⟩, hb⟩
          replace A1 : Hid (Below w.heap.size w v80) := A1.out.trans (hb.mono A1.out.size)
          replace SZ : Hid (w.heap.size ≤ (v80).heap.size) := Nat.le_trans SZ.out hb.size
          replace SL : Hid (w.heap.size < (v80).heap.size) := Nat.lt_of_lt_of_le SL.out hb.size
          replace FR : Hid (RowM v80 fb 4 4 U) := FR.out.below hb
          replace XC : Hid (Code8 v80 (some ⟨xb, 0, none⟩) 4 slotX) := XC.out.below hb
          replace XL : Hid (xb < (v80).heap.size) := Nat.lt_of_lt_of_le XL.out hb.size
          replace CD : Hid (Code8 v80 (some ⟨cb, 0, none⟩) s.size (strB s)) := CD.out.below hb
          replace H : (CellAt v80 w.heap.size 0 (.int .i64 (ep : Int))) ∧ (CellAt v80 w.heap.size 1 (.string s)) := ⟨(H.1).below hb, (H.2).below hb⟩
          have SD : Hid (Code8 v80 (some ⟨sb, 0, none⟩) (s.size + 16) F) := ho.code
          clear hb ho
          refine hK.out _ _ H (fun _ => ?_)
          clear hK KK
          change wpAnyH _ _ _ _ _ _ _ { tmps := #[_,_,_,_,_,_,_,_,_,_,_,_,_,_,_,_,_,_,_,_,_,_], defers := _ } _
          refine wpAnyH_ready (rs := [14]) (by kernel_rfl) (by simp) ?_
          refine AllReadyH.cons rfl (fun KK hK => ?_) AllReadyH.nil
          obtain ⟨ag, ac, v81, hr, hm, hb, hag⟩ := appendM v80 (w.heap.size + 1) fb 4 4 U sb 0 (s.size + 16) sc F FH.out SL.out (by have := HS.out; omega) FR.out SD.out 88
          rw [if_pos (by rfl)]
          refine Lib.wp_append_run _ (.tmp 9) (.tmp 20) 88 88 rfl _ _ rfl rfl _ _ hr ?_
          have e20 : 4 + (s.size + 16) = 20 + s.size := by omega
          rw [e20]; rw [e20] at hm hr
          have R9 : Hid (RowM v81 ag (20 + s.size) ac GG) := hm.congr (fun i _ => EF.out i)
          have B9 : Hid (Below w.heap.size w v81) := A1.out.trans (hb.mono (Nat.le_succ _))
          replace H : (CellAt v81 w.heap.size 0 (.int .i64 (ep : Int))) ∧ (CellAt v81 w.heap.size 1 (.string s)) := ⟨(hb.cell (p := ⟨w.heap.size, 0, none⟩) (Nat.lt_succ_self _)).trans (H.1), (hb.cell (p := ⟨w.heap.size, 1, none⟩) (Nat.lt_succ_self _)).trans (H.2)⟩
          have HAG : Hid (w.heap.size ≤ ag) := Nat.le_trans (Nat.le_succ _) hag
          refine hK.out _ _ H (fun _ => ?_)
          clear hK KK hr hm hb hag e20 SZ SL FR XC XL CD SD A1 NE FH XG
          change wpAnyH _ _ _ _ _ _ _ { tmps := #[_,_,_,_,_,_,_,_,_,_,_,_,_,_,_,_,_,_,_,_,_,_], defers := _ } _
          refine wpAnyH_take (i := 15) (v := .slice (some ⟨ag, 0, none⟩) (20 + s.size) ac) rfl (by kernel_rfl) (by kernel_rfl) (by kernel_rfl) (fun _ _ _ h => h) (Or.inl ⟨by rfl, ?_⟩) H ?_
          · intro w' hSw; go_simp
          change wpAnyH _ _ _ _ _ _ _ { tmps := #[_,_,_,_,_,_,_,_,_,_,_,_,_,_,_,_,_,_,_,_,_,_], defers := _ } _
          refine wpAnyH_done (by kernel_rfl) ?_ _
          refine NoPanic.normal ?_
          clear H FO NO SE EF HS
          go_wp2
          go_ret
          exact ⟨⟨ag, ac, rfl, HAG.out, R9.out⟩, B9.out⟩
      · skip
        obtain ⟨v82, gc, hcv, hx, hb, hgc⟩ := bytesOfM s v63
        go_simp
        replace A1 : Hid (Below w.heap.size w v82) := A1.out.trans (hb.mono A1.out.size)
        replace SZ : Hid (w.heap.size ≤ (v82).heap.size) := Nat.le_trans SZ.out hb.size
        replace SL : Hid (w.heap.size < (v82).heap.size) := Nat.lt_of_lt_of_le SL.out hb.size
        replace LX : Hid (LitX v82 xb) := LX.out.below hb
        replace FR : Hid (RowM v82 fb 4 4 U) := FR.out.below hb
        replace H : (CellAt v82 w.heap.size 0 (.int .i64 (ep : Int))) ∧ (CellAt v82 w.heap.size 1 (.string s)) := ⟨(H.1).below hb, (H.2).below hb⟩
        have CD : Hid (Code8 v82 (some ⟨v63.heap.size, 0, none⟩) s.size (strB s)) := hx
        obtain ⟨cb, hcb⟩ : ∃ x, x = v63.heap.size := ⟨_, rfl⟩
        rw [← hcb] at CD ⊢
        clear hcv hx hb hcb hgc
        refine hK.out _ _ H (fun _ => ?_)
        clear hK KK
        change wpAnyH _ _ _ _ _ _ _ { tmps := #[_,_,_,_,_,_,_,_,_,_,_,_,_,_,_,_,_,_,_,_,_,_], defers := _ } _
        refine wpAnyH_ready (rs := [7, 9]) (by kernel_rfl) (by simp) ?_
        refine (AllReadyH.cons rfl (fun KK hK => ?_) (AllReadyH.cons rfl (fun KK hK => ?_) AllReadyH.nil))
        · skip
          go_simp
          refine (NO.out _).mono ?_
          rintro e v83 ⟨rfl, hb⟩
          replace A1 : Hid (Below w.heap.size w v83) := A1.out.trans (hb.mono A1.out.size)
          replace SZ : Hid (w.heap.size ≤ (v83).heap.size) := Nat.le_trans SZ.out hb.size
          replace SL : Hid (w.heap.size < (v83).heap.size) := Nat.lt_of_lt_of_le SL.out hb.size
          replace LX : Hid (LitX v83 xb) := LX.out.below hb
          replace FR : Hid (RowM v83 fb 4 4 U) := FR.out.below hb
          replace CD : Hid (Code8 v83 (some ⟨cb, 0, none⟩) s.size (strB s)) := CD.out.below hb
          replace H : (CellAt v83 w.heap.size 0 (.int .i64 (ep : Int))) ∧ (CellAt v83 w.heap.size 1 (.string s)) := ⟨(H.1).below hb, (H.2).below hb⟩
          clear hb
          refine hK.out _ _ H (fun _ => ?_)
          clear hK KK
          change wpAnyH _ _ _ _ _ _ _ { tmps := #[_,_,_,_,_,_,_,_,_,_,_,_,_,_,_,_,_,_,_,_,_,_], defers := _ } _
          refine wpAnyH_ready (rs := [9]) (by kernel_rfl) (by simp) ?_
          refine (AllReadyH.cons rfl (fun KK hK => ?_) AllReadyH.nil)
          obtain ⟨v84, hcv, hx, ho, hce⟩ := conv_lit v83 xb LX.out
          go_simp
          have hsz : v83.heap.size ≤ v84.heap.size := ho.size
          replace A1 : Hid (Below w.heap.size w v84) := A1.out.trans (ho.toBelow (Nat.le_of_lt XG.out) A1.out.size)
          have XL : Hid (xb < v84.heap.size) := Nat.lt_of_lt_of_le LX.out.lt ho.size
          replace SZ : Hid (w.heap.size ≤ (v84).heap.size) := Nat.le_trans SZ.out ho.size
          replace SL : Hid (w.heap.size < (v84).heap.size) := Nat.lt_of_lt_of_le SL.out ho.size
          replace FR : Hid (RowM v84 fb 4 4 U) := FR.out.onlyB ho NE.out
          replace CD : Hid (Code8 v84 (some ⟨cb, 0, none⟩) s.size (strB s)) := code8_cells CD.out hce
          replace H : (CellAt v84 w.heap.size 0 (.int .i64 (ep : Int))) ∧ (CellAt v84 w.heap.size 1 (.string s)) := ⟨(hce _).trans (H.1), (hce _).trans (H.2)⟩
          have XC : Hid (Code8 v84 (some ⟨xb, 0, none⟩) 4 slotX) := hx
          clear hcv hx ho hce hsz LX
          refine hK.out _ _ H (fun _ => ?_)
          clear hK KK
          change wpAnyH _ _ _ _ _ _ _ { tmps := #[_,_,_,_,_,_,_,_,_,_,_,_,_,_,_,_,_,_,_,_,_,_], defers := _ } _
          refine wpAnyH_ready (rs := [13]) (by kernel_rfl) (by simp) ?_
          refine (AllReadyH.cons rfl (fun KK hK => ?_) AllReadyH.nil)
          go_simp
          refine (SE.out _ _ _ _ _ XC.out CD.out).mono ?_
          rintro e v85 ⟨⟨sb, sc, -, rfl, ho⟩, hb⟩
          replace A1 : Hid (Below w.heap.size w v85) := A1.out.trans (hb.mono A1.out.size)
          replace SZ : Hid (w.heap.size ≤ (v85).heap.size) := Nat.le_trans SZ.out hb.size
          replace SL : Hid (w.heap.size < (v85).heap.size) := Nat.lt_of_lt_of_le SL.out hb.size
          replace FR : Hid (RowM v85 fb 4 4 U) := FR.out.below hb
          replace CD : Hid (Code8 v85 (some ⟨cb, 0, none⟩) s.size (strB s)) := CD.out.below hb
          replace XC : Hid (Code8 v85 (some ⟨xb, 0, none⟩) 4 slotX) := XC.out.below hb
          replace XL : Hid (xb < (v85).heap.size) := Nat.lt_of_lt_of_le XL.out hb.size
          replace H : (CellAt v85 w.heap.size 0 (.int .i64 (ep : Int))) ∧ (CellAt v85 w.heap.size 1 (.string s)) := ⟨(H.1).below hb, (H.2).below hb⟩
          have SD : Hid (Code8 v85 (some ⟨sb, 0, none⟩) (s.size + 16) F) := ho.code
          clear hb ho
          refine hK.out _ _ H (fun _ => ?_)
          clear hK KK
          change wpAnyH _ _ _ _ _ _ _ { tmps := #[_,_,_,_,_,_,_,_,_,_,_,_,_,_,_,_,_,_,_,_,_,_], defers := _ } _
          refine wpAnyH_ready (rs := [14]) (by kernel_rfl) (by simp) ?_
          refine AllReadyH.cons rfl (fun KK hK => ?_) AllReadyH.nil
          obtain ⟨ag, ac, v86, hr, hm, hb, hag⟩ := appendM v85 (w.heap.size + 1) fb 4 4 U sb 0 (s.size + 16) sc F FH.out SL.out (by have := HS.out; omega) FR.out SD.out 88
          rw [if_pos (by rfl)]
          refine Lib.wp_append_run _ (.tmp 9) (.tmp 20) 88 88 rfl _ _ rfl rfl _ _ hr ?_
          have e20 : 4 + (s.size + 16) = 20 + s.size := by omega
          rw [e20]; rw [e20] at hm hr
          have R9 : Hid (RowM v86 ag (20 + s.size) ac GG) := hm.congr (fun i _ => EF.out i)
          have B9 : Hid (Below w.heap.size w v86) := A1.out.trans (hb.mono (Nat.le_succ _))
          replace H : (CellAt v86 w.heap.size 0 (.int .i64 (ep : Int))) ∧ (CellAt v86 w.heap.size 1 (.string s)) := ⟨(hb.cell (p := ⟨w.heap.size, 0, none⟩) (Nat.lt_succ_self _)).trans (H.1), (hb.cell (p := ⟨w.heap.size, 1, none⟩) (Nat.lt_succ_self _)).trans (H.2)⟩
          have HAG : Hid (w.heap.size ≤ ag) := Nat.le_trans (Nat.le_succ _) hag
          refine hK.out _ _ H (fun _ => ?_)
          clear hK KK hr hm hb hag e20 SZ SL FR CD XC XL SD A1 NE FH XG
          change wpAnyH _ _ _ _ _ _ _ { tmps := #[_,_,_,_,_,_,_,_,_,_,_,_,_,_,_,_,_,_,_,_,_,_], defers := _ } _
          refine wpAnyH_take (i := 15) (v := .slice (some ⟨ag, 0, none⟩) (20 + s.size) ac) rfl (by kernel_rfl) (by kernel_rfl) (by kernel_rfl) (fun _ _ _ h => h) (Or.inl ⟨by rfl, ?_⟩) H ?_
          · intro w' hSw; go_simp
          change wpAnyH _ _ _ _ _ _ _ { tmps := #[_,_,_,_,_,_,_,_,_,_,_,_,_,_,_,_,_,_,_,_,_,_], defers := _ } _
          refine wpAnyH_done (by kernel_rfl) ?_ _
          refine NoPanic.normal ?_
          clear H FO NO SE EF HS
          go_wp2
          go_ret
          exact ⟨⟨ag, ac, rfl, HAG.out, R9.out⟩, B9.out⟩
        · skip
          obtain ⟨v87, hcv, hx, ho, hce⟩ := conv_lit v82 xb LX.out
          go_simp
          have hsz : v82.heap.size ≤ v87.heap.size := ho.size
          replace A1 : Hid (Below w.heap.size w v87) := A1.out.trans (ho.toBelow (Nat.le_of_lt XG.out) A1.out.size)
          have XL : Hid (xb < v87.heap.size) := Nat.lt_of_lt_of_le LX.out.lt ho.size
          replace SZ : Hid (w.heap.size ≤ (v87).heap.size) := Nat.le_trans SZ.out ho.size
          replace SL : Hid (w.heap.size < (v87).heap.size) := Nat.lt_of_lt_of_le SL.out ho.size
          replace FR : Hid (RowM v87 fb 4 4 U) := FR.out.onlyB ho NE.out
          replace CD : Hid (Code8 v87 (some ⟨cb, 0, none⟩) s.size (strB s)) := code8_cells CD.out hce
          replace H : (CellAt v87 w.heap.size 0 (.int .i64 (ep : Int))) ∧ (CellAt v87 w.heap.size 1 (.string s)) := ⟨(hce _).trans (H.1), (hce _).trans (H.2)⟩
          have XC : Hid (Code8 v87 (some ⟨xb, 0, none⟩) 4 slotX) := hx
          clear hcv hx ho hce hsz LX
          refine hK.out _ _ H (fun _ => ?_)
          clear hK KK
          change wpAnyH _ _ _ _ _ _ _ { tmps := #[_,_,_,_,_,_,_,_,_,_,_,_,_,_,_,_,_,_,_,_,_,_], defers := _ } _
          refine wpAnyH_ready (rs := [7]) (by kernel_rfl) (by simp) ?_
          refine (AllReadyH.cons rfl (fun KK hK => ?_) AllReadyH.nil)
          go_simp
          refine (NO.out _).mono ?_
          rintro e v88 ⟨rfl, hb⟩
          replace A1 : Hid (Below w.heap.size w v88) := A1.out.trans (hb.mono A1.out.size)
          replace SZ : Hid (w.heap.size ≤ (v88).heap.size) := Nat.le_trans SZ.out hb.size
          replace SL : Hid (w.heap.size < (v88).heap.size) := Nat.lt_of_lt_of_le SL.out hb.size
          replace FR : Hid (RowM v88 fb 4 4 U) := FR.out.below hb
          replace CD : Hid (Code8 v88 (some ⟨cb, 0, none⟩) s.size (strB s)) := CD.out.below hb
          replace XC : Hid (Code8 v88 (some ⟨xb, 0, none⟩) 4 slotX) := XC.out.below hb
          replace XL : Hid (xb < (v88).heap.size) := Nat.lt_of_lt_of_le XL.out hb.size
          replace H : (CellAt v88 w.heap.size 0 (.int .i64 (ep : Int))) ∧ (CellAt v88 w.heap.size 1 (.string s)) := ⟨(H.1).below hb, (H.2).below hb⟩
          clear hb
          refine hK.out _ _ H (fun _ => ?_)
          clear hK KK
          change wpAnyH _ _ _ _ _ _ _ { tmps := #[_,_,_,_,_,_,_,_,_,_,_,_,_,_,_,_,_,_,_,_,_,_], defers := _ } _
          refine wpAnyH_ready (rs := [13]) (by kernel_rfl) (by simp) ?_
          refine (AllReadyH.cons rfl (fun KK hK => ?_) AllReadyH.nil)
          go_simp
          refine (SE.out _ _ _ _ _ XC.out CD.out).mono ?_
          rintro e v89 ⟨⟨sb, sc, -, rfl, ho⟩, hb⟩
          replace A1 : Hid (Below w.heap.size w v89) := A1.out.trans (hb.mono A1.out.size)
          replace SZ : Hid (w.heap.size ≤ (v89).heap.size) := Nat.le_trans SZ.out hb.size
          replace SL : Hid (w.heap.size < (v89).heap.size) := Nat.lt_of_lt_of_le SL.out hb.size
          replace FR : Hid (RowM v89 fb 4 4 U) := FR.out.below hb
          replace CD : Hid (Code8 v89 (some ⟨cb, 0, none⟩) s.size (strB s)) := CD.out.below hb
          replace XC : Hid (Code8 v89 (some ⟨xb, 0, none⟩) 4 slotX) := XC.out.below hb
          replace XL : Hid (xb < (v89).heap.size) := Nat.lt_of_lt_of_le XL.out hb.size
          replace H : (CellAt v89 w.heap.size 0 (.int .i64 (ep : Int))) ∧ (CellAt v89 w.heap.size 1 (.string s)) := ⟨(H.1).below hb, (H.2).below hb⟩
          have SD : Hid (Code8 v89 (some ⟨sb, 0, none⟩) (s.size + 16) F) := ho.code
          clear hb ho
          refine hK.out _ _ H (fun _ => ?_)
          clear hK KK
          change wpAnyH _ _ _ _ _ _ _ { tmps := #[_,_,_,_,_,_,_,_,_,_,_,_,_,_,_,_,_,_,_,_,_,_], defers := _ } _
          refine wpAnyH_ready (rs := [14]) (by kernel_rfl) (by simp) ?_
          refine AllReadyH.cons rfl (fun KK hK => ?_) AllReadyH.nil
          obtain ⟨ag, ac, v90, hr, hm, hb, hag⟩ := appendM v89 (w.heap.size + 1) fb 4 4 U sb 0 (s.size + 16) sc F FH.out SL.out (by have := HS.out; omega) FR.out SD.out 88
          rw [if_pos (by rfl)]
          refine Lib.wp_append_run _ (.tmp 9) (.tmp 20) 88 88 rfl _ _ rfl rfl _ _ hr ?_
          have e20 : 4 + (s.size + 16) = 20 + s.size := by omega
          rw [e20]; rw [e20] at hm hr
          have R9 : Hid (RowM v90 ag (20 + s.size) ac GG) := hm.congr (fun i _ => EF.out i)
          have B9 : Hid (Below w.heap.size w v90) := A1.out.trans (hb.mono (Nat.le_succ _))
          replace H : (CellAt v90 w.heap.size 0 (.int .i64 (ep : Int))) ∧ (CellAt v90 w.heap.size 1 (.string s)) := ⟨(hb.cell (p := ⟨w.heap.size, 0, none⟩) (Nat.lt_succ_self _)).trans (H.1), (hb.cell (p := ⟨w.heap.size, 1, none⟩) (Nat.lt_succ_self _)).trans (H.2)⟩
          have HAG : Hid (w.heap.size ≤ ag) := Nat.le_trans (Nat.le_succ _) hag
          refine hK.out _ _ H (fun _ => ?_)
          clear hK KK hr hm hb hag e20 SZ SL FR CD XC XL SD A1 NE FH XG
          change wpAnyH _ _ _ _ _ _ _ { tmps := #[_,_,_,_,_,_,_,_,_,_,_,_,_,_,_,_,_,_,_,_,_,_], defers := _ } _
          refine wpAnyH_take (i := 15) (v := .slice (some ⟨ag, 0, none⟩) (20 + s.size) ac) rfl (by kernel_rfl) (by kernel_rfl) (by kernel_rfl) (fun _ _ _ h => h) (Or.inl ⟨by rfl, ?_⟩) H ?_
          · intro w' hSw; go_simp
          change wpAnyH _ _ _ _ _ _ _ { tmps := #[_,_,_,_,_,_,_,_,_,_,_,_,_,_,_,_,_,_,_,_,_,_], defers := _ } _
          refine wpAnyH_done (by kernel_rfl) ?_ _
          refine NoPanic.normal ?_
          clear H FO NO SE EF HS
          go_wp2
          go_ret
          exact ⟨⟨ag, ac, rfl, HAG.out, R9.out⟩, B9.out⟩
    · skip
      obtain ⟨v91, hcv, hx, ho, hce⟩ := conv_lit v62 xb LX.out
      go_simp
      have hsz : v62.heap.size ≤ v91.heap.size := ho.size
      replace A1 : Hid (Below w.heap.size w v91) := A1.out.trans (ho.toBelow (Nat.le_of_lt XG.out) A1.out.size)
      have XL : Hid (xb < v91.heap.size) := Nat.lt_of_lt_of_le LX.out.lt ho.size
      replace SZ : Hid (w.heap.size ≤ (v91).heap.size) := Nat.le_trans SZ.out ho.size
      replace SL : Hid (w.heap.size < (v91).heap.size) := Nat.lt_of_lt_of_le SL.out ho.size
      replace H : (CellAt v91 w.heap.size 0 (.int .i64 (ep : Int))) ∧ (CellAt v91 w.heap.size 1 (.string s)) := ⟨(hce _).trans (H.1), (hce _).trans (H.2)⟩
      have XC : Hid (Code8 v91 (some ⟨xb, 0, none⟩) 4 slotX) := hx
      clear hcv hx ho hce hsz LX
      refine hK.out _ _ H (fun _ => ?_)
      clear hK KK
      change wpAnyH _ _ _ _ _ _ _ { tmps := #[_,_,_,_,_,_,_,_,_,_,_,_,_,_,_,_,_,_,_,_,_,_], defers := _ } _
      refine wpAnyH_ready (rs := [2, 12]) (by kernel_rfl) (by simp) ?_
      refine (AllReadyH.cons rfl (fun KK hK => ?_) (AllReadyH.cons rfl (fun KK hK => ?_) AllReadyH.nil))
      · skip
        go_simp
        have NE : Hid (v91.heap.size ≠ xb) := by have := XL.out; exact fun e => by omega
        have FH : Hid (w.heap.size + 1 ≤ v91.heap.size) := SL.out
        refine (FO.out _).mono ?_
        rintro e v92 ⟨⟨rfl, ho⟩, hb⟩
        replace A1 : Hid (Below w.heap.size w v92) := A1.out.trans (hb.mono A1.out.size)
        replace SZ : Hid (w.heap.size ≤ (v92).heap.size) := Nat.le_trans SZ.out hb.size
        replace SL : Hid (w.heap.size < (v92).heap.size) := Nat.lt_of_lt_of_le SL.out hb.size
        replace XC : Hid (Code8 v92 (some ⟨xb, 0, none⟩) 4 slotX) := XC.out.below hb
        replace XL : Hid (xb < (v92).heap.size) := Nat.lt_of_lt_of_le XL.out hb.size
        have FR : Hid (RowM v92 v91.heap.size 4 4 U) := rowM_of_own8 ho
        replace H : (CellAt v92 w.heap.size 0 (.int .i64 (ep : Int))) ∧ (CellAt v92 w.heap.size 1 (.string s)) := ⟨(H.1).below hb, (H.2).below hb⟩
        obtain ⟨fb, hfb⟩ : ∃ x, x = v91.heap.size := ⟨_, rfl⟩
        rw [← hfb] at FR FH NE ⊢
        clear hb ho hfb
        refine hK.out _ _ H (fun _ => ?_)
        clear hK KK
        change wpAnyH _ _ _ _ _ _ _ { tmps := #[_,_,_,_,_,_,_,_,_,_,_,_,_,_,_,_,_,_,_,_,_,_], defers := _ } _
        refine wpAnyH_ready (rs := [7, 12]) (by kernel_rfl) (by simp) ?_
        refine (AllReadyH.cons rfl (fun KK hK => ?_) (AllReadyH.cons rfl (fun KK hK => ?_) AllReadyH.nil))
        · skip
          go_simp
          refine (NO.out _).mono ?_
          rintro e v93 ⟨rfl, hb⟩
          replace A1 : Hid (Below w.heap.size w v93) := A1.out.trans (hb.mono A1.out.size)
          replace SZ : Hid (w.heap.size ≤ (v93).heap.size) := Nat.le_trans SZ.out hb.size
          replace SL : Hid (w.heap.size < (v93).heap.size) := Nat.lt_of_lt_of_le SL.out hb.size
          replace XC : Hid (Code8 v93 (some ⟨xb, 0, none⟩) 4 slotX) := XC.out.below hb
          replace XL : Hid (xb < (v93).heap.size) := Nat.lt_of_lt_of_le XL.out hb.size
          replace FR : Hid (RowM v93 fb 4 4 U) := FR.out.below hb
          replace H : (CellAt v93 w.heap.size 0 (.int .i64 (ep : Int))) ∧ (CellAt v93 w.heap.size 1 (.string s)) := ⟨(H.1).below hb, (H.2).below hb⟩
          clear hb
          refine hK.out _ _ H (fun _ => ?_)
          clear hK KK
          change wpAnyH _ _ _ _ _ _ _ { tmps := #[_,_,_,_,_,_,_,_,_,_,_,_,_,_,_,_,_,_,_,_,_,_], defers := _ } _
          refine wpAnyH_ready (rs := [12]) (by kernel_rfl) (by simp) ?_
          refine (AllReadyH.cons rfl (fun KK hK => ?_) AllReadyH.nil)
          obtain ⟨v94, gc, hcv, hx, hb, hgc⟩ := bytesOfM s v93
          go_simp
          replace A1 : Hid (Below w.heap.size w v94) := A1.out.trans (hb.mono A1.out.size)
          replace SZ : Hid (w.heap.size ≤ (v94).heap.size) := Nat.le_trans SZ.out hb.size
          replace SL : Hid (w.heap.size < (v94).heap.size) := Nat.lt_of_lt_of_le SL.out hb.size
          replace XC : Hid (Code8 v94 (some ⟨xb, 0, none⟩) 4 slotX) := XC.out.below hb
          replace XL : Hid (xb < (v94).heap.size) := Nat.lt_of_lt_of_le XL.out hb.size
          replace FR : Hid (RowM v94 fb 4 4 U) := FR.out.below hb
          replace H : (CellAt v94 w.heap.size 0 (.int .i64 (ep : Int))) ∧ (CellAt v94 w.heap.size 1 (.string s)) := ⟨(H.1).below hb, (H.2).below hb⟩
          have CD : Hid (Code8 v94 (some ⟨v93.heap.size, 0, none⟩) s.size (strB s)) := hx
          obtain ⟨cb, hcb⟩ : ∃ x, x = v93.heap.size := ⟨_, rfl⟩
          rw [← hcb] at CD ⊢
          clear hcv hx hb hcb hgc
          refine hK.out _ _ H (fun _ => ?_)
          clear hK KK
          change wpAnyH _ _ _ _ _ _ _ { tmps := #[_,_,_,_,_,_,_,_,_,_,_,_,_,_,_,_,_,_,_,_,_,_], defers := _ } _
          refine wpAnyH_ready (rs := [13]) (by kernel_rfl) (by simp) ?_
          refine (AllReadyH.cons rfl (fun KK hK => ?_) AllReadyH.nil)
          go_simp
          refine (SE.out _ _ _ _ _ XC.out CD.out).mono ?_
          rintro e v95 ⟨⟨sb, sc, -, rfl, ho⟩, hb⟩
          replace A1 : Hid (Below w.heap.size w v95) := A1.out.trans (hb.mono A1.out.size)
          replace SZ : Hid (w.heap.size ≤ (v95).heap.size) := Nat.le_trans SZ.out hb.size
          replace SL : Hid (w.heap.size < (v95).heap.size) := Nat.lt_of_lt_of_le SL.out hb.size
          replace XC : Hid (Code8 v95 (some ⟨xb, 0, none⟩) 4 slotX) := XC.out.below hb
          replace XL : Hid (xb < (v95).heap.size) := Nat.lt_of_lt_of_le XL.out hb.size
          replace FR : Hid (RowM v95 fb 4 4 U) := FR.out.below hb
          replace CD : Hid (Code8 v95 (some ⟨cb, 0, none⟩) s.size (strB s)) := CD.out.below hb
          replace H : (CellAt v95 w.heap.size 0 (.int .i64 (ep : Int))) ∧ (CellAt v95 w.heap.size 1 (.string s)) := ⟨(H.1).below hb, (H.2).below hb⟩
          have SD : Hid (Code8 v95 (some ⟨sb, 0, none⟩) (s.size + 16) F) := ho.code
          clear hb ho
          refine hK.out _ _ H (fun _ => ?_)
          clear hK KK
          change wpAnyH _ _ _ _ _ _ _ { tmps := #[_,_,_,_,_,_,_,_,_,_,_,_,_,_,_,_,_,_,_,_,_,_], defers := _ } _
          refine wpAnyH_ready (rs := [14]) (by kernel_rfl) (by simp) ?_
          refine AllReadyH.cons rfl (fun KK hK => ?_) AllReadyH.nil
          obtain ⟨ag, ac, v96, hr, hm, hb, hag⟩ := appendM v95 (w.heap.size + 1) fb 4 4 U sb 0 (s.size + 16) sc F FH.out SL.out (by have := HS.out; omega) FR.out SD.out 88
          rw [if_pos (by rfl)]
          refine Lib.wp_append_run _ (.tmp 9) (.tmp 20) 88 88 rfl _ _ rfl rfl _ _ hr ?_
          have e20 : 4 + (s.size + 16) = 20 + s.size := by omega
          rw [e20]; rw [e20] at hm hr
          have R9 : Hid (RowM v96 ag (20 + s.size) ac GG) := hm.congr (fun i _ => EF.out i)
          have B9 : Hid (Below w.heap.size w v96) := A1.out.trans (hb.mono (Nat.le_succ _))
          replace H : (CellAt v96 w.heap.size 0 (.int .i64 (ep : Int))) ∧ (CellAt v96 w.heap.size 1 (.string s)) := ⟨(hb.cell (p := ⟨w.heap.size, 0, none⟩) (Nat.lt_succ_self _)).trans (H.1), (hb.cell (p := ⟨w.heap.size, 1, none⟩) (Nat.lt_succ_self _)).trans (H.2)⟩
          have HAG : Hid (w.heap.size ≤ ag) := Nat.le_trans (Nat.le_succ _) hag
          refine hK.out _ _ H (fun _ => ?_)
          clear hK KK hr hm hb hag e20 SZ SL XC XL FR CD SD A1 NE FH XG
          change wpAnyH _ _ _ _ _ _ _ { tmps := #[_,_,_,_,_,_,_,_,_,_,_,_,_,_,_,_,_,_,_,_,_,_], defers := _ } _
          refine wpAnyH_take (i := 15) (v := .slice (some ⟨ag, 0, none⟩) (20 + s.size) ac) rfl (by kernel_rfl) (by kernel_rfl) (by kernel_rfl) (fun _ _ _ h => h) (Or.inl ⟨by rfl, ?_⟩) H ?_
          · intro w' hSw; go_simp
          change wpAnyH _ _ _ _ _ _ _ { tmps := #[_,_,_,_,_,_,_,_,_,_,_,_,_,_,_,_,_,_,_,_,_,_], defers := _ } _
          refine wpAnyH_done (by kernel_rfl) ?_ _
          refine NoPanic.normal ?_
          clear H FO NO SE EF HS
          go_wp2
          go_ret
          exact ⟨⟨ag, ac, rfl, HAG.out, R9.out⟩, B9.out⟩
        · skip
          obtain ⟨v97, gc, hcv, hx, hb, hgc⟩ := bytesOfM s v92
          go_simp
          replace A1 : Hid (Below w.heap.size w v97) := A1.out.trans (hb.mono A1.out.size)
          replace SZ : Hid (w.heap.size ≤ (v97).heap.size) := Nat.le_trans SZ.out hb.size
          replace SL : Hid (w.heap.size < (v97).heap.size) := Nat.lt_of_lt_of_le SL.out hb.size
          replace XC : Hid (Code8 v97 (some ⟨xb, 0, none⟩) 4 slotX) := XC.out.below hb
          replace XL : Hid (xb < (v97).heap.size) := Nat.lt_of_lt_of_le XL.out hb.size
          replace FR : Hid (RowM v97 fb 4 4 U) := FR.out.below hb
          replace H : (CellAt v97 w.heap.size 0 (.int .i64 (ep : Int))) ∧ (CellAt v97 w.heap.size 1 (.string s)) := ⟨(H.1).below hb, (H.2).below hb⟩
          have CD : Hid (Code8 v97 (some ⟨v92.heap.size, 0, none⟩) s.size (strB s)) := hx
          obtain ⟨cb, hcb⟩ : ∃ x, x = v92.heap.size := ⟨_, rfl⟩
          rw [← hcb] at CD ⊢
          clear hcv hx hb hcb hgc
          refine hK.out _ _ H (fun _ => ?_)
          clear hK KK
          change wpAnyH _ _ _ _ _ _ _ { tmps := #[_,_,_,_,_,_,_,_,_,_,_,_,_,_,_,_,_,_,_,_,_,_], defers := _ } _
          refine wpAnyH_ready (rs := [7]) (by kernel_rfl) (by simp) ?_
          refine (AllReadyH.cons rfl (fun KK hK => ?_) AllReadyH.nil)
          go_simp
          refine (NO.out _).mono ?_
          rintro e v98 ⟨rfl, hb⟩
          replace A1 : Hid (Below w.heap.size w v98) := A1.out.trans (hb.mono A1.out.size)
          replace SZ : Hid (w.heap.size ≤ (v98).heap.size) := Nat.le_trans SZ.out hb.size
          replace SL : Hid (w.heap.size < (v98).heap.size) := Nat.lt_of_lt_of_le SL.out hb.size
          replace XC : Hid (Code8 v98 (some ⟨xb, 0, none⟩) 4 slotX) := XC.out.below hb
          replace XL : Hid (xb < (v98).heap.size) := Nat.lt_of_lt_of_le XL.out hb.size
          replace FR : Hid (RowM v98 fb 4 4 U) := FR.out.below hb
          replace CD : Hid (Code8 v98 (some ⟨cb, 0, none⟩) s.size (strB s)) := CD.out.below hb
          replace H : (CellAt v98 w.heap.size 0 (.int .i64 (ep : Int))) ∧ (CellAt v98 w.heap.size 1 (.string s)) := ⟨(H.1).below hb, (H.2).below hb⟩
          clear hb
          refine hK.out _ _ H (fun _ => ?_)
          clear hK KK
          change wpAnyH _ _ _ _ _ _ _ { tmps := #[_,_,_,_,_,_,_,_,_,_,_,_,_,_,_,_,_,_,_,_,_,_], defers := _ } _
          refine wpAnyH_ready (rs := [13]) (by kernel_rfl) (by simp) ?_
          refine (AllReadyH.cons rfl (fun KK hK => ?_) AllReadyH.nil)
          go_simp
          refine (SE.out _ _ _ _ _ XC.out CD.out).mono ?_
          rintro e v99 ⟨⟨sb, sc, -, rfl, ho⟩, hb⟩
          replace A1 : Hid (Below w.heap.size w v99) := A1.out.trans (hb.mono A1.out.size)
          replace SZ : Hid (w.heap.size ≤ (v99).heap.size) := Nat.le_trans SZ.out hb.size
          replace SL : Hid (w.heap.size < (v99).heap.size) := Nat.lt_of_lt_of_le SL.out hb.size
          replace XC : Hid (Code8 v99 (some ⟨xb, 0, none⟩) 4 slotX) := XC.out.below hb
          replace XL : Hid (xb < (v99).heap.size) := Nat.lt_of_lt_of_le XL.out hb.size
          replace FR : Hid (RowM v99 fb 4 4 U) := FR.out.below hb
          replace CD : Hid (Code8 v99 (some ⟨cb, 0, none⟩) s.size (strB s)) := CD.out.below hb
          replace H : (CellAt v99 w.heap.size 0 (.int .i64 (ep : Int))) ∧ (CellAt v99 w.heap.size 1 (.string s)) := ⟨(H.1).below hb, (H.2).below hb⟩
          have SD : Hid (Code8 v99 (some ⟨sb, 0, none⟩) (s.size + 16) F) := ho.code
          clear hb ho
          refine hK.out _ _ H (fun _ => ?_)
          clear hK KK
          change wpAnyH _ _ _ _ _ _ _ { tmps := #[_,_,_,_,_,_,_,_,_,_,_,_,_,_,_,_,_,_,_,_,_,_], defers := _ } _
          refine wpAnyH_ready (rs := [14]) (by kernel_rfl) (by simp) ?_
          refine AllReadyH.cons rfl (fun KK hK => ?_) AllReadyH.nil
          obtain ⟨ag, ac, v100, hr, hm, hb, hag⟩ := appendM v99 (w.heap.size + 1) fb 4 4 U sb 0 (s.size + 16) sc F FH.out SL.out (by have := HS.out; omega) FR.out SD.out 88
          rw [if_pos (by rfl)]
          refine Lib.wp_append_run _ (.tmp 9) (.tmp 20) 88 88 rfl _ _ rfl rfl _ _ hr ?_
          have e20 : 4 + (s.size + 16) = 20 + s.size := by omega
          rw [e20]; rw [e20] at hm hr
          have R9 : Hid (RowM v100 ag (20 + s.size) ac GG) := hm.congr (fun i _ => EF.out i)
          have B9 : Hid (Below w.heap.size w v100) := A1.out.trans (hb.mono (Nat.le_succ _))
          replace H : (CellAt v100 w.heap.size 0 (.int .i64 (ep : Int))) ∧ (CellAt v100 w.heap.size 1 (.string s)) := ⟨(hb.cell (p := ⟨w.heap.size, 0, none⟩) (Nat.lt_succ_self _)).trans (H.1), (hb.cell (p := ⟨w.heap.size, 1, none⟩) (Nat.lt_succ_self _)).trans (H.2)⟩
          have HAG : Hid (w.heap.size ≤ ag) := Nat.le_trans (Nat.le_succ _) hag
          refine hK.out _ _ H (fun _ => ?_)
          clear hK KK hr hm hb hag e20 SZ SL XC XL FR CD SD A1 NE FH XG
          change wpAnyH _ _ _ _ _ _ _ { tmps := #[_,_,_,_,_,_,_,_,_,_,_,_,_,_,_,_,_,_,_,_,_,_], defers := _ } _
          refine wpAnyH_take (i := 15) (v := .slice (some ⟨ag, 0, none⟩) (20 + s.size) ac) rfl (by kernel_rfl) (by kernel_rfl) (by kernel_rfl) (fun _ _ _ h => h) (Or.inl ⟨by rfl, ?_⟩) H ?_
          · intro w' hSw; go_simp
          change wpAnyH _ _ _ _ _ _ _ { tmps := #[_,_,_,_,_,_,_,_,_,_,_,_,_,_,_,_,_,_,_,_,_,_], defers := _ } _
          refine wpAnyH_done (by kernel_rfl) ?_ _
          refine NoPanic.normal ?_
          clear H FO NO SE EF HS
          go_wp2
          go_ret
          exact ⟨⟨ag, ac, rfl, HAG.out, R9.out⟩, B9.out⟩
      · skip
        obtain ⟨v101, gc, hcv, hx, hb, hgc⟩ := bytesOfM s v91
        go_simp
        replace A1 : Hid (Below w.heap.size w v101) := A1.out.trans (hb.mono A1.out.size)
        replace SZ : Hid (w.heap.size ≤ (v101).heap.size) := Nat.le_trans SZ.out hb.size
        replace SL : Hid (w.heap.size < (v101).heap.size) := Nat.lt_of_lt_of_le SL.out hb.size
        replace XC : Hid (Code8 v101 (some ⟨xb, 0, none⟩) 4 slotX) := XC.out.below hb
        replace XL : Hid (xb < (v101).heap.size) := Nat.lt_of_lt_of_le XL.out hb.size
        replace H : (CellAt v101 w.heap.size 0 (.int .i64 (ep : Int))) ∧ (CellAt v101 w.heap.size 1 (.string s)) := ⟨(H.1).below hb, (H.2).below hb⟩
        have CD : Hid (Code8 v101 (some ⟨v91.heap.size, 0, none⟩) s.size (strB s)) := hx
        obtain ⟨cb, hcb⟩ : ∃ x, x = v91.heap.size := ⟨_, rfl⟩
        rw [← hcb] at CD ⊢
        clear hcv hx hb hcb hgc
        refine hK.out _ _ H (fun _ => ?_)
        clear hK KK
        change wpAnyH _ _ _ _ _ _ _ { tmps := #[_,_,_,_,_,_,_,_,_,_,_,_,_,_,_,_,_,_,_,_,_,_], defers := _ } _
        refine wpAnyH_ready (rs := [2]) (by kernel_rfl) (by simp) ?_
        refine (AllReadyH.cons rfl (fun KK hK => ?_) AllReadyH.nil)
        go_simp
        have NE : Hid (v101.heap.size ≠ xb) := by have := XL.out; exact fun e => by omega
        have FH : Hid (w.heap.size + 1 ≤ v101.heap.size) := SL.out
        refine (FO.out _).mono ?_
        rintro e v102 ⟨⟨rfl, ho⟩, hb⟩
        replace A1 : Hid (Below w.heap.size w v102) := A1.out.trans (hb.mono A1.out.size)
        replace SZ : Hid (w.heap.size ≤ (v102).heap.size) := Nat.le_trans SZ.out hb.size
        replace SL : Hid (w.heap.size < (v102).heap.size) := Nat.lt_of_lt_of_le SL.out hb.size
        replace XC : Hid (Code8 v102 (some ⟨xb, 0, none⟩) 4 slotX) := XC.out.below hb
        replace XL : Hid (xb < (v102).heap.size) := Nat.lt_of_lt_of_le XL.out hb.size
        replace CD : Hid (Code8 v102 (some ⟨cb, 0, none⟩) s.size (strB s)) := CD.out.below hb
        have FR : Hid (RowM v102 v101.heap.size 4 4 U) := rowM_of_own8 ho
        replace H : (CellAt v102 w.heap.size 0 (.int .i64 (ep : Int))) ∧ (CellAt v102 w.heap.size 1 (.string s)) := ⟨(H.1).below hb, (H.2).below hb⟩
        obtain ⟨fb, hfb⟩ : ∃ x, x = v101.heap.size := ⟨_, rfl⟩
        rw [← hfb] at FR FH NE ⊢
        clear hb ho hfb
        refine hK.out _ _ H (fun _ => ?_)
        clear hK KK
        change wpAnyH _ _ _ _ _ _ _ { tmps := #[_,_,_,_,_,_,_,_,_,_,_,_,_,_,_,_,_,_,_,_,_,_], defers := _ } _
        refine wpAnyH_ready (rs := [7]) (by kernel_rfl) (by simp) ?_
        refine (AllReadyH.cons rfl (fun KK hK => ?_) AllReadyH.nil)
        go_simp
        refine (NO.out _).mono ?_
        rintro e v103 ⟨rfl, hb⟩
        replace A1 : Hid (Below w.heap.size w v103) := A1.out.trans (hb.mono A1.out.size)
        replace SZ : Hid (w.heap.size ≤ (v103).heap.size) := Nat.le_trans SZ.out hb.size
        replace SL : Hid (w.heap.size < (v103).heap.size) := Nat.lt_of_lt_of_le SL.out hb.size
        replace XC : Hid (Code8 v103 (some ⟨xb, 0, none⟩) 4 slotX) := XC.out.below hb
        replace XL : Hid (xb < (v103).heap.size) := Nat.lt_of_lt_of_le XL.out hb.size
        replace CD : Hid (Code8 v103 (some ⟨cb, 0, none⟩) s.size (strB s)) := CD.out.below hb
        replace FR : Hid (RowM v103 fb 4 4 U) := FR.out.below hb
        replace H : (CellAt v103 w.heap.size 0 (.int .i64 (ep : Int))) ∧ (CellAt v103 w.heap.size 1 (.string s)) := ⟨(H.1).below hb, (H.2).below hb⟩
        clear hb
        refine hK.out _ _ H (fun _ => ?_)
        clear hK KK
        change wpAnyH _ _ _ _ _ _ _ { tmps := #[_,_,_,_,_,_,_,_,_,_,_,_,_,_,_,_,_,_,_,_,_,_], defers := _ } _
        refine wpAnyH_ready (rs := [13]) (by kernel_rfl) (by simp) ?_
        refine (AllReadyH.cons rfl (fun KK hK => ?_) AllReadyH.nil)
        go_simp
        refine (SE.out _ _ _ _ _ XC.out CD.out).mono ?_
        rintro e v104 ⟨⟨sb, sc, -, rfl, ho⟩, hb⟩
        replace A1 : Hid (Below w.heap.size w v104) := A1.out.trans (hb.mono A1.out.size)
        replace SZ : Hid (w.heap.size ≤ (v104).heap.size) := Nat.le_trans SZ.out hb.size
        replace SL : Hid (w.heap.size < (v104).heap.size) := Nat.lt_of_lt_of_le SL.out hb.size
        replace XC : Hid (Code8 v104 (some ⟨xb, 0, none⟩) 4 slotX) := XC.out.below hb
        replace XL : Hid (xb < (v104).heap.size) := Nat.lt_of_lt_of_le XL.out hb.size
        replace CD : Hid (Code8 v104 (some ⟨cb, 0, none⟩) s.size (strB s)) := CD.out.below hb
        replace FR : Hid (RowM v104 fb 4 4 U) := FR.out.below hb
        replace H : (CellAt v104 w.heap.size 0 (.int .i64 (ep : Int))) ∧ (CellAt v104 w.heap.size 1 (.string s)) := ⟨(H.1).below hb, (H.2).below hb⟩
        have SD : Hid (Code8 v104 (some ⟨sb, 0, none⟩) (s.size + 16) F) := ho.code
        clear hb ho
        refine hK.out _ _ H (fun _ => ?_)
        clear hK KK
        change wpAnyH _ _ _ _ _ _ _ { tmps := #[_,_,_,_,_,_,_,_,_,_,_,_,_,_,_,_,_,_,_,_,_,_], defers := _ } _
        refine wpAnyH_ready (rs := [14]) (by kernel_rfl) (by simp) ?_
        refine AllReadyH.cons rfl (fun KK hK => ?_) AllReadyH.nil
        obtain ⟨ag, ac, v105, hr, hm, hb, hag⟩ := appendM v104 (w.heap.size + 1) fb 4 4 U sb 0 (s.size + 16) sc F FH.out SL.out (by have := HS.out; omega) FR.out SD.out 88
        rw [if_pos (by rfl)]
        refine Lib.wp_append_run _ (.tmp 9) (.tmp 20) 88 88 rfl _ _ rfl rfl _ _ hr ?_
        have e20 : 4 + (s.size + 16) = 20 + s.size := by omega
        rw [e20]; rw [e20] at hm hr
        have R9 : Hid (RowM v105 ag (20 + s.size) ac GG) := hm.congr (fun i _ => EF.out i)
        have B9 : Hid (Below w.heap.size w v105) := A1.out.trans (hb.mono (Nat.le_succ _))
        replace H : (CellAt v105 w.heap.size 0 (.int .i64 (ep : Int))) ∧ (CellAt v105 w.heap.size 1 (.string s)) := ⟨(hb.cell (p := ⟨w.heap.size, 0, none⟩) (Nat.lt_succ_self _)).trans (H.1), (hb.cell (p := ⟨w.heap.size, 1, none⟩) (Nat.lt_succ_self _)).trans (H.2)⟩
        have HAG : Hid (w.heap.size ≤ ag) := Nat.le_trans (Nat.le_succ _) hag
        refine hK.out _ _ H (fun _ => ?_)
        clear hK KK hr hm hb hag e20 SZ SL XC XL CD FR SD A1 NE FH XG
        change wpAnyH _ _ _ _ _ _ _ { tmps := #[_,_,_,_,_,_,_,_,_,_,_,_,_,_,_,_,_,_,_,_,_,_], defers := _ } _
        refine wpAnyH_take (i := 15) (v := .slice (some ⟨ag, 0, none⟩) (20 + s.size) ac) rfl (by kernel_rfl) (by kernel_rfl) (by kernel_rfl) (fun _ _ _ h => h) (Or.inl ⟨by rfl, ?_⟩) H ?_
        · intro w' hSw; go_simp
        change wpAnyH _ _ _ _ _ _ _ { tmps := #[_,_,_,_,_,_,_,_,_,_,_,_,_,_,_,_,_,_,_,_,_,_], defers := _ } _
        refine wpAnyH_done (by kernel_rfl) ?_ _
        refine NoPanic.normal ?_
        clear H FO NO SE EF HS
        go_wp2
        go_ret
        exact ⟨⟨ag, ac, rfl, HAG.out, R9.out⟩, B9.out⟩
    · skip
      obtain ⟨v106, gc, hcv, hx, hb, hgc⟩ := bytesOfM s v62
      go_simp
      replace A1 : Hid (Below w.heap.size w v106) := A1.out.trans (hb.mono A1.out.size)
      replace SZ : Hid (w.heap.size ≤ (v106).heap.size) := Nat.le_trans SZ.out hb.size
      replace SL : Hid (w.heap.size < (v106).heap.size) := Nat.lt_of_lt_of_le SL.out hb.size
      replace LX : Hid (LitX v106 xb) := LX.out.below hb
      replace H : (CellAt v106 w.heap.size 0 (.int .i64 (ep : Int))) ∧ (CellAt v106 w.heap.size 1 (.string s)) := ⟨(H.1).below hb, (H.2).below hb⟩
      have CD : Hid (Code8 v106 (some ⟨v62.heap.size, 0, none⟩) s.size (strB s)) := hx
      obtain ⟨cb, hcb⟩ : ∃ x, x = v62.heap.size := ⟨_, rfl⟩
      rw [← hcb] at CD ⊢
      clear hcv hx hb hcb hgc
      refine hK.out _ _ H (fun _ => ?_)
      clear hK KK
      change wpAnyH _ _ _ _ _ _ _ { tmps := #[_,_,_,_,_,_,_,_,_,_,_,_,_,_,_,_,_,_,_,_,_,_], defers := _ } _
      refine wpAnyH_ready (rs := [2, 9]) (by kernel_rfl) (by simp) ?_
      refine (AllReadyH.cons rfl (fun KK hK => ?_) (AllReadyH.cons rfl (fun KK hK => ?_) AllReadyH.nil))
      · skip
        go_simp
        have NE : Hid (v106.heap.size ≠ xb) := by have := LX.out.lt; exact fun e => by omega
        have FH : Hid (w.heap.size + 1 ≤ v106.heap.size) := SL.out
        refine (FO.out _).mono ?_
        rintro e v107 ⟨⟨rfl, ho⟩, hb⟩
        replace A1 : Hid (Below w.heap.size w v107) := A1.out.trans (hb.mono A1.out.size)
        replace SZ : Hid (w.heap.size ≤ (v107).heap.size) := Nat.le_trans SZ.out hb.size
        replace SL : Hid (w.heap.size < (v107).heap.size) := Nat.lt_of_lt_of_le SL.out hb.size
        replace LX : Hid (LitX v107 xb) := LX.out.below hb
        replace CD : Hid (Code8 v107 (some ⟨cb, 0, none⟩) s.size (strB s)) := CD.out.below hb
        have FR : Hid (RowM v107 v106.heap.size 4 4 U) := rowM_of_own8 ho
        replace H : (CellAt v107 w.heap.size 0 (.int .i64 (ep : Int))) ∧ (CellAt v107 w.heap.size 1 (.string s)) := ⟨(H.1).below hb, (H.2).below hb⟩
        obtain ⟨fb, hfb⟩ : ∃ x, x = v106.heap.size := ⟨_, rfl⟩
        rw [← hfb] at FR FH NE ⊢
        clear hb ho hfb
        refine hK.out _ _ H (fun _ => ?_)
        clear hK KK
        change wpAnyH _ _ _ _ _ _ _ { tmps := #[_,_,_,_,_,_,_,_,_,_,_,_,_,_,_,_,_,_,_,_,_,_], defers := _ } _
        refine wpAnyH_ready (rs := [7, 9]) (by kernel_rfl) (by simp) ?_
        refine (AllReadyH.cons rfl (fun KK hK => ?_) (AllReadyH.cons rfl (fun KK hK => ?_) AllReadyH.nil))
        · skip
          go_simp
          refine (NO.out _).mono ?_
          rintro e v108 ⟨rfl, hb⟩
          replace A1 : Hid (Below w.heap.size w v108) := A1.out.trans (hb.mono A1.out.size)
          replace SZ : Hid (w.heap.size ≤ (v108).heap.size) := Nat.le_trans SZ.out hb.size
          replace SL : Hid (w.heap.size < (v108).heap.size) := Nat.lt_of_lt_of_le SL.out hb.size
          replace LX : Hid (LitX v108 xb) := LX.out.below hb
          replace CD : Hid (Code8 v108 (some ⟨cb, 0, none⟩) s.size (strB s)) := CD.out.below hb
          replace FR : Hid (RowM v108 fb 4 4 U) := FR.out.below hb
          replace H : (CellAt v108 w.heap.size 0 (.int .i64 (ep : Int))) ∧ (CellAt v108 w.heap.size 1 (.string s)) := ⟨(H.1).below hb, (H.2).below hb⟩
          clear hb
          refine hK.out _ _ H (fun _ => ?_)
          clear hK KK
          change wpAnyH _ _ _ _ _ _ _ { tmps := #[_,_,_,_,_,_,_,_,_,_,_,_,_,_,_,_,_,_,_,_,_,_], defers := _ } _
          refine wpAnyH_ready (rs := [9]) (by kernel_rfl) (by simp) ?_
          refine (AllReadyH.cons rfl (fun KK hK => ?_) AllReadyH.nil)
          obtain ⟨v109, hcv, hx, ho, hce⟩ := conv_lit v108 xb LX.out
          go_simp
          have hsz : v108.heap.size ≤ v109.heap.size := ho.size
          replace A1 : Hid (Below w.heap.size w v109) := A1.out.trans (ho.toBelow (Nat.le_of_lt XG.out) A1.out.size)
          have XL : Hid (xb < v109.heap.size) := Nat.lt_of_lt_of_le LX.out.lt ho.size
          replace SZ : Hid (w.heap.size ≤ (v109).heap.size) := Nat.le_trans SZ.out ho.size
          replace SL : Hid (w.heap.size < (v109).heap.size) := Nat.lt_of_lt_of_le SL.out ho.size
          replace CD : Hid (Code8 v109 (some ⟨cb, 0, none⟩) s.size (strB s)) := code8_cells CD.out hce
          replace FR : Hid (RowM v109 fb 4 4 U) := FR.out.onlyB ho NE.out
          replace H : (CellAt v109 w.heap.size 0 (.int .i64 (ep : Int))) ∧ (CellAt v109 w.heap.size 1 (.string s)) := ⟨(hce _).trans (H.1), (hce _).trans (H.2)⟩
          have XC : Hid (Code8 v109 (some ⟨xb, 0, none⟩) 4 slotX) := hx
          clear hcv hx ho hce hsz LX
          refine hK.out _ _ H (fun _ => ?_)
          clear hK KK
          change wpAnyH _ _ _ _ _ _ _ { tmps := #[_,_,_,_,_,_,_,_,_,_,_,_,_,_,_,_,_,_,_,_,_,_], defers := _ } _
          refine wpAnyH_ready (rs := [13]) (by kernel_rfl) (by simp) ?_
          refine (AllReadyH.cons rfl (fun KK hK => ?_) AllReadyH.nil)
          go_simp
          refine (SE.out _ _ _ _ _ XC.out CD.out).mono ?_
          rintro e v110 ⟨⟨sb, sc, -, rfl, ho⟩, hb⟩
          replace A1 : Hid (Below w.heap.size w v110) := A1.out.trans (hb.mono A1.out.size)
          replace SZ : Hid (w.heap.size ≤ (v110).heap.size) := Nat.le_trans SZ.out hb.size
          replace SL : Hid (w.heap.size < (v110).heap.size) := Nat.lt_of_lt_of_le SL.out hb.size
          replace CD : Hid (Code8 v110 (some ⟨cb, 0, none⟩) s.size (strB s)) := CD.out.below hb
          replace FR : Hid (RowM v110 fb 4 4 U) := FR.out.below hb
          replace XC : Hid (Code8 v110 (some ⟨xb, 0, none⟩) 4 slotX) := XC.out.below hb
          replace XL : Hid (xb < (v110).heap.size) := Nat.lt_of_lt_of_le XL.out hb.size
          replace H : (CellAt v110 w.heap.size 0 (.int .i64 (ep : Int))) ∧ (CellAt v110 w.heap.size 1 (.string s)) := ⟨(H.1).below hb, (H.2).below hb⟩
          have SD : Hid (Code8 v110 (some ⟨sb, 0, none⟩) (s.size + 16) F) := ho.code
          clear hb ho
          refine hK.out _ _ H (fun _ => ?_)
          clear hK KK
          change wpAnyH _ _ _ _ _ _ _ { tmps := #[_,_,_,_,_,_,_,_,_,_,_,_,_,_,_,_,_,_,_,_,_,_], defers := _ } _
          refine wpAnyH_ready (rs := [14]) (by kernel_rfl) (by simp) ?_
          refine AllReadyH.cons rfl (fun KK hK => ?_) AllReadyH.nil
          obtain ⟨ag, ac, v111, hr, hm, hb, hag⟩ := appendM v110 (w.heap.size + 1) fb 4 4 U sb 0 (s.size + 16) sc F FH.out SL.out (by have := HS.out; omega) FR.out SD.out 88
          rw [if_pos (by rfl)]
          refine Lib.wp_append_run _ (.tmp 9) (.tmp 20) 88 88 rfl _ _ rfl rfl _ _ hr ?_
          have e20 : 4 + (s.size + 16) = 20 + s.size := by omega
          rw [e20]; rw [e20] at hm hr
          have R9 : Hid (RowM v111 ag (20 + s.size) ac GG) := hm.congr (fun i _ => EF.out i)
          have B9 : Hid (Below w.heap.size w v111) := A1.out.trans (hb.mono (Nat.le_succ _))
          replace H : (CellAt v111 w.heap.size 0 (.int .i64 (ep : Int))) ∧ (CellAt v111 w.heap.size 1 (.string s)) := ⟨(hb.cell (p := ⟨w.heap.size, 0, none⟩) (Nat.lt_succ_self _)).trans (H.1), (hb.cell (p := ⟨w.heap.size, 1, none⟩) (Nat.lt_succ_self _)).trans (H.2)⟩
          have HAG : Hid (w.heap.size ≤ ag) := Nat.le_trans (Nat.le_succ _) hag
          refine hK.out _ _ H (fun _ => ?_)
          clear hK KK hr hm hb hag e20 SZ SL CD FR XC XL SD A1 NE FH XG
          change wpAnyH _ _ _ _ _ _ _ { tmps := #[_,_,_,_,_,_,_,_,_,_,_,_,_,_,_,_,_,_,_,_,_,_], defers := _ } _
          refine wpAnyH_take (i := 15) (v := .slice (some ⟨ag, 0, none⟩) (20 + s.size) ac) rfl (by kernel_rfl) (by kernel_rfl) (by kernel_rfl) (fun _ _ _ h => h) (Or.inl ⟨by rfl, ?_⟩) H ?_
          · intro w' hSw; go_simp
          change wpAnyH _ _ _ _ _ _ _ { tmps := #[_,_,_,_,_,_,_,_,_,_,_,_,_,_,_,_,_,_,_,_,_,_], defers := _ } _
          refine wpAnyH_done (by kernel_rfl) ?_ _
          refine NoPanic.normal ?_
          clear H FO NO SE EF HS
          go_wp2
          go_ret
          exact ⟨⟨ag, ac, rfl, HAG.out, R9.out⟩, B9.out⟩
        · skip
          obtain ⟨v112, hcv, hx, ho, hce⟩ := conv_lit v107 xb LX.out
          go_simp
          have hsz : v107.heap.size ≤ v112.heap.size := ho.size
          replace A1 : Hid (Below w.heap.size w v112) := A1.out.trans (ho.toBelow (Nat.le_of_lt XG.out) A1.out.size)
          have XL : Hid (xb < v112.heap.size) := Nat.lt_of_lt_of_le LX.out.lt ho.size
          replace SZ : Hid (w.heap.size ≤ (v112).heap.size) := Nat.le_trans SZ.out ho.size
          replace SL : Hid (w.heap.size < (v112).heap.size) := Nat.lt_of_lt_of_le SL.out ho.size
          replace CD : Hid (Code8 v112 (some ⟨cb, 0, none⟩) s.size (strB s)) := code8_cells CD.out hce
          replace FR : Hid (RowM v112 fb 4 4 U) := FR.out.onlyB ho NE.out
          replace H : (CellAt v112 w.heap.size 0 (.int .i64 (ep : Int))) ∧ (CellAt v112 w.heap.size 1 (.string s)) := ⟨(hce _).trans (H.1), (hce _).trans (H.2)⟩
          have XC : Hid (Code8 v112 (some ⟨xb, 0, none⟩) 4 slotX) := hx
          clear hcv hx ho hce hsz LX
          refine hK.out _ _ H (fun _ => ?_)
          clear hK KK
          change wpAnyH _ _ _ _ _ _ _ { tmps := #[_,_,_,_,_,_,_,_,_,_,_,_,_,_,_,_,_,_,_,_,_,_], defers := _ } _
          refine wpAnyH_ready (rs := [7]) (by kernel_rfl) (by simp) ?_
          refine (AllReadyH.cons rfl (fun KK hK => ?_) AllReadyH.nil)
          go_simp
          refine (NO.out _).mono ?_
          rintro e v113 ⟨rfl, hb⟩
          replace A1 : Hid (Below w.heap.size w v113) := A1.out.trans (hb.mono A1.out.size)
          replace SZ : Hid (w.heap.size ≤ (v113).heap.size) := Nat.le_trans SZ.out hb.size
          replace SL : Hid (w.heap.size < (v113).heap.size) := Nat.lt_of_lt_of_le SL.out hb.size
          replace CD : Hid (Code8 v113 (some ⟨cb, 0, none⟩) s.size (strB s)) := CD.out.below hb
          replace FR : Hid (RowM v113 fb 4 4 U) := FR.out.below hb
          replace XC : Hid (Code8 v113 (some ⟨xb, 0, none⟩) 4 slotX) := XC.out.below hb
          replace XL : Hid (xb < (v113).heap.size) := Nat.lt_of_lt_of_le XL.out hb.size
          replace H : (CellAt v113 w.heap.size 0 (.int .i64 (ep : Int))) ∧ (CellAt v113 w.heap.size 1 (.string s)) := ⟨(H.1).below hb, (H.2).below hb⟩
          clear hb
          refine hK.out _ _ H (fun _ => ?_)
          clear hK KK
          change wpAnyH _ _ _ _ _ _ _ { tmps := #[_,_,_,_,_,_,_,_,_,_,_,_,_,_,_,_,_,_,_,_,_,_], defers := _ } _
          refine wpAnyH_ready (rs := [13]) (by kernel_rfl) (by simp) ?_
          refine (AllReadyH.cons rfl (fun KK hK => ?_) AllReadyH.nil)
          go_simp
          refine (SE.out _ _ _ _ _ XC.out CD.out).mono ?_
          rintro e v114 ⟨⟨sb, sc, -, rfl, ho⟩, hb⟩
          replace A1 : Hid (Below w.heap.size w v114) := A1.out.trans (hb.mono A1.out.size)
          replace SZ : Hid (w.heap.size ≤ (v114).heap.size) := Nat.le_trans SZ.out hb.size
          replace SL : Hid (w.heap.size < (v114).heap.size) := Nat.lt_of_lt_of_le SL.out hb.size
          replace CD : Hid (Code8 v114 (some ⟨cb, 0, none⟩) s.size (strB s)) := CD.out.below hb
          replace FR : Hid (RowM v114 fb 4 4 U) := FR.out.below hb
          replace XC : Hid (Code8 v114 (some ⟨xb, 0, none⟩) 4 slotX) := XC.out.below hb
          replace XL : Hid (xb < (v114).heap.size) := Nat.lt_of_lt_of_le XL.out hb.size
          replace H : (CellAt v114 w.heap.size 0 (.int .i64 (ep : Int))) ∧ (CellAt v114 w.heap.size 1 (.string s)) := ⟨(H.1).below hb, (H.2).below hb⟩
          have SD : Hid (Code8 v114 (some ⟨sb, 0, none⟩) (s.size + 16) F) := ho.code
          clear hb ho
          refine hK.out _ _ H (fun _ => ?_)
          clear hK KK
          change wpAnyH _ _ _ _ _ _ _ { tmps := #[_,_,_,_,_,_,_,_,_,_,_,_,_,_,_,_,_,_,_,_,_,_], defers := _ } _
          refine wpAnyH_ready (rs := [14]) (by kernel_rfl) (by simp) ?_
          refine AllReadyH.cons rfl (fun KK hK => ?_) AllReadyH.nil
          obtain ⟨ag, ac, v115, hr, hm, hb, hag⟩ := appendM v114 (w.heap.size + 1) fb 4 4 U sb 0 (s.size + 16) sc F FH.out SL.out (by have := HS.out; omega) FR.out SD.out 88
          rw [if_pos (by rfl)]
          refine Lib.wp_append_run _ (.tmp 9) (.tmp 20) 88 88 rfl _ _ rfl rfl _ _ hr ?_
          have e20 : 4 + (s.size + 16) = 20 + s.size := by omega
          rw [e20]; rw [e20] at hm hr
          have R9 : Hid (RowM v115 ag (20 + s.size) ac GG) := hm.congr (fun i _ => EF.out i)
          have B9 : Hid (Below w.heap.size w v115) := A1.out.trans (hb.mono (Nat.le_succ _))
          replace H : (CellAt v115 w.heap.size 0 (.int .i64 (ep : Int))) ∧ (CellAt v115 w.heap.size 1 (.string s)) := ⟨(hb.cell (p := ⟨w.heap.size, 0, none⟩) (Nat.lt_succ_self _)).trans (H.1), (hb.cell (p := ⟨w.heap.size, 1, none⟩) (Nat.lt_succ_self _)).trans (H.2)⟩
          have HAG : Hid (w.heap.size ≤ ag) := Nat.le_trans (Nat.le_succ _) hag
          refine hK.out _ _ H (fun _ => ?_)
          clear hK KK hr hm hb hag e20 SZ SL CD FR XC XL SD A1 NE FH XG
          change wpAnyH _ _ _ _ _ _ _ { tmps := #[_,_,_,_,_,_,_,_,_,_,_,_,_,_,_,_,_,_,_,_,_,_], defers := _ } _
          refine wpAnyH_take (i := 15) (v := .slice (some ⟨ag, 0, none⟩) (20 + s.size) ac) rfl (by kernel_rfl) (by kernel_rfl) (by kernel_rfl) (fun _ _ _ h => h) (Or.inl ⟨by rfl, ?_⟩) H ?_
          · intro w' hSw; go_simp
          change wpAnyH _ _ _ _ _ _ _ { tmps := #[_,_,_,_,_,_,_,_,_,_,_,_,_,_,_,_,_,_,_,_,_,_], defers := _ } _
          refine wpAnyH_done (by kernel_rfl) ?_ _
          refine NoPanic.normal ?_
          clear H FO NO SE EF HS
          go_wp2
          go_ret
          exact ⟨⟨ag, ac, rfl, HAG.out, R9.out⟩, B9.out⟩
      · skip
        obtain ⟨v116, hcv, hx, ho, hce⟩ := conv_lit v106 xb LX.out
        go_simp
        have hsz : v106.heap.size ≤ v116.heap.size := ho.size
        replace A1 : Hid (Below w.heap.size w v116) := A1.out.trans (ho.toBelow (Nat.le_of_lt XG.out) A1.out.size)
        have XL : Hid (xb < v116.heap.size) := Nat.lt_of_lt_of_le LX.out.lt ho.size
        replace SZ : Hid (w.heap.size ≤ (v116).heap.size) := Nat.le_trans SZ.out ho.size
        replace SL : Hid (w.heap.size < (v116).heap.size) := Nat.lt_of_lt_of_le SL.out ho.size
        replace CD : Hid (Code8 v116 (some ⟨cb, 0, none⟩) s.size (strB s)) := code8_cells CD.out hce
        replace H : (CellAt v116 w.heap.size 0 (.int .i64 (ep : Int))) ∧ (CellAt v116 w.heap.size 1 (.string s)) := ⟨(hce _).trans (H.1), (hce _).trans (H.2)⟩
        have XC : Hid (Code8 v116 (some ⟨xb, 0, none⟩) 4 slotX) := hx
        clear hcv hx ho hce hsz LX
        refine hK.out _ _ H (fun _ => ?_)
        clear hK KK
        change wpAnyH _ _ _ _ _ _ _ { tmps := #[_,_,_,_,_,_,_,_,_,_,_,_,_,_,_,_,_,_,_,_,_,_], defers := _ } _
        refine wpAnyH_ready (rs := [2]) (by kernel_rfl) (by simp) ?_
        refine (AllReadyH.cons rfl (fun KK hK => ?_) AllReadyH.nil)
        go_simp
        have NE : Hid (v116.heap.size ≠ xb) := by have := XL.out; exact fun e => by omega
        have FH : Hid (w.heap.size + 1 ≤ v116.heap.size) := SL.out
        refine (FO.out _).mono ?_
        rintro e v117 ⟨⟨rfl, ho⟩, hb⟩
        replace A1 : Hid (Below w.heap.size w v117) := A1.out.trans (hb.mono A1.out.size)
        replace SZ : Hid (w.heap.size ≤ (v117).heap.size) := Nat.le_trans SZ.out hb.size
        replace SL : Hid (w.heap.size < (v117).heap.size) := Nat.lt_of_lt_of_le SL.out hb.size
        replace CD : Hid (Code8 v117 (some ⟨cb, 0, none⟩) s.size (strB s)) := CD.out.below hb
        replace XC : Hid (Code8 v117 (some ⟨xb, 0, none⟩) 4 slotX) := XC.out.below hb
        replace XL : Hid (xb < (v117).heap.size) := Nat.lt_of_lt_of_le XL.out hb.size
        have FR : Hid (RowM v117 v116.heap.size 4 4 U) := rowM_of_own8 ho
        replace H : (CellAt v117 w.heap.size 0 (.int .i64 (ep : Int))) ∧ (CellAt v117 w.heap.size 1 (.string s)) := ⟨(H.1).below hb, (H.2).below hb⟩
        obtain ⟨fb, hfb⟩ : ∃ x, x = v116.heap.size := ⟨_, rfl⟩
        rw [← hfb] at FR FH NE ⊢
        clear hb ho hfb
        refine hK.out _ _ H (fun _ => ?_)
        clear hK KK
        change wpAnyH _ _ _ _ _ _ _ { tmps := #[_,_,_,_,_,_,_,_,_,_,_,_,_,_,_,_,_,_,_,_,_,_], defers := _ } _
        refine wpAnyH_ready (rs := [7]) (by kernel_rfl) (by simp) ?_
        refine (AllReadyH.cons rfl (fun KK hK => ?_) AllReadyH.nil)
        go_simp
        refine (NO.out _).mono ?_
        rintro e v118 ⟨rfl, hb⟩
        replace A1 : Hid (Below w.heap.size w v118) := A1.out.trans (hb.mono A1.out.size)
        replace SZ : Hid (w.heap.size ≤ (v118).heap.size) := Nat.le_trans SZ.out hb.size
        replace SL : Hid (w.heap.size < (v118).heap.size) := Nat.lt_of_lt_of_le SL.out hb.size
        replace CD : Hid (Code8 v118 (some ⟨cb, 0, none⟩) s.size (strB s)) := CD.out.below hb
        replace XC : Hid (Code8 v118 (some ⟨xb, 0, none⟩) 4 slotX) := XC.out.below hb
        replace XL : Hid (xb < (v118).heap.size) := Nat.lt_of_lt_of_le XL.out hb.size
        replace FR : Hid (RowM v118 fb 4 4 U) := FR.out.below hb
        replace H : (CellAt v118 w.heap.size 0 (.int .i64 (ep : Int))) ∧ (CellAt v118 w.heap.size 1 (.string s)) := ⟨(H.1).below hb, (H.2).below hb⟩
        clear hb
        refine hK.out _ _ H (fun _ => ?_)
        clear hK KK
        change wpAnyH _ _ _ _ _ _ _ { tmps := #[_,_,_,_,_,_,_,_,_,_,_,_,_,_,_,_,_,_,_,_,_,_], defers := _ } _
        refine wpAnyH_ready (rs := [13]) (by kernel_rfl) (by simp) ?_
        refine (AllReadyH.cons rfl (fun KK hK => ?_) AllReadyH.nil)
        go_simp
        refine (SE.out _ _ _ _ _ XC.out CD.out).mono ?_
        rintro e v119 ⟨⟨sb, sc, -, rfl, ho⟩, hb⟩
        replace A1 : Hid (Below w.heap.size w v119) := A1.out.trans (hb.mono A1.out.size)
        replace SZ : Hid (w.heap.size ≤ (v119).heap.size) := Nat.le_trans SZ.out hb.size
        replace SL : Hid (w.heap.size < (v119).heap.size) := Nat.lt_of_lt_of_le SL.out hb.size
        replace CD : Hid (Code8 v119 (some ⟨cb, 0, none⟩) s.size (strB s)) := CD.out.below hb
        replace XC : Hid (Code8 v119 (some ⟨xb, 0, none⟩) 4 slotX) := XC.out.below hb
        replace XL : Hid (xb < (v119).heap.size) := Nat.lt_of_lt_of_le XL.out hb.size
        replace FR : Hid (RowM v119 fb 4 4 U) := FR.out.below hb
        replace H : (CellAt v119 w.heap.size 0 (.int .i64 (ep : Int))) ∧ (CellAt v119 w.heap.size 1 (.string s)) := ⟨(H.1).below hb, (H.2).below hb⟩
        have SD : Hid (Code8 v119 (some ⟨sb, 0, none⟩) (s.size + 16) F) := ho.code
        clear hb ho
        refine hK.out _ _ H (fun _ => ?_)
        clear hK KK
        change wpAnyH _ _ _ _ _ _ _ { tmps := #[_,_,_,_,_,_,_,_,_,_,_,_,_,_,_,_,_,_,_,_,_,_], defers := _ } _
        refine wpAnyH_ready (rs := [14]) (by kernel_rfl) (by simp) ?_
        refine AllReadyH.cons rfl (fun KK hK => ?_) AllReadyH.nil
        obtain ⟨ag, ac, v120, hr, hm, hb, hag⟩ := appendM v119 (w.heap.size + 1) fb 4 4 U sb 0 (s.size + 16) sc F FH.out SL.out (by have := HS.out; omega) FR.out SD.out 88
        rw [if_pos (by rfl)]
        refine Lib.wp_append_run _ (.tmp 9) (.tmp 20) 88 88 rfl _ _ rfl rfl _ _ hr ?_
        have e20 : 4 + (s.size + 16) = 20 + s.size := by omega
        rw [e20]; rw [e20] at hm hr
        have R9 : Hid (RowM v120 ag (20 + s.size) ac GG) := hm.congr (fun i _ => EF.out i)
        have B9 : Hid (Below w.heap.size w v120) := A1.out.trans (hb.mono (Nat.le_succ _))
        replace H : (CellAt v120 w.heap.size 0 (.int .i64 (ep : Int))) ∧ (CellAt v120 w.heap.size 1 (.string s)) := ⟨(hb.cell (p := ⟨w.heap.size, 0, none⟩) (Nat.lt_succ_self _)).trans (H.1), (hb.cell (p := ⟨w.heap.size, 1, none⟩) (Nat.lt_succ_self _)).trans (H.2)⟩
        have HAG : Hid (w.heap.size ≤ ag) := Nat.le_trans (Nat.le_succ _) hag
        refine hK.out _ _ H (fun _ => ?_)
        clear hK KK hr hm hb hag e20 SZ SL CD XC XL FR SD A1 NE FH XG
        change wpAnyH _ _ _ _ _ _ _ { tmps := #[_,_,_,_,_,_,_,_,_,_,_,_,_,_,_,_,_,_,_,_,_,_], defers := _ } _
        refine wpAnyH_take (i := 15) (v := .slice (some ⟨ag, 0, none⟩) (20 + s.size) ac) rfl (by kernel_rfl) (by kernel_rfl) (by kernel_rfl) (fun _ _ _ h => h) (Or.inl ⟨by rfl, ?_⟩) H ?_
        · intro w' hSw; go_simp
        change wpAnyH _ _ _ _ _ _ _ { tmps := #[_,_,_,_,_,_,_,_,_,_,_,_,_,_,_,_,_,_,_,_,_,_], defers := _ } _
        refine wpAnyH_done (by kernel_rfl) ?_ _
        refine NoPanic.normal ?_
        clear H FO NO SE EF HS
        go_wp2
        go_ret
        exact ⟨⟨ag, ac, rfl, HAG.out, R9.out⟩, B9.out⟩
  · skip
    obtain ⟨v121, gc, hcv, hx, hb, hgc⟩ := bytesOfM s v2
    go_simp
    replace A1 : Hid (Below w.heap.size w v121) := A1.out.trans (hb.mono A1.out.size)
    replace SZ : Hid (w.heap.size ≤ (v121).heap.size) := Nat.le_trans SZ.out hb.size
    replace SL : Hid (w.heap.size < (v121).heap.size) := Nat.lt_of_lt_of_le SL.out hb.size
    replace H : (CellAt v121 w.heap.size 0 (.int .i64 (ep : Int))) ∧ (CellAt v121 w.heap.size 1 (.string s)) := ⟨(H.1).below hb, (H.2).below hb⟩
    have CD : Hid (Code8 v121 (some ⟨v2.heap.size, 0, none⟩) s.size (strB s)) := hx
    obtain ⟨cb, hcb⟩ : ∃ x, x = v2.heap.size := ⟨_, rfl⟩
    rw [← hcb] at CD ⊢
    clear hcv hx hb hcb hgc
    refine hK.out _ _ H (fun _ => ?_)
    clear hK KK
    change wpAnyH _ _ _ _ _ _ _ { tmps := #[_,_,_,_,_,_,_,_,_,_,_,_,_,_,_,_,_,_,_,_,_,_], defers := _ } _
    refine wpAnyH_ready (rs := [2, 8]) (by kernel_rfl) (by simp) ?_
    refine (AllReadyH.cons rfl (fun KK hK => ?_) (AllReadyH.cons rfl (fun KK hK => ?_) AllReadyH.nil))
    · skip
      go_simp
      have FH : Hid (w.heap.size + 1 ≤ v121.heap.size) := SL.out
      refine (FO.out _).mono ?_
      rintro e v122 ⟨⟨rfl, ho⟩, hb⟩
      replace A1 : Hid (Below w.heap.size w v122) := A1.out.trans (hb.mono A1.out.size)
      replace SZ : Hid (w.heap.size ≤ (v122).heap.size) := Nat.le_trans SZ.out hb.size
      replace SL : Hid (w.heap.size < (v122).heap.size) := Nat.lt_of_lt_of_le SL.out hb.size
      replace CD : Hid (Code8 v122 (some ⟨cb, 0, none⟩) s.size (strB s)) := CD.out.below hb
      have FR : Hid (RowM v122 v121.heap.size 4 4 U) := rowM_of_own8 ho
      replace H : (CellAt v122 w.heap.size 0 (.int .i64 (ep : Int))) ∧ (CellAt v122 w.heap.size 1 (.string s)) := ⟨(H.1).below hb, (H.2).below hb⟩
      obtain ⟨fb, hfb⟩ : ∃ x, x = v121.heap.size := ⟨_, rfl⟩
      rw [← hfb] at FR FH ⊢
      clear hb ho hfb
      refine hK.out _ _ H (fun _ => ?_)
      clear hK KK
      change wpAnyH _ _ _ _ _ _ _ { tmps := #[_,_,_,_,_,_,_,_,_,_,_,_,_,_,_,_,_,_,_,_,_,_], defers := _ } _
      refine wpAnyH_ready (rs := [7, 8]) (by kernel_rfl) (by simp) ?_
      refine (AllReadyH.cons rfl (fun KK hK => ?_) (AllReadyH.cons rfl (fun KK hK => ?_) AllReadyH.nil))
      · skip
        go_simp
        refine (NO.out _).mono ?_
        rintro e v123 ⟨rfl, hb⟩
        replace A1 : Hid (Below w.heap.size w v123) := A1.out.trans (hb.mono A1.out.size)
        replace SZ : Hid (w.heap.size ≤ (v123).heap.size) := Nat.le_trans SZ.out hb.size
        replace SL : Hid (w.heap.size < (v123).heap.size) := Nat.lt_of_lt_of_le SL.out hb.size
        replace CD : Hid (Code8 v123 (some ⟨cb, 0, none⟩) s.size (strB s)) := CD.out.below hb
        replace FR : Hid (RowM v123 fb 4 4 U) := FR.out.below hb
        replace H : (CellAt v123 w.heap.size 0 (.int .i64 (ep : Int))) ∧ (CellAt v123 w.heap.size 1 (.string s)) := ⟨(H.1).below hb, (H.2).below hb⟩
        clear hb
        refine hK.out _ _ H (fun _ => ?_)
        clear hK KK
        change wpAnyH _ _ _ _ _ _ _ { tmps := #[_,_,_,_,_,_,_,_,_,_,_,_,_,_,_,_,_,_,_,_,_,_], defers := _ } _
        refine wpAnyH_ready (rs := [8]) (by kernel_rfl) (by simp) ?_
        refine (AllReadyH.cons rfl (fun KK hK => ?_) AllReadyH.nil)
        have hb : Below v123.heap.size v123 (v123.alloc (.cells #[.int .u8 115, .int .u8 108, .int .u8 111, .int .u8 116] 5)) := (Below.refl _ _).alloc (Nat.le_refl _) _
        have LX : Hid (LitX (v123.alloc (.cells #[.int .u8 115, .int .u8 108, .int .u8 111, .int .u8 116] 5)) v123.heap.size) := LitX.made _
        have NE : Hid (fb ≠ v123.heap.size) := by have := FR.out.2.2.2; exact fun e => by omega
        have XG : Hid (w.heap.size < v123.heap.size) := SL.out
        go_simp
        replace H : (CellAt (v123.alloc (.cells #[.int .u8 115, .int .u8 108, .int .u8 111, .int .u8 116] 5)) w.heap.size 0 (.int .i64 (ep : Int))) ∧ (CellAt (v123.alloc (.cells #[.int .u8 115, .int .u8 108, .int .u8 111, .int .u8 116] 5)) w.heap.size 1 (.string s)) := ⟨(H.1).below hb, (H.2).below hb⟩
        generalize (v123.alloc (.cells #[.int .u8 115, .int .u8 108, .int .u8 111, .int .u8 116] 5)) = v124 at *
        replace A1 : Hid (Below w.heap.size w v124) := A1.out.trans (hb.mono A1.out.size)
        replace SZ : Hid (w.heap.size ≤ (v124).heap.size) := Nat.le_trans SZ.out hb.size
        replace SL : Hid (w.heap.size < (v124).heap.size) := Nat.lt_of_lt_of_le SL.out hb.size
        replace CD : Hid (Code8 v124 (some ⟨cb, 0, none⟩) s.size (strB s)) := CD.out.below hb
        replace FR : Hid (RowM v124 fb 4 4 U) := FR.out.below hb
        obtain ⟨xb, hxb⟩ : ∃ x, x = v123.heap.size := ⟨_, rfl⟩
        rw [← hxb] at LX XG NE ⊢
        clear hb hxb
        refine hK.out _ _ H (fun _ => ?_)
        clear hK KK
        change wpAnyH _ _ _ _ _ _ _ { tmps := #[_,_,_,_,_,_,_,_,_,_,_,_,_,_,_,_,_,_,_,_,_,_], defers := _ } _
        refine wpAnyH_ready (rs := [9]) (by kernel_rfl) (by simp) ?_
        refine (AllReadyH.cons rfl (fun KK hK => ?_) AllReadyH.nil)
        obtain ⟨v125, hcv, hx, ho, hce⟩ := conv_lit v124 xb LX.out
        go_simp
        have hsz : v124.heap.size ≤ v125.heap.size := ho.size
        replace A1 : Hid (Below w.heap.size w v125) := A1.out.trans (ho.toBelow (Nat.le_of_lt XG.out) A1.out.size)
        have XL : Hid (xb < v125.heap.size) := Nat.lt_of_lt_of_le LX.out.lt ho.size
        replace SZ : Hid (w.heap.size ≤ (v125).heap.size) := Nat.le_trans SZ.out ho.size
        replace SL : Hid (w.heap.size < (v125).heap.size) := Nat.lt_of_lt_of_le SL.out ho.size
        replace CD : Hid (Code8 v125 (some ⟨cb, 0, none⟩) s.size (strB s)) := code8_cells CD.out hce
        replace FR : Hid (RowM v125 fb 4 4 U) := FR.out.onlyB ho NE.out
        replace H : (CellAt v125 w.heap.size 0 (.int .i64 (ep : Int))) ∧ (CellAt v125 w.heap.size 1 (.string s)) := ⟨(hce _).trans (H.1), (hce _).trans (H.2)⟩
        have XC : Hid (Code8 v125 (some ⟨xb, 0, none⟩) 4 slotX) := hx
        clear hcv hx ho hce hsz LX
        refine hK.out _ _ H (fun _ => ?_)
        clear hK KK
        change wpAnyH _ _ _ _ _ _ _ { tmps := #[_,_,_,_,_,_,_,_,_,_,_,_,_,_,_,_,_,_,_,_,_,_], defers := _ } _
        refine wpAnyH_ready (rs := [13]) (by kernel_rfl) (by simp) ?_
        refine (AllReadyH.cons rfl (fun KK hK => ?_) AllReadyH.nil)
        go_simp
        refine (SE.out _ _ _ _ _ XC.out CD.out).mono ?_
        rintro e v126 ⟨⟨sb, sc, -, rfl, ho⟩, hb⟩
        replace A1 : Hid (Below w.heap.size w v126) := A1.out.trans (hb.mono A1.out.size)
        replace SZ : Hid (w.heap.size ≤ (v126).heap.size) := Nat.le_trans SZ.out hb.size
        replace SL : Hid (w.heap.size < (v126).heap.size) := Nat.lt_of_lt_of_le SL.out hb.size
        replace CD : Hid (Code8 v126 (some ⟨cb, 0, none⟩) s.size (strB s)) := CD.out.below hb
        replace FR : Hid (RowM v126 fb 4 4 U) := FR.out.below hb
        replace XC : Hid (Code8 v126 (some ⟨xb, 0, none⟩) 4 slotX) := XC.out.below hb
        replace XL : Hid (xb < (v126).heap.size) := Nat.lt_of_lt_of_le XL.out hb.size
        replace H : (CellAt v126 w.heap.size 0 (.int .i64 (ep : Int))) ∧ (CellAt v126 w.heap.size 1 (.string s)) := ⟨(H.1).below hb, (H.2).below hb⟩
        have SD : Hid (Code8 v126 (some ⟨sb, 0, none⟩) (s.size + 16) F) := ho.code
        clear hb ho
        refine hK.out _ _ H (fun _ => ?_)
        clear hK KK
        change wpAnyH _ _ _ _ _ _ _ { tmps := #[_,_,_,_,_,_,_,_,_,_,_,_,_,_,_,_,_,_,_,_,_,_], defers := _ } _
        refine wpAnyH_ready (rs := [14]) (by kernel_rfl) (by simp) ?_
        refine AllReadyH.cons rfl (fun KK hK => ?_) AllReadyH.nil
        obtain ⟨ag, ac, v127, hr, hm, hb, hag⟩ := appendM v126 (w.heap.size + 1) fb 4 4 U sb 0 (s.size + 16) sc F FH.out SL.out (by have := HS.out; omega) FR.out SD.out 88
        rw [if_pos (by rfl)]
        refine Lib.wp_append_run _ (.tmp 9) (.tmp 20) 88 88 rfl _ _ rfl rfl _ _ hr ?_
        have e20 : 4 + (s.size + 16) = 20 + s.size := by omega
        rw [e20]; rw [e20] at hm hr
        have R9 : Hid (RowM v127 ag (20 + s.size) ac GG) := hm.congr (fun i _ => EF.out i)
        have B9 : Hid (Below w.heap.size w v127) := A1.out.trans (hb.mono (Nat.le_succ _))
        replace H : (CellAt v127 w.heap.size 0 (.int .i64 (ep : Int))) ∧ (CellAt v127 w.heap.size 1 (.string s)) := ⟨(hb.cell (p := ⟨w.heap.size, 0, none⟩) (Nat.lt_succ_self _)).trans (H.1), (hb.cell (p := ⟨w.heap.size, 1, none⟩) (Nat.lt_succ_self _)).trans (H.2)⟩
        have HAG : Hid (w.heap.size ≤ ag) := Nat.le_trans (Nat.le_succ _) hag
        refine hK.out _ _ H (fun _ => ?_)
        clear hK KK hr hm hb hag e20 SZ SL CD FR XC XL SD A1 NE FH XG
        change wpAnyH _ _ _ _ _ _ _ { tmps := #[_,_,_,_,_,_,_,_,_,_,_,_,_,_,_,_,_,_,_,_,_,_], defers := _ } _
        refine wpAnyH_take (i := 15) (v := .slice (some ⟨ag, 0, none⟩) (20 + s.size) ac) rfl (by kernel_rfl) (by kernel_rfl) (by kernel_rfl) (fun _ _ _ h => h) (Or.inl ⟨by rfl, ?_⟩) H ?_
        · intro w' hSw; go_simp
        change wpAnyH _ _ _ _ _ _ _ { tmps := #[_,_,_,_,_,_,_,_,_,_,_,_,_,_,_,_,_,_,_,_,_,_], defers := _ } _
        refine wpAnyH_done (by kernel_rfl) ?_ _
        refine NoPanic.normal ?_
        clear H FO NO SE EF HS
        go_wp2
        go_ret
        exact ⟨⟨ag, ac, rfl, HAG.out, R9.out⟩, B9.out⟩
      · skip
        have hb : Below v122.heap.size v122 (v122.alloc (.cells #[.int .u8 115, .int .u8 108, .int .u8 111, .int .u8 116] 5)) := (Below.refl _ _).alloc (Nat.le_refl _) _
        have LX : Hid (LitX (v122.alloc (.cells #[.int .u8 115, .int .u8 108, .int .u8 111, .int .u8 116] 5)) v122.heap.size) := LitX.made _
        have NE : Hid (fb ≠ v122.heap.size) := by have := FR.out.2.2.2; exact fun e => by omega
        have XG : Hid (w.heap.size < v122.heap.size) := SL.out
        go_simp
        replace H : (CellAt (v122.alloc (.cells #[.int .u8 115, .int .u8 108, .int .u8 111, .int .u8 116] 5)) w.heap.size 0 (.int .i64 (ep : Int))) ∧ (CellAt (v122.alloc (.cells #[.int .u8 115, .int .u8 108, .int .u8 111, .int .u8 116] 5)) w.heap.size 1 (.string s)) := ⟨(H.1).below hb, (H.2).below hb⟩
        generalize (v122.alloc (.cells #[.int .u8 115, .int .u8 108, .int .u8 111, .int .u8 116] 5)) = v128 at *
        replace A1 : Hid (Below w.heap.size w v128) := A1.out.trans (hb.mono A1.out.size)
        replace SZ : Hid (w.heap.size ≤ (v128).heap.size) := Nat.le_trans SZ.out hb.size
        replace SL : Hid (w.heap.size < (v128).heap.size) := Nat.lt_of_lt_of_le SL.out hb.size
        replace CD : Hid (Code8 v128 (some ⟨cb, 0, none⟩) s.size (strB s)) := CD.out.below hb
        replace FR : Hid (RowM v128 fb 4 4 U) := FR.out.below hb
        obtain ⟨xb, hxb⟩ : ∃ x, x = v122.heap.size := ⟨_, rfl⟩
        rw [← hxb] at LX XG NE ⊢
        clear hb hxb
        refine hK.out _ _ H (fun _ => ?_)
        clear hK KK
        change wpAnyH _ _ _ _ _ _ _ { tmps := #[_,_,_,_,_,_,_,_,_,_,_,_,_,_,_,_,_,_,_,_,_,_], defers := _ } _
        refine wpAnyH_ready (rs := [7, 9]) (by kernel_rfl) (by simp) ?_
        refine (AllReadyH.cons rfl (fun KK hK => ?_) (AllReadyH.cons rfl (fun KK hK => ?_) AllReadyH.nil))
        · skip
          go_simp
          refine (NO.out _).mono ?_
          rintro e v129 ⟨rfl, hb⟩
          replace A1 : Hid (Below w.heap.size w v129) := A1.out.trans (hb.mono A1.out.size)
          replace SZ : Hid (w.heap.size ≤ (v129).heap.size) := Nat.le_trans SZ.out hb.size
          replace SL : Hid (w.heap.size < (v129).heap.size) := Nat.lt_of_lt_of_le SL.out hb.size
          replace CD : Hid (Code8 v129 (some ⟨cb, 0, none⟩) s.size (strB s)) := CD.out.below hb
          replace FR : Hid (RowM v129 fb 4 4 U) := FR.out.below hb
          replace LX : Hid (LitX v129 xb) := LX.out.below hb
          replace H : (CellAt v129 w.heap.size 0 (.int .i64 (ep : Int))) ∧ (CellAt v129 w.heap.size 1 (.string s)) := ⟨(H.1).below hb, (H.2).below hb⟩
          clear hb
          refine hK.out _ _ H (fun _ => ?_)
          clear hK KK
          change wpAnyH _ _ _ _ _ _ _ { tmps := #[_,_,_,_,_,_,_,_,_,_,_,_,_,_,_,_,_,_,_,_,_,_], defers := _ } _
          refine wpAnyH_ready (rs := [9]) (by kernel_rfl) (by simp) ?_
          refine (AllReadyH.cons rfl (fun KK hK => ?_) AllReadyH.nil)
          obtain ⟨v130, hcv, hx, ho, hce⟩ := conv_lit v129 xb LX.out
          go_simp
          have hsz : v129.heap.size ≤ v130.heap.size := ho.size
          replace A1 : Hid (Below w.heap.size w v130) := A1.out.trans (ho.toBelow (Nat.le_of_lt XG.out) A1.out.size)
          have XL : Hid (xb < v130.heap.size) := Nat.lt_of_lt_of_le LX.out.lt ho.size
          replace SZ : Hid (w.heap.size ≤ (v130).heap.size) := Nat.le_trans SZ.out ho.size
          replace SL : Hid (w.heap.size < (v130).heap.size) := Nat.lt_of_lt_of_le SL.out ho.size
          replace CD : Hid (Code8 v130 (some ⟨cb, 0, none⟩) s.size (strB s)) := code8_cells CD.out hce
          replace FR : Hid (RowM v130 fb 4 4 U) := FR.out.onlyB ho NE.out
          replace H : (CellAt v130 w.heap.size 0 (.int .i64 (ep : Int))) ∧ (CellAt v130 w.heap.size 1 (.string s)) := ⟨(hce _).trans (H.1), (hce _).trans (H.2)⟩
          have XC : Hid (Code8 v130 (some ⟨xb, 0, none⟩) 4 slotX) := hx
          clear hcv hx ho hce hsz LX
          refine hK.out _ _ H (fun _ => ?_)
          clear hK KK
          change wpAnyH _ _ _ _ _ _ _ { tmps := #[_,_,_,_,_,_,_,_,_,_,_,_,_,_,_,_,_,_,_,_,_,_], defers := _ } _
          refine wpAnyH_ready (rs := [13]) (by kernel_rfl) (by simp) ?_
          refine (AllReadyH.cons rfl (fun KK hK => ?_) AllReadyH.nil)
          go_simp
          refine (SE.out _ _ _ _ _ XC.out CD.out).mono ?_
          rintro e v131 ⟨⟨sb, sc, -, rfl, ho⟩, hb⟩
          replace A1 : Hid (Below w.heap.size w v131) := A1.out.trans (hb.mono A1.out.size)
          replace SZ : Hid (w.heap.size ≤ (v131).heap.size) := Nat.le_trans SZ.out hb.size
          replace SL : Hid (w.heap.size < (v131).heap.size) := Nat.lt_of_lt_of_le SL.out hb.size
          replace CD : Hid (Code8 v131 (some ⟨cb, 0, none⟩) s.size (strB s)) := CD.out.below hb
          replace FR : Hid (RowM v131 fb 4 4 U) := FR.out.below hb
          replace XC : Hid (Code8 v131 (some ⟨xb, 0, none⟩) 4 slotX) := XC.out.below hb
          replace XL : Hid (xb < (v131).heap.size) := Nat.lt_of_lt_of_le XL.out hb.size
          replace H : (CellAt v131 w.heap.size 0 (.int .i64 (ep : Int))) ∧ (CellAt v131 w.heap.size 1 (.string s)) := ⟨(H.1).below hb, (H.2).below hb⟩
          have SD : Hid (Code8 v131 (some ⟨sb, 0, none⟩) (s.size + 16) F) := ho.code
          clear hb ho
          refine hK.out _ _ H (fun _ => ?_)
          clear hK KK
          change wpAnyH _ _ _ _ _ _ _ { tmps := #[_,_,_,_,_,_,_,_,_,_,_,_,_,_,_,_,_,_,_,_,_,_], defers := _ } _
          refine wpAnyH_ready (rs := [14]) (by kernel_rfl) (by simp) ?_
          refine AllReadyH.cons rfl (fun KK hK => ?_) AllReadyH.nil
          obtain ⟨ag, ac, v132, hr, hm, hb, hag⟩ := appendM v131 (w.heap.size + 1) fb 4 4 U sb 0 (s.size + 16) sc F FH.out SL.out (by have := HS.out; omega) FR.out SD.out 88
          rw [if_pos (by rfl)]
          refine Lib.wp_append_run _ (.tmp 9) (.tmp 20) 88 88 rfl _ _ rfl rfl _ _ hr ?_
          have e20 : 4 + (s.size + 16) = 20 + s.size := by omega
          rw [e20]; rw [e20] at hm hr
          have R9 : Hid (RowM v132 ag (20 + s.size) ac GG) := hm.congr (fun i _ => EF.out i)
          have B9 : Hid (Below w.heap.size w v132) := A1.out.trans (hb.mono (Nat.le_succ _))
          replace H : (CellAt v132 w.heap.size 0 (.int .i64 (ep : Int))) ∧ (CellAt v132 w.heap.size 1 (.string s)) := ⟨(hb.cell (p := ⟨w.heap.size, 0, none⟩) (Nat.lt_succ_self _)).trans (H.1), (hb.cell (p := ⟨w.heap.size, 1, none⟩) (Nat.lt_succ_self _)).trans (H.2)⟩
          have HAG : Hid (w.heap.size ≤ ag) := Nat.le_trans (Nat.le_succ _) hag
          refine hK.out _ _ H (fun _ => ?_)
          clear hK KK hr hm hb hag e20 SZ SL CD FR XC XL SD A1 NE FH XG
          change wpAnyH _ _ _ _ _ _ _ { tmps := #[_,_,_,_,_,_,_,_,_,_,_,_,_,_,_,_,_,_,_,_,_,_], defers := _ } _
          refine wpAnyH_take (i := 15) (v := .slice (some ⟨ag, 0, none⟩) (20 + s.size) ac) rfl (by kernel_rfl) (by kernel_rfl) (by kernel_rfl) (fun _ _ _ h => h) (Or.inl ⟨by rfl, ?_⟩) H ?_
          · intro w' hSw; go_simp
          change wpAnyH _ _ _ _ _ _ _ { tmps := #[_,_,_,_,_,_,_,_,_,_,_,_,_,_,_,_,_,_,_,_,_,_], defers := _ } _
          refine wpAnyH_done (by kernel_rfl) ?_ _
          refine NoPanic.normal ?_
          clear H FO NO SE EF HS
          go_wp2
          go_ret
          exact ⟨⟨ag, ac, rfl, HAG.out, R9.out⟩, B9.out⟩
        · skip
          obtain ⟨v133, hcv, hx, ho, hce⟩ := conv_lit v128 xb LX.out
          go_simp
          have hsz : v128.heap.size ≤ v133.heap.size := ho.size
          replace A1 : Hid (Below w.heap.size w v133) := A1.out.trans (ho.toBelow (Nat.le_of_lt XG.out) A1.out.size)
          have XL : Hid (xb < v133.heap.size) := Nat.lt_of_lt_of_le LX.out.lt ho.size
          replace SZ : Hid (w.heap.size ≤ (v133).heap.size) := Nat.le_trans SZ.out ho.size
          replace SL : Hid (w.heap.size < (v133).heap.size) := Nat.lt_of_lt_of_le SL.out ho.size
          replace CD : Hid (Code8 v133 (some ⟨cb, 0, none⟩) s.size (strB s)) := code8_cells CD.out hce
          replace FR : Hid (RowM v133 fb 4 4 U) := FR.out.onlyB ho NE.out
          replace H : (CellAt v133 w.heap.size 0 (.int .i64 (ep : Int))) ∧ (CellAt v133 w.heap.size 1 (.string s)) := ⟨(hce _).trans (H.1), (hce _).trans (H.2)⟩
          have XC : Hid (Code8 v133 (some ⟨xb, 0, none⟩) 4 slotX) := hx
          clear hcv hx ho hce hsz LX
          refine hK.out _ _ H (fun _ => ?_)
          clear hK KK
          change wpAnyH _ _ _ _ _ _ _ { tmps := #[_,_,_,_,_,_,_,_,_,_,_,_,_,_,_,_,_,_,_,_,_,_], defers := _ } _
          refine wpAnyH_ready (rs := [7]) (by kernel_rfl) (by simp) ?_
          refine (AllReadyH.cons rfl (fun KK hK => ?_) AllReadyH.nil)
          go_simp
          refine (NO.out _).mono ?_
          rintro e v134 ⟨rfl, hb⟩
          replace A1 : Hid (Below w.heap.size w v134) := A1.out.trans (hb.mono A1.out.size)
          replace SZ : Hid (w.heap.size ≤ (v134).heap.size) := Nat.le_trans SZ.out hb.size
          replace SL : Hid (w.heap.size < (v134).heap.size) := Nat.lt_of_lt_of_le SL.out hb.size
          replace CD : Hid (Code8 v134 (some ⟨cb, 0, none⟩) s.size (strB s)) := CD.out.below hb
          replace FR : Hid (RowM v134 fb 4 4 U) := FR.out.below hb
          replace XC : Hid (Code8 v134 (some ⟨xb, 0, none⟩) 4 slotX) := XC.out.below hb
          replace XL : Hid (xb < (v134).heap.size) := Nat.lt_of_lt_of_le XL.out hb.size
          replace H : (CellAt v134 w.heap.size 0 (.int .i64 (ep : Int))) ∧ (CellAt v134 w.heap.size 1 (.string s)) := ⟨(H.1).below hb, (H.2).below hb⟩
          clear hb
          refine hK.out _ _ H (fun _ => ?_)
          clear hK KK
          change wpAnyH _ _ _ _ _ _ _ { tmps := #[_,_,_,_,_,_,_,_,_,_,_,_,_,_,_,_,_,_,_,_,_,_], defers := _ } _
          refine wpAnyH_ready (rs := [13]) (by kernel_rfl) (by simp) ?_
          refine (AllReadyH.cons rfl (fun KK hK => ?_) AllReadyH.nil)
          go_simp
          refine (SE.out _ _ _ _ _ XC.out CD.out).mono ?_
          rintro e v135 ⟨⟨sb, sc, -, rfl, ho⟩, hb⟩
          replace A1 : Hid (Below w.heap.size w v135) := A1.out.trans (hb.mono A1.out.size)
          replace SZ : Hid (w.heap.size ≤ (v135).heap.size) := Nat.le_trans SZ.out hb.size
          replace SL : Hid (w.heap.size < (v135).heap.size) := Nat.lt_of_lt_of_le SL.out hb.size
          replace CD : Hid (Code8 v135 (some ⟨cb, 0, none⟩) s.size (strB s)) := CD.out.below hb
          replace FR : Hid (RowM v135 fb 4 4 U) := FR.out.below hb
          replace XC : Hid (Code8 v135 (some ⟨xb, 0, none⟩) 4 slotX) := XC.out.below hb
          replace XL : Hid (xb < (v135).heap.size) := Nat.lt_of_lt_of_le XL.out hb.size
          replace H : (CellAt v135 w.heap.size 0 (.int .i64 (ep : Int))) ∧ (CellAt v135 w.heap.size 1 (.string s)) := ⟨(H.1).below hb, (H.2).below hb⟩
          have SD : Hid (Code8 v135 (some ⟨sb, 0, none⟩) (s.size + 16) F) := ho.code
          clear hb ho
          refine hK.out _ _ H (fun _ => ?_)
          clear hK KK
          change wpAnyH _ _ _ _ _ _ _ { tmps := #[_,_,_,_,_,_,_,_,_,_,_,_,_,_,_,_,_,_,_,_,_,_], defers := _ } _
          refine wpAnyH_ready (rs := [14]) (by kernel_rfl) (by simp) ?_
          refine AllReadyH.cons rfl (fun KK hK => ?_) AllReadyH.nil
          obtain ⟨ag, ac, v136, hr, hm, hb, hag⟩ := appendM v135 (w.heap.size + 1) fb 4 4 U sb 0 (s.size + 16) sc F FH.out SL.out (by have := HS.out; omega) FR.out SD.out 88
          rw [if_pos (by rfl)]
          refine Lib.wp_append_run _ (.tmp 9) (.tmp 20) 88 88 rfl _ _ rfl rfl _ _ hr ?_
          have e20 : 4 + (s.size + 16) = 20 + s.size := by omega
          rw [e20]; rw [e20] at hm hr
          have R9 : Hid (RowM v136 ag (20 + s.size) ac GG) := hm.congr (fun i _ => EF.out i)
          have B9 : Hid (Below w.heap.size w v136) := A1.out.trans (hb.mono (Nat.le_succ _))
          replace H : (CellAt v136 w.heap.size 0 (.int .i64 (ep : Int))) ∧ (CellAt v136 w.heap.size 1 (.string s)) := ⟨(hb.cell (p := ⟨w.heap.size, 0, none⟩) (Nat.lt_succ_self _)).trans (H.1), (hb.cell (p := ⟨w.heap.size, 1, none⟩) (Nat.lt_succ_self _)).trans (H.2)⟩
          have HAG : Hid (w.heap.size ≤ ag) := Nat.le_trans (Nat.le_succ _) hag
          refine hK.out _ _ H (fun _ => ?_)
          clear hK KK hr hm hb hag e20 SZ SL CD FR XC XL SD A1 NE FH XG
          change wpAnyH _ _ _ _ _ _ _ { tmps := #[_,_,_,_,_,_,_,_,_,_,_,_,_,_,_,_,_,_,_,_,_,_], defers := _ } _
          refine wpAnyH_take (i := 15) (v := .slice (some ⟨ag, 0, none⟩) (20 + s.size) ac) rfl (by kernel_rfl) (by kernel_rfl) (by kernel_rfl) (fun _ _ _ h => h) (Or.inl ⟨by rfl, ?_⟩) H ?_
          · intro w' hSw; go_simp
          change wpAnyH _ _ _ _ _ _ _ { tmps := #[_,_,_,_,_,_,_,_,_,_,_,_,_,_,_,_,_,_,_,_,_,_], defers := _ } _
          refine wpAnyH_done (by kernel_rfl) ?_ _
          refine NoPanic.normal ?_
          clear H FO NO SE EF HS
          go_wp2
          go_ret
          exact ⟨⟨ag, ac, rfl, HAG.out, R9.out⟩, B9.out⟩
    · skip
      have hb : Below v121.heap.size v121 (v121.alloc (.cells #[.int .u8 115, .int .u8 108, .int .u8 111, .int .u8 116] 5)) := (Below.refl _ _).alloc (Nat.le_refl _) _
      have LX : Hid (LitX (v121.alloc (.cells #[.int .u8 115, .int .u8 108, .int .u8 111, .int .u8 116] 5)) v121.heap.size) := LitX.made _
      have XG : Hid (w.heap.size < v121.heap.size) := SL.out
      go_simp
      replace H : (CellAt (v121.alloc (.cells #[.int .u8 115, .int .u8 108, .int .u8 111, .int .u8 116] 5)) w.heap.size 0 (.int .i64 (ep : Int))) ∧ (CellAt (v121.alloc (.cells #[.int .u8 115, .int .u8 108, .int .u8 111, .int .u8 116] 5)) w.heap.size 1 (.string s)) := ⟨(H.1).below hb, (H.2).below hb⟩
      generalize (v121.alloc (.cells #[.int .u8 115, .int .u8 108, .int .u8 111, .int .u8 116] 5)) = v137 at *
      replace A1 : Hid (Below w.heap.size w v137) := A1.out.trans (hb.mono A1.out.size)
      replace SZ : Hid (w.heap.size ≤ (v137).heap.size) := Nat.le_trans SZ.out hb.size
      replace SL : Hid (w.heap.size < (v137).heap.size) := Nat.lt_of_lt_of_le SL.out hb.size
      replace CD : Hid (Code8 v137 (some ⟨cb, 0, none⟩) s.size (strB s)) := CD.out.below hb
      obtain ⟨xb, hxb⟩ : ∃ x, x = v121.heap.size := ⟨_, rfl⟩
      rw [← hxb] at LX XG ⊢
      clear hb hxb
      refine hK.out _ _ H (fun _ => ?_)
      clear hK KK
      change wpAnyH _ _ _ _ _ _ _ { tmps := #[_,_,_,_,_,_,_,_,_,_,_,_,_,_,_,_,_,_,_,_,_,_], defers := _ } _
      refine wpAnyH_ready (rs := [2, 9]) (by kernel_rfl) (by simp) ?_
      refine (AllReadyH.cons rfl (fun KK hK => ?_) (AllReadyH.cons rfl (fun KK hK => ?_) AllReadyH.nil))
      · skip
        go_simp
        have NE : Hid (v137.heap.size ≠ xb) := by have := LX.out.lt; exact fun e => by omega
        have FH : Hid (w.heap.size + 1 ≤ v137.heap.size) := SL.out
        refine (FO.out _).mono ?_
        rintro e v138 ⟨⟨rfl, ho⟩, hb⟩
        replace A1 : Hid (Below w.heap.size w v138) := A1.out.trans (hb.mono A1.out.size)
        replace SZ : Hid (w.heap.size ≤ (v138).heap.size) := Nat.le_trans SZ.out hb.size
        replace SL : Hid (w.heap.size < (v138).heap.size) := Nat.lt_of_lt_of_le SL.out hb.size
        replace CD : Hid (Code8 v138 (some ⟨cb, 0, none⟩) s.size (strB s)) := CD.out.below hb
        replace LX : Hid (LitX v138 xb) := LX.out.below hb
        have FR : Hid (RowM v138 v137.heap.size 4 4 U) := rowM_of_own8 ho
        replace H : (CellAt v138 w.heap.size 0 (.int .i64 (ep : Int))) ∧ (CellAt v138 w.heap.size 1 (.string s)) := ⟨(H.1).below hb, (H.2).below hb⟩
        obtain ⟨fb, hfb⟩ : ∃ x, x = v137.heap.size := ⟨_, rfl⟩
        rw [← hfb] at FR FH NE ⊢
        clear hb ho hfb
        refine hK.out _ _ H (fun _ => ?_)
        clear hK KK
        change wpAnyH _ _ _ _ _ _ _ { tmps := #[_,_,_,_,_,_,_,_,_,_,_,_,_,_,_,_,_,_,_,_,_,_], defers := _ } _
        refine wpAnyH_ready (rs := [7, 9]) (by kernel_rfl) (by simp) ?_
        refine (AllReadyH.cons rfl (fun KK hK => ?_) (AllReadyH.cons rfl (fun KK hK => ?_) AllReadyH.nil))
        · skip
          go_simp
          refine (NO.out _).mono ?_
          rintro e v139 ⟨rfl, hb⟩
          replace A1 : Hid (Below w.heap.size w v139) := A1.out.trans (hb.mono A1.out.size)
          replace SZ : Hid (w.heap.size ≤ (v139).heap.size) := Nat.le_trans SZ.out hb.size
          replace SL : Hid (w.heap.size < (v139).heap.size) := Nat.lt_of_lt_of_le SL.out hb.size
          replace CD : Hid (Code8 v139 (some ⟨cb, 0, none⟩) s.size (strB s)) := CD.out.below hb
          replace LX : Hid (LitX v139 xb) := LX.out.below hb
          replace FR : Hid (RowM v139 fb 4 4 U) := FR.out.below hb
          replace H : (CellAt v139 w.heap.size 0 (.int .i64 (ep : Int))) ∧ (CellAt v139 w.heap.size 1 (.string s)) := ⟨(H.1).below hb, (H.2).below hb⟩
          clear hb
          refine hK.out _ _ H (fun _ => ?_)
          clear hK KK
          change wpAnyH _ _ _ _ _ _ _ { tmps := #[_,_,_,_,_,_,_,_,_,_,_,_,_,_,_,_,_,_,_,_,_,_], defers := _ } _
          refine wpAnyH_ready (rs := [9]) (by kernel_rfl) (by simp) ?_
          refine (AllReadyH.cons rfl (fun KK hK => ?_) AllReadyH.nil)
          obtain ⟨v140, hcv, hx, ho, hce⟩ := conv_lit v139 xb LX.out
          go_simp
          have hsz : v139.heap.size ≤ v140.heap.size := ho.size
          replace A1 : Hid (Below w.heap.size w v140) := A1.out.trans (ho.toBelow (Nat.le_of_lt XG.out) A1.out.size)
          have XL : Hid (xb < v140.heap.size) := Nat.lt_of_lt_of_le LX.out.lt ho.size
          replace SZ : Hid (w.heap.size ≤ (v140).heap.size) := Nat.le_trans SZ.out ho.size
          replace SL : Hid (w.heap.size < (v140).heap.size) := Nat.lt_of_lt_of_le SL.out ho.size
          replace CD : Hid (Code8 v140 (some ⟨cb, 0, none⟩) s.size (strB s)) := code8_cells CD.out hce
          replace FR : Hid (RowM v140 fb 4 4 U) := FR.out.onlyB ho NE.out
          replace H : (CellAt v140 w.heap.size 0 (.int .i64 (ep : Int))) ∧ (CellAt v140 w.heap.size 1 (.string s)) := ⟨(hce _).trans (H.1), (hce _).trans (H.2)⟩
          have XC : Hid (Code8 v140 (some ⟨xb, 0, none⟩) 4 slotX) := hx
          clear hcv hx ho hce hsz LX
          refine hK.out _ _ H (fun _ => ?_)
          clear hK KK
          change wpAnyH _ _ _ _ _ _ _ { tmps := #[_,_,_,_,_,_,_,_,_,_,_,_,_,_,_,_,_,_,_,_,_,_], defers := _ } _
          refine wpAnyH_ready (rs := [13]) (by kernel_rfl) (by simp) ?_
          refine (AllReadyH.cons rfl (fun KK hK => ?_) AllReadyH.nil)
          go_simp
          refine (SE.out _ _ _ _ _ XC.out CD.out).mono ?_
          rintro e v141 ⟨⟨sb, sc, -, rfl, ho⟩, hb⟩
          replace A1 : Hid (Below w.heap.size w v141) := A1.out.trans (hb.mono A1.out.size)
          replace SZ : Hid (w.heap.size ≤ (v141).heap.size) := Nat.le_trans SZ.out hb.size
          replace SL : Hid (w.heap.size < (v141).heap.size) := Nat.lt_of_lt_of_le SL.out hb.size
          replace CD : Hid (Code8 v141 (some ⟨cb, 0, none⟩) s.size (strB s)) := CD.out.below hb
          replace FR : Hid (RowM v141 fb 4 4 U) := FR.out.below hb
          replace XC : Hid (Code8 v141 (some ⟨xb, 0, none⟩) 4 slotX) := XC.out.below hb
          replace XL : Hid (xb < (v141).heap.size) := Nat.lt_of_lt_of_le XL.out hb.size
          replace H : (CellAt v141 w.heap.size 0 (.int .i64 (ep : Int))) ∧ (CellAt v141 w.heap.size 1 (.string s)) := ⟨(H.1).below hb, (H.2).below hb⟩
          have SD : Hid (Code8 v141 (some ⟨sb, 0, none⟩) (s.size + 16) F) := ho.code
          clear hb ho
          refine hK.out _ _ H (fun _ => ?_)
          clear hK KK
          change wpAnyH _ _ _ _ _ _ _ { tmps := #[_,_,_,_,_,_,_,_,_,_,_,_,_,_,_,_,_,_,_,_,_,_], defers := _ } _
          refine wpAnyH_ready (rs := [14]) (by kernel_rfl) (by simp) ?_
          refine AllReadyH.cons rfl (fun KK hK => ?_) AllReadyH.nil
          obtain ⟨ag, ac, v142, hr, hm, hb, hag⟩ := appendM v141 (w.heap.size + 1) fb 4 4 U sb 0 (s.size + 16) sc F FH.out SL.out (by have := HS.out; omega) FR.out SD.out 88
          rw [if_pos (by rfl)]
          refine Lib.wp_append_run _ (.tmp 9) (.tmp 20) 88 88 rfl _ _ rfl rfl _ _ hr ?_
          have e20 : 4 + (s.size + 16) = 20 + s.size := by omega
          rw [e20]; rw [e20] at hm hr
          have R9 : Hid (RowM v142 ag (20 + s.size) ac GG) := hm.congr (fun i _ => EF.out i)
          have B9 : Hid (Below w.heap.size w v142) := A1.out.trans (hb.mono (Nat.le_succ _))
          replace H : (CellAt v142 w.heap.size 0 (.int .i64 (ep : Int))) ∧ (CellAt v142 w.heap.size 1 (.string s)) := ⟨(hb.cell (p := ⟨w.heap.size, 0, none⟩) (Nat.lt_succ_self _)).trans (H.1), (hb.cell (p := ⟨w.heap.size, 1, none⟩) (Nat.lt_succ_self _)).trans (H.2)⟩
          have HAG : Hid (w.heap.size ≤ ag) := Nat.le_trans (Nat.le_succ _) hag
          refine hK.out _ _ H (fun _ => ?_)
          clear hK KK hr hm hb hag e20 SZ SL CD FR XC XL SD A1 NE FH XG
          change wpAnyH _ _ _ _ _ _ _ { tmps := #[_,_,_,_,_,_,_,_,_,_,_,_,_,_,_,_,_,_,_,_,_,_], defers := _ } _
          refine wpAnyH_take (i := 15) (v := .slice (some ⟨ag, 0, none⟩) (20 + s.size) ac) rfl (by kernel_rfl) (by kernel_rfl) (by kernel_rfl) (fun _ _ _ h => h) (Or.inl ⟨by rfl, ?_⟩) H ?_
          · intro w' hSw; go_simp
          change wpAnyH _ _ _ _ _ _ _ { tmps := #[_,_,_,_,_,_,_,_,_,_,_,_,_,_,_,_,_,_,_,_,_,_], defers := _ } _
          refine wpAnyH_done (by kernel_rfl) ?_ _
          refine NoPanic.normal ?_
          clear H FO NO SE EF HS
          go_wp2
          go_ret
          exact ⟨⟨ag, ac, rfl, HAG.out, R9.out⟩, B9.out⟩
        · skip
          obtain ⟨v143, hcv, hx, ho, hce⟩ := conv_lit v138 xb LX.out
          go_simp
          have hsz : v138.heap.size ≤ v143.heap.size := ho.size
          replace A1 : Hid (Below w.heap.size w v143) := A1.out.trans (ho.toBelow (Nat.le_of_lt XG.out) A1.out.size)
          have XL : Hid (xb < v143.heap.size) := Nat.lt_of_lt_of_le LX.out.lt ho.size
          replace SZ : Hid (w.heap.size ≤ (v143).heap.size) := Nat.le_trans SZ.out ho.size
          replace SL : Hid (w.heap.size < (v143).heap.size) := Nat.lt_of_lt_of_le SL.out ho.size
          replace CD : Hid (Code8 v143 (some ⟨cb, 0, none⟩) s.size (strB s)) := code8_cells CD.out hce
          replace FR : Hid (RowM v143 fb 4 4 U) := FR.out.onlyB ho NE.out
          replace H : (CellAt v143 w.heap.size 0 (.int .i64 (ep : Int))) ∧ (CellAt v143 w.heap.size 1 (.string s)) := ⟨(hce _).trans (H.1), (hce _).trans (H.2)⟩
          have XC : Hid (Code8 v143 (some ⟨xb, 0, none⟩) 4 slotX) := hx
          clear hcv hx ho hce hsz LX
          refine hK.out _ _ H (fun _ => ?_)
          clear hK KK
          change wpAnyH _ _ _ _ _ _ _ { tmps := #[_,_,_,_,_,_,_,_,_,_,_,_,_,_,_,_,_,_,_,_,_,_], defers := _ } _
          refine wpAnyH_ready (rs := [7]) (by kernel_rfl) (by simp) ?_
          refine (AllReadyH.cons rfl (fun KK hK => ?_) AllReadyH.nil)
          go_simp
          refine (NO.out _).mono ?_
          rintro e v144 ⟨rfl, hb⟩
          replace A1 : Hid (Below w.heap.size w v144) := A1.out.trans (hb.mono A1.out.size)
          replace SZ : Hid (w.heap.size ≤ (v144).heap.size) := Nat.le_trans SZ.out hb.size
          replace SL : Hid (w.heap.size < (v144).heap.size) := Nat.lt_of_lt_of_le SL.out hb.size
          replace CD : Hid (Code8 v144 (some ⟨cb, 0, none⟩) s.size (strB s)) := CD.out.below hb
          replace FR : Hid (RowM v144 fb 4 4 U) := FR.out.below hb
          replace XC : Hid (Code8 v144 (some ⟨xb, 0, none⟩) 4 slotX) := XC.out.below hb
          replace XL : Hid (xb < (v144).heap.size) := Nat.lt_of_lt_of_le XL.out hb.size
          replace H : (CellAt v144 w.heap.size 0 (.int .i64 (ep : Int))) ∧ (CellAt v144 w.heap.size 1 (.string s)) := ⟨(H.1).below hb, (H.2).below hb⟩
          clear hb
          refine hK.out _ _ H (fun _ => ?_)
          clear hK KK
          change wpAnyH _ _ _ _ _ _ _ { tmps := #[_,_,_,_,_,_,_,_,_,_,_,_,_,_,_,_,_,_,_,_,_,_], defers := _ } _
          refine wpAnyH_ready (rs := [13]) (by kernel_rfl) (by simp) ?_
          refine (AllReadyH.cons rfl (fun KK hK => ?_) AllReadyH.nil)
          go_simp
          refine (SE.out _ _ _ _ _ XC.out CD.out).mono ?_
          rintro e v145 ⟨⟨sb, sc, -, rfl, ho⟩, hb⟩
          replace A1 : Hid (Below w.heap.size w v145) := A1.out.trans (hb.mono A1.out.size)
          replace SZ : Hid (w.heap.size ≤ (v145).heap.size) := Nat.le_trans SZ.out hb.size
          replace SL : Hid (w.heap.size < (v145).heap.size) := Nat.lt_of_lt_of_le SL.out hb.size
          replace CD : Hid (Code8 v145 (some ⟨cb, 0, none⟩) s.size (strB s)) := CD.out.below hb
          replace FR : Hid (RowM v145 fb 4 4 U) := FR.out.below hb
          replace XC : Hid (Code8 v145 (some ⟨xb, 0, none⟩) 4 slotX) := XC.out.below hb
          replace XL : Hid (xb < (v145).heap.size) := Nat.lt_of_lt_of_le XL.out hb.size
          replace H : (CellAt v145 w.heap.size 0 (.int .i64 (ep : Int))) ∧ (CellAt v145 w.heap.size 1 (.string s)) := ⟨(H.1).below hb, (H.2).below hb⟩
          have SD : Hid (Code8 v145 (some ⟨sb, 0, none⟩) (s.size + 16) F) := ho.code
          clear hb ho
          refine hK.out _ _ H (fun _ => ?_)
          clear hK KK
          change wpAnyH _ _ _ _ _ _ _ { tmps := #[_,_,_,_,_,_,_,_,_,_,_,_,_,_,_,_,_,_,_,_,_,_], defers := _ } _
          refine wpAnyH_ready (rs := [14]) (by kernel_rfl) (by simp) ?_
          refine AllReadyH.cons rfl (fun KK hK => ?_) AllReadyH.nil
          obtain ⟨ag, ac, v146, hr, hm, hb, hag⟩ := appendM v145 (w.heap.size + 1) fb 4 4 U sb 0 (s.size + 16) sc F FH.out SL.out (by have := HS.out; omega) FR.out SD.out 88
          rw [if_pos (by rfl)]
          refine Lib.wp_append_run _ (.tmp 9) (.tmp 20) 88 88 rfl _ _ rfl rfl _ _ hr ?_
          have e20 : 4 + (s.size + 16) = 20 + s.size := by omega
          rw [e20]; rw [e20] at hm hr
          have R9 : Hid (RowM v146 ag (20 + s.size) ac GG) := hm.congr (fun i _ => EF.out i)
          have B9 : Hid (Below w.heap.size w v146) := A1.out.trans (hb.mono (Nat.le_succ _))
          replace H : (CellAt v146 w.heap.size 0 (.int .i64 (ep : Int))) ∧ (CellAt v146 w.heap.size 1 (.string s)) := ⟨(hb.cell (p := ⟨w.heap.size, 0, none⟩) (Nat.lt_succ_self _)).trans (H.1), (hb.cell (p := ⟨w.heap.size, 1, none⟩) (Nat.lt_succ_self _)).trans (H.2)⟩
          have HAG : Hid (w.heap.size ≤ ag) := Nat.le_trans (Nat.le_succ _) hag
          refine hK.out _ _ H (fun _ => ?_)
          clear hK KK hr hm hb hag e20 SZ SL CD FR XC XL SD A1 NE FH XG
          change wpAnyH _ _ _ _ _ _ _ { tmps := #[_,_,_,_,_,_,_,_,_,_,_,_,_,_,_,_,_,_,_,_,_,_], defers := _ } _
          refine wpAnyH_take (i := 15) (v := .slice (some ⟨ag, 0, none⟩) (20 + s.size) ac) rfl (by kernel_rfl) (by kernel_rfl) (by kernel_rfl) (fun _ _ _ h => h) (Or.inl ⟨by rfl, ?_⟩) H ?_
          · intro w' hSw; go_simp
          change wpAnyH _ _ _ _ _ _ _ { tmps := #[_,_,_,_,_,_,_,_,_,_,_,_,_,_,_,_,_,_,_,_,_,_], defers := _ } _
          refine wpAnyH_done (by kernel_rfl) ?_ _
          refine NoPanic.normal ?_
          clear H FO NO SE EF HS
          go_wp2
          go_ret
          exact ⟨⟨ag, ac, rfl, HAG.out, R9.out⟩, B9.out⟩
      · skip
        obtain ⟨v147, hcv, hx, ho, hce⟩ := conv_lit v137 xb LX.out
        go_simp
        have hsz : v137.heap.size ≤ v147.heap.size := ho.size
        replace A1 : Hid (Below w.heap.size w v147) := A1.out.trans (ho.toBelow (Nat.le_of_lt XG.out) A1.out.size)
        have XL : Hid (xb < v147.heap.size) := Nat.lt_of_lt_of_le LX.out.lt ho.size
        replace SZ : Hid (w.heap.size ≤ (v147).heap.size) := Nat.le_trans SZ.out ho.size
        replace SL : Hid (w.heap.size < (v147).heap.size) := Nat.lt_of_lt_of_le SL.out ho.size
        replace CD : Hid (Code8 v147 (some ⟨cb, 0, none⟩) s.size (strB s)) := code8_cells CD.out hce
        replace H : (CellAt v147 w.heap.size 0 (.int .i64 (ep : Int))) ∧ (CellAt v147 w.heap.size 1 (.string s)) := ⟨(hce _).trans (H.1), (hce _).trans (H.2)⟩
        have XC : Hid (Code8 v147 (some ⟨xb, 0, none⟩) 4 slotX) := hx
        clear hcv hx ho hce hsz LX
        refine hK.out _ _ H (fun _ => ?_)
        clear hK KK
        change wpAnyH _ _ _ _ _ _ _ { tmps := #[_,_,_,_,_,_,_,_,_,_,_,_,_,_,_,_,_,_,_,_,_,_], defers := _ } _
        refine wpAnyH_ready (rs := [2]) (by kernel_rfl) (by simp) ?_
        refine (AllReadyH.cons rfl (fun KK hK => ?_) AllReadyH.nil)
        go_simp
        have NE : Hid (v147.heap.size ≠ xb) := by have := XL.out; exact fun e => by omega
        have FH : Hid (w.heap.size + 1 ≤ v147.heap.size) := SL.out
        refine (FO.out _).mono ?_
        rintro e v148 ⟨⟨rfl, ho⟩, hb⟩
        replace A1 : Hid (Below w.heap.size w v148) := A1.out.trans (hb.mono A1.out.size)
        replace SZ : Hid (w.heap.size ≤ (v148).heap.size) := Nat.le_trans SZ.out hb.size
        replace SL : Hid (w.heap.size < (v148).heap.size) := Nat.lt_of_lt_of_le SL.out hb.size
        replace CD : Hid (Code8 v148 (some ⟨cb, 0, none⟩) s.size (strB s)) := CD.out.below hb
        replace XC : Hid (Code8 v148 (some ⟨xb, 0, none⟩) 4 slotX) := XC.out.below hb
        replace XL : Hid (xb < (v148).heap.size) := Nat.lt_of_lt_of_le XL.out hb.size
        have FR : Hid (RowM v148 v147.heap.size 4 4 U) := rowM_of_own8 ho
        replace H : (CellAt v148 w.heap.size 0 (.int .i64 (ep : Int))) ∧ (CellAt v148 w.heap.size 1 (.string s)) := ⟨(H.1).below hb, (H.2).below hb⟩
        obtain ⟨fb, hfb⟩ : ∃ x, x = v147.heap.size := ⟨_, rfl⟩
        rw [← hfb] at FR FH NE ⊢
        clear hb ho hfb
        refine hK.out _ _ H (fun _ => ?_)
        clear hK KK
        change wpAnyH _ _ _ _ _ _ _ { tmps := #[_,_,_,_,_,_,_,_,_,_,_,_,_,_,_,_,_,_,_,_,_,_], defers := _ } _
        refine wpAnyH_ready (rs := [7]) (by kernel_rfl) (by simp) ?_
        refine (AllReadyH.cons rfl (fun KK hK => ?_) AllReadyH.nil)
        go_simp
        refine (NO.out _).mono ?_
        rintro e v149 ⟨rfl, hb⟩
        replace A1 : Hid (Below w.heap.size w v149) := A1.out.trans (hb.mono A1.out.size)
        replace SZ : Hid (w.heap.size ≤ (v149).heap.size) := Nat.le_trans SZ.out hb.size
        replace SL : Hid (w.heap.size < (v149).heap.size) := Nat.lt_of_lt_of_le SL.out hb.size
        replace CD : Hid (Code8 v149 (some ⟨cb, 0, none⟩) s.size (strB s)) := CD.out.below hb
        replace XC : Hid (Code8 v149 (some ⟨xb, 0, none⟩) 4 slotX) := XC.out.below hb
        replace XL : Hid (xb < (v149).heap.size) := Nat.lt_of_lt_of_le XL.out hb.size
        replace FR : Hid (RowM v149 fb 4 4 U) := FR.out.below hb
        replace H : (CellAt v149 w.heap.size 0 (.int .i64 (ep : Int))) ∧ (CellAt v149 w.heap.size 1 (.string s)) := ⟨(H.1).below hb, (H.2).below hb⟩
        clear hb
        refine hK.out _ _ H (fun _ => ?_)
        clear hK KK
        change wpAnyH _ _ _ _ _ _ _ { tmps := #[_,_,_,_,_,_,_,_,_,_,_,_,_,_,_,_,_,_,_,_,_,_], defers := _ } _
        refine wpAnyH_ready (rs := [13]) (by kernel_rfl) (by simp) ?_
        refine (AllReadyH.cons rfl (fun KK hK => ?_) AllReadyH.nil)
        go_simp
        refine (SE.out _ _ _ _ _ XC.out CD.out).mono ?_
        rintro e v150 ⟨⟨sb, sc, -, rfl, ho⟩, hb⟩
        replace A1 : Hid (Below w.heap.size w v150) := A1.out.trans (hb.mono A1.out.size)
        replace SZ : Hid (w.heap.size ≤ (v150).heap.size) := Nat.le_trans SZ.out hb.size
        replace SL : Hid (w.heap.size < (v150).heap.size) := Nat.lt_of_lt_of_le SL.out hb.size
        replace CD : Hid (Code8 v150 (some ⟨cb, 0, none⟩) s.size (strB s)) := CD.out.below hb
        replace XC : Hid (Code8 v150 (some ⟨xb, 0, none⟩) 4 slotX) := XC.out.below hb
        replace XL : Hid (xb < (v150).heap.size) := Nat.lt_of_lt_of_le XL.out hb.size
        replace FR : Hid (RowM v150 fb 4 4 U) := FR.out.below hb
        replace H : (CellAt v150 w.heap.size 0 (.int .i64 (ep : Int))) ∧ (CellAt v150 w.heap.size 1 (.string s)) := ⟨(H.1).below hb, (H.2).below hb⟩
        have SD : Hid (Code8 v150 (some ⟨sb, 0, none⟩) (s.size + 16) F) := ho.code
        clear hb ho
        refine hK.out _ _ H (fun _ => ?_)
        clear hK KK
        change wpAnyH _ _ _ _ _ _ _ { tmps := #[_,_,_,_,_,_,_,_,_,_,_,_,_,_,_,_,_,_,_,_,_,_], defers := _ } _
        refine wpAnyH_ready (rs := [14]) (by kernel_rfl) (by simp) ?_
        refine AllReadyH.cons rfl (fun KK hK => ?_) AllReadyH.nil
        obtain ⟨ag, ac, v151, hr, hm, hb, hag⟩ := appendM v150 (w.heap.size + 1) fb 4 4 U sb 0 (s.size + 16) sc F FH.out SL.out (by have := HS.out; omega) FR.out SD.out 88
        rw [if_pos (by rfl)]
        refine Lib.wp_append_run _ (.tmp 9) (.tmp 20) 88 88 rfl _ _ rfl rfl _ _ hr ?_
        have e20 : 4 + (s.size + 16) = 20 + s.size := by omega
        rw [e20]; rw [e20] at hm hr
        have R9 : Hid (RowM v151 ag (20 + s.size) ac GG) := hm.congr (fun i _ => EF.out i)
        have B9 : Hid (Below w.heap.size w v151) := A1.out.trans (hb.mono (Nat.le_succ _))
        replace H : (CellAt v151 w.heap.size 0 (.int .i64 (ep : Int))) ∧ (CellAt v151 w.heap.size 1 (.string s)) := ⟨(hb.cell (p := ⟨w.heap.size, 0, none⟩) (Nat.lt_succ_self _)).trans (H.1), (hb.cell (p := ⟨w.heap.size, 1, none⟩) (Nat.lt_succ_self _)).trans (H.2)⟩
        have HAG : Hid (w.heap.size ≤ ag) := Nat.le_trans (Nat.le_succ _) hag
        refine hK.out _ _ H (fun _ => ?_)
        clear hK KK hr hm hb hag e20 SZ SL CD XC XL FR SD A1 NE FH XG
        change wpAnyH _ _ _ _ _ _ _ { tmps := #[_,_,_,_,_,_,_,_,_,_,_,_,_,_,_,_,_,_,_,_,_,_], defers := _ } _
        refine wpAnyH_take (i := 15) (v := .slice (some ⟨ag, 0, none⟩) (20 + s.size) ac) rfl (by kernel_rfl) (by kernel_rfl) (by kernel_rfl) (fun _ _ _ h => h) (Or.inl ⟨by rfl, ?_⟩) H ?_
        · intro w' hSw; go_simp
        change wpAnyH _ _ _ _ _ _ _ { tmps := #[_,_,_,_,_,_,_,_,_,_,_,_,_,_,_,_,_,_,_,_,_,_], defers := _ } _
        refine wpAnyH_done (by kernel_rfl) ?_ _
        refine NoPanic.normal ?_
        clear H FO NO SE EF HS
        go_wp2
        go_ret
        exact ⟨⟨ag, ac, rfl, HAG.out, R9.out⟩, B9.out⟩
end Go.Proofs.YtbecnaabmlkjjabGreatDoor
