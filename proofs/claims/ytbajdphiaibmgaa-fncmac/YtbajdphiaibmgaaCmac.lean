/-
  The contract of impl.Cmac.
-/
import Derived.Test.YtbajdphiaibmgaaLastB
namespace Go.Proofs.Ytbajdphiaibmgaa
open Go.ChangeShapes Go.WideShapes Go.ChangeAt Go.RowKit
/-- What Cmac's steps keep. -/
def CMS (w0 : World) (Cb m sb kb : Nat) (K G D : Nat → Nat) (w' : World) : Prop := Row8 w' sb 37 16 G ∧ Row8 w' kb 37 16 D ∧ CiphAt w' Cb m K ∧ Below w0.heap.size w0 w'
theorem CMS.below {w0 w' w'' : World} {Cb m sb kb : Nat} {K G D : Nat → Nat} (h : CMS w0 Cb m sb kb K G D w') (hb : Below w'.heap.size w' w'') : CMS w0 Cb m sb kb K G D w'' :=
  ⟨h.1.below hb, h.2.1.below hb, h.2.2.1.below hb, h.2.2.2.trans (hb.mono h.2.2.2.size)⟩
theorem CMS.drew {w0 w' : World} {Cb m sb kb : Nat} {K G D : Nat → Nat} (h : CMS w0 Cb m sb kb K G D w') : CMS w0 Cb m sb kb K G D w'.drew := ⟨h.1, h.2.1, h.2.2.1, h.2.2.2.drew⟩
theorem CMS.store {w0 w' : World} {Cb m sb kb : Nat} {K G D : Nat → Nat} (h : CMS w0 Cb m sb kb K G D w') (h1 : Cb ≠ sb) (h2 : w0.heap.size ≤ sb) (G1 : Nat → Nat) :
    (CiphAt (w'.setCells sb 0 (bv 16 G1)) Cb m K ∧ Below w0.heap.size w0 (w'.setCells sb 0 (bv 16 G1))) ∧ Row8 (w'.setCells sb 0 (bv 16 G1)) sb 37 16 G1 := by
  have X1 : OnlyB sb w' (w'.setCells sb 0 (bv 16 G1)) := onlyB_setCells _ _ _ (OnlyB.refl _ _)
  exact ⟨⟨h.2.2.1.onlyBe X1 (by omega), h.2.2.2.trans (X1.toBelow h2 h.2.2.2.size)⟩, h.1.stored G1⟩
theorem CMS.store2 {w0 w' : World} {Cb m sb kb : Nat} {K G D : Nat → Nat} (h : CMS w0 Cb m sb kb K G D w') (h1 : Cb ≠ sb) (h3 : kb ≠ sb) (h2 : w0.heap.size ≤ sb) (G1 : Nat → Nat) :
    CMS w0 Cb m sb kb K G1 D (w'.setCells sb 0 (bv 16 G1)) := by
  have X1 : OnlyB sb w' (w'.setCells sb 0 (bv 16 G1)) := onlyB_setCells _ _ _ (OnlyB.refl _ _)
  exact ⟨h.1.stored G1, h.2.1.onlyB X1 (by omega), h.2.2.1.onlyBe X1 (by omega), h.2.2.2.trans (X1.toBelow h2 h.2.2.2.size)⟩
theorem implCm_no (k : ByteArray) (a : Option Addr) (n c : Nat) (code : Int) (hc : code ≠ 0) (hf : ∀ w : World, Calls Try.prog 14 #[.string k, .string ⟨#[]⟩, .int .i64 0, .int .i64 (n : Int), .int .i64 65536] w fun e w' => e = .returned (.int .i64 code) ∧ w = w') (w : World) :
    Calls Try.prog 7 #[.string k, .slice a n c] w fun e w' => e = .returned (.tuple #[.string ⟨#[]⟩, .int .i64 code]) ∧ w = w' := by
  have HF : Hid (∀ w : World, Calls Try.prog 14 #[.string k, .string ⟨#[]⟩, .int .i64 0, .int .i64 (n : Int), .int .i64 65536] w fun e w' => e = .returned (.int .i64 code) ∧ w = w') := hf
  have e1 : (code != 0) = true := by rw [bne_iff_ne]; exact hc
  clear hf
  go_enter Try.func7, Try.ntmps7
  go_wp2
  go_step3
  go_wp2_with (go_at_call 14; refine (HF.out _).mono ?_; rintro e w' ⟨rfl, rfl⟩)
  rw [Exit.noGoto_ret]
  go_ret2
  exact ⟨rfl, rfl⟩
/-- What holds where a block more begins: i blocks are done. -/
def CmJ (w0 : World) (Cb m sb n : Nat) (K c : Nat → Nat) (b o : Nat) (a' : Act) (w' : World) : Prop := ∃ (i L cr : Nat) (u0 u1 u2 u3 u4 u5 u6 u10 u11 u12 u13 u14 u15 u16 u17 u18 u19 u20 u21 u22 u23 u24 u25 u26 u27 u28 u29 u30 u31 u32 u33 u34 u35 u36 u37 u38 u39 u40 u41 u42 u43 : Value), a' = { tmps := #[u0, u1, u2, u3, u4, u5, u6, .pointer (some ⟨Cb, 0, none⟩), .pointer (some ⟨sb, 0, none⟩), .slice (some ⟨b, o + 16 * i, none⟩) L cr, u10, u11, u12, u13, u14, u15, u16, u17, u18, u19, u20, u21, u22, u23, u24, u25, u26, u27, u28, u29, u30, u31, u32, u33, u34, u35, u36, u37, u38, u39, u40, u41, u42, u43], defers := [] } ∧
  L = n - 16 * i ∧ (i = 0 ∨ 16 * i < n) ∧ L ≤ cr ∧ Row8 w' sb 37 16 (cbcB K m (fun _ => 0) c i) ∧ CiphAt w' Cb m K ∧ Below w0.heap.size w0 w'
set_option maxRecDepth 100000 in
set_option maxHeartbeats 4000000 in
theorem implCm_yes (k : ByteArray) (kn b o n cp : Nat) (c : Nat → Nat) (hkn : kn = 4 ∨ kn = 8) (hk : k.size = kn * 4) (hn : n ≤ 65536) (hncp : n ≤ cp) (hc : ∀ i, c i < 256) (w : World) (h : Code8 w (some ⟨b, o, none⟩) n c) :
    Calls Try.prog 7 #[.string k, .slice (some ⟨b, o, none⟩) n cp] w fun e w' => e = .returned (.tuple #[.string (kstr (cmacB (Gf.ws (strB k) kn (3 * kn + 28)) (kn + 6) n c) 0 16), .int .i64 0]) ∧ Below w.heap.size w w' := by
  have MF : Hid (∀ w : World, Calls Try.prog 14 #[.string k, .string ⟨#[]⟩, .int .i64 0, .int .i64 (n : Int), .int .i64 65536] w fun e w' => e = .returned (.int .i64 0) ∧ w = w') := mf_ok k ⟨#[]⟩ 0 n 65536 (by omega) (by omega) rfl (by omega)
  have NC : Hid (∀ w : World, Calls Try.prog 15 #[.string k] w fun e w' => e = .returned (.agg (cA (kn + 6) (Gf.ws (strB k) kn (3 * kn + 28)))) ∧ Below w.heap.size w w') := newCipher_any k kn hkn hk
  have LW : Hid (∀ j, Gf.ws (strB k) kn (3 * kn + 28) j < 256) := Gf.ws_lt (strB_lt k) _
  generalize Gf.ws (strB k) kn (3 * kn + 28) = W at *
  obtain ⟨m, hm⟩ : ∃ m, m = kn + 6 := ⟨_, rfl⟩
  have hm1 : 1 ≤ m := by omega
  have hm2 : m ≤ 14 := by omega
  rw [← hm] at NC ⊢
  have LC : Hid (∀ j, c j < 256) := hc
  have LB : Hid (∀ i j, cbcB W m (fun _ => 0) c i j < 256) := fun i j => cbcB_lt LW.out (fun _ => by show (0 : Nat) < 256; omega) hc i j
  obtain ⟨TAG, hTAG⟩ : ∃ T, T = cmacB W m n c := ⟨_, rfl⟩
  rw [← hTAG]
  have HTAG : Hid (TAG = cmacB W m n c) := hTAG
  obtain ⟨Z, z0, hZ, -⟩ := Try.zeroC
  have S2 : Hid ((Try.prog.info? 42).map (·.size) = some (cA m W).size) := by rw [cA_size]; exact Try.sizeC
  have O2 : Hid ((cA m W).all (·.oneCell') = true) := cA_one _ _
  have hLen : (cA m W).toList.length = 769 := cA_len _ _
  have hAt : Hid (∀ k, k < 769 → (cA m W).toList[k]? = some (cf m W k)) := fun k hk => by
    have := cA_at (n := m) (K := W) hk
    rwa [← Array.getElem?_toList] at this
  have HSZ : Hid ((cA m W).size = 769) := cA_size _ _
  generalize cA m W = CA at *
  have HC : Hid (Code8 w (some ⟨b, o, none⟩) n c) := h
  clear h hc hkn hk hm hTAG
  go_enter Try.func7, Try.ntmps7
  go_wp2
  refine wp_scope_label 0 (fun a' w' => ∃ Cb sb, (Cb < sb ∧ w.heap.size ≤ Cb) ∧ CmJ w Cb m sb n W c b o a' w') (fun a' _ => lenOf (a'.tmps.getD 9 undef)) rfl ?_ ?_
  · rintro a' wr ⟨Cb, sb, ⟨hCs, hwC⟩, i, L, cr, u0, u1, u2, u3, u4, u5, u6, u10, u11, u12, u13, u14, u15, u16, u17, u18, u19, u20, u21, u22, u23, u24, u25, u26, u27, u28, u29, u30, u31, u32, u33, u34, u35, u36, u37, u38, u39, u40, u41, u42, u43, rfl, hL, hi, hcr, hr, hC, hB⟩
    have HR : Hid (Row8 wr sb 37 16 (cbcB W m (fun _ => 0) c i)) := hr
    have CC : Hid (CiphAt wr Cb m W) := hC
    have HB : Hid (Below w.heap.size w wr) := hB
    clear hr hC hB
    clear NC MF S2 O2 hLen hAt HSZ z0 hZ
    by_cases hlt : 16 < L
    · have hb : b < w.heap.size := HC.out.lt _ (by omega) rfl
      have eL : (16 : Int) < (L : Int) := by omega
      have xc : (16 : Int) ≤ (cr : Int) := by omega
      have xL : (16 : Int) ≤ (L : Int) := by omega
      have ncr : ¬ cr = 16 := by omega
      obtain ⟨X, hX⟩ : ∃ X : Nat → Nat, X = fun j => c (16 * i + j) := ⟨_, rfl⟩
      have lX : ∀ j, X j < 256 := fun j => by rw [hX]; exact LC.out _
      obtain ⟨S, hS⟩ : ∃ S, S = kstr X 0 16 := ⟨_, rfl⟩
      have hcv : Hid (∀ wq, Below w.heap.size w wq → (convert 22 9 (.slice (some ⟨b, o + 16 * i, none⟩) 16 16)).run Try.prog wq = .ok (.string S) wq) := fun wq hq => by
        rw [hS]
        refine kstr_of_code (code8_of (fun j hj => ?_))
        rw [hq.cell (p := ⟨b, o + 16 * i + j, none⟩) hb, hX, Nat.add_assoc]
        exact HC.out.at (by omega)
      have SO : Hid (∀ w : World, Calls Try.prog 18 #[.string S] w fun e w' => e = .returned (.agg (bA 16 X)) ∧ Below w.heap.size w w') := fun w => by
        have := stateOf_le S (by rw [hS, kstr_size]; exact Nat.le_refl _) w
        rwa [hS, bA_same (same_strB (fun j _ => lX j)), ← hS] at this
      have AD : Hid (∀ w : World, Calls Try.prog 17 #[.agg (bv 16 (cbcB W m (fun _ => 0) c i)).toArray, .agg (bA 16 X)] w fun e w' => e = .returned (.agg (bA 16 (fun j => cbcB W m (fun _ => 0) c i j ^^^ X j))) ∧ Below w.heap.size w w') := added_any _ _ (fun j _ => LB.out i j) (fun j _ => lX j)
      have EN : Hid (∀ w : World, CiphAt w Cb m W → Calls Try.prog 16 #[.pointer (some ⟨Cb, 0, none⟩), .agg (bA 16 (fun j => cbcB W m (fun _ => 0) c i j ^^^ X j))] w fun e w' => e = .returned (.agg (bA 16 (cbcB W m (fun _ => 0) c (i + 1)))) ∧ Below w.heap.size w w') := fun w h => by
        have := encrypt_any Cb m W (fun j => cbcB W m (fun _ => 0) c i j ^^^ X j) (fun j _ => Gf.xor_lt (LB.out i j) (lX j)) LW.out hm1 hm2 w h
        rw [hX] at this ⊢
        exact this
      have HL : Hid (L - 16 = n - 16 * (i + 1)) := by show L - 16 = _; omega
      generalize hG1 : cbcB W m (fun _ => 0) c (i + 1) = G1 at *
      have HG1 : Hid (cbcB W m (fun _ => 0) c (i + 1) = G1) := hG1
      generalize cbcB W m (fun _ => 0) c i = G at *
      generalize bA 16 (fun j => G j ^^^ X j) = GX at *
      generalize bA 16 X = XA at *
      clear hX hS lX hG1 hL
      go_upto_region 8 with fail
      have H : CMS w Cb m sb sb W G G wr.drew := ⟨HR.out, HR.out, CC.out, HB.out.drew⟩
      refine wp_region_noPanic ?_
      refine wp_region_held_drew (S := fun w' => CiphAt w' Cb m W ∧ Below w.heap.size w w') (by kernel_rfl) H.2.2 (fun _ => ?_)
      refine wpAnyH_take (i := 1) (v := .slice (some ⟨b, o + 16 * i, none⟩) L cr) rfl (by kernel_rfl) (by kernel_rfl) (by kernel_rfl) (fun _ _ _ h => h) (Or.inl ⟨by rfl, ?_⟩) H.2.2 ?_
      · intro w hSw; go_simp
      change wpAnyH _ _ _ _ _ _ _ { tmps := #[_, _, _, _, _, _, _, _, _, _, _, _, _, _, _, _, _, _, _, _, _, _, _, _, _, _, _, _, _, _, _, _, _, _, _, _, _, _, _, _, _, _, _, _], defers := [] } _
      refine wpAnyH_take (i := 2) (v := .slice (some ⟨b, o + 16 * i, none⟩) 16 16) rfl (by kernel_rfl) (by kernel_rfl) (by kernel_rfl) (fun _ _ _ h => h) (Or.inl ⟨by rfl, ?_⟩) H.2.2 ?_
      · intro w hSw; go_simp
      change wpAnyH _ _ _ _ _ _ _ { tmps := #[_, _, _, _, _, _, _, _, _, _, _, _, _, _, _, _, _, _, _, _, _, _, _, _, _, _, _, _, _, _, _, _, _, _, _, _, _, _, _, _, _, _, _, _], defers := [] } _
      refine wpAnyH_take (i := 3) (v := .string S) rfl (by kernel_rfl) (by kernel_rfl) (by kernel_rfl) (fun _ _ _ h => h) (Or.inl ⟨by rfl, ?_⟩) H.2.2 ?_
      · intro wq hSw; have hq := hcv.out wq hSw.2; go_simp
      change wpAnyH _ _ _ _ _ _ _ { tmps := #[_, _, _, _, _, _, _, _, _, _, _, _, _, _, _, _, _, _, _, _, _, _, _, _, _, _, _, _, _, _, _, _, _, _, _, _, _, _, _, _, _, _, _, _], defers := [] } _
      refine wpAnyH_ready (rs := [0, 4]) (by kernel_rfl) (by simp) ?_
      refine AllReadyH.cons rfl (fun KK hK => ?_) (AllReadyH.cons rfl (fun KK hK => ?_) AllReadyH.nil)
      · rw [if_pos (by rfl)]
        refine wp_load_mid 37 (.tmp 8) rfl sb 0 rfl (bv 16 G) _ H.1.range Try.underlying37 rfl (by rw [bv_length]; exact Try.sizeSt) ?_
        refine hK.out _ _ H.2.2 (fun _ => ?_)
        clear hK KK
        change wpAnyH _ _ _ _ _ _ _ { tmps := #[_, _, _, _, _, _, _, _, _, _, _, _, _, _, _, _, _, _, _, _, _, _, _, _, _, _, _, _, _, _, _, _, _, _, _, _, _, _, _, _, _, _, _, _], defers := [] } _
        refine wpAnyH_ready (rs := [4]) (by kernel_rfl) (by simp) ?_
        refine AllReadyH.cons rfl (fun KK hK => ?_) AllReadyH.nil
        go_simp
        refine (SO.out _).mono ?_
        rintro e w1 ⟨rfl, hb⟩
        replace H := CMS.below H hb
        refine hK.out _ _ H.2.2 (fun _ => ?_)
        clear hK KK hb
        change wpAnyH _ _ _ _ _ _ _ { tmps := #[_, _, _, _, _, _, _, _, _, _, _, _, _, _, _, _, _, _, _, _, _, _, _, _, _, _, _, _, _, _, _, _, _, _, _, _, _, _, _, _, _, _, _, _], defers := [] } _
        refine wpAnyH_ready (rs := [5]) (by kernel_rfl) (by simp) ?_
        refine AllReadyH.cons rfl (fun KK hK => ?_) AllReadyH.nil
        go_simp
        refine (AD.out _).mono ?_
        rintro e w2 ⟨rfl, hb⟩
        replace H := CMS.below H hb
        refine hK.out _ _ H.2.2 (fun _ => ?_)
        clear hK KK hb
        change wpAnyH _ _ _ _ _ _ _ { tmps := #[_, _, _, _, _, _, _, _, _, _, _, _, _, _, _, _, _, _, _, _, _, _, _, _, _, _, _, _, _, _, _, _, _, _, _, _, _, _, _, _, _, _, _, _], defers := [] } _
        refine wpAnyH_ready (rs := [6]) (by kernel_rfl) (by simp) ?_
        refine AllReadyH.cons rfl (fun KK hK => ?_) AllReadyH.nil
        go_simp
        refine (EN.out _ H.2.2.1).mono ?_
        rintro e w3 ⟨rfl, hb⟩
        replace H := CMS.below H hb
        refine hK.out _ _ H.2.2 (fun _ => ?_)
        clear hK KK hb
        change wpAnyH _ _ _ _ _ _ _ { tmps := #[_, _, _, _, _, _, _, _, _, _, _, _, _, _, _, _, _, _, _, _, _, _, _, _, _, _, _, _, _, _, _, _, _, _, _, _, _, _, _, _, _, _, _, _], defers := [] } _
        refine wpAnyH_ready (rs := [7]) (by kernel_rfl) (by simp) ?_
        refine AllReadyH.cons rfl (fun KK hK => ?_) AllReadyH.nil
        rw [if_pos (by rfl)]
        refine wp_store_mid 37 (.tmp 8) (.tmp 30) rfl sb 0 (bA 16 G1) rfl rfl (by rw [bA_size]; exact H.1.there) (by rw [bA_size]; exact Try.sizeSt) (bA_one _ _) ?_
        rw [bA_toList]
        have H9 := CMS.store H (by omega) (by omega) G1
        refine hK.out _ _ H9.1 (fun _ => ?_)
        clear hK KK H
        refine wpAnyH_done (by kernel_rfl) ?_ _
        refine NoPanic.normal ?_
        change Exit.then _ _ Exit.normal { tmps := #[_, _, _, _, _, _, _, _, _, _, _, _, _, _, _, _, _, _, _, _, _, _, _, _, _, _, _, _, _, _, _, _, _, _, _, _, _, _, _, _, _, _, _, _], defers := [] } _
        have CC9 : Hid (CiphAt _ _ _ _) := H9.1.1
        have HB9 : Hid (Below _ _ _) := H9.1.2
        have HR9 : Hid (Row8 _ _ _ _ _) := H9.2
        clear H9
        generalize (w3.setCells sb 0 (bv 16 G1)) = w9 at *
        generalize (bv 16 G).toArray = q1
        generalize bA 16 G1 = q2
        go_wp2_with fail
        go_step3
        rw [show o + 16 * i + 16 = o + 16 * (i + 1) from by omega]
        refine ⟨rfl, ⟨Cb, sb, ⟨hCs, hwC⟩, i + 1, L - 16, cr - 16, _, _, _, _, _, _, _, _, _, _, _, _, _, _, _, _, _, _, _, _, _, _, _, _, _, _, _, _, _, _, _, _, _, _, _, _, _, _, _, _, _, rfl, HL.out, by have := HL.out; omega, by omega, ?_, CC9.out, HB9.out⟩, ?_⟩
        · rw [HG1.out]; exact HR9.out
        · show _ < L; simp [lenOf]; omega
      · go_simp
        refine (SO.out _).mono ?_
        rintro e w1 ⟨rfl, hb⟩
        replace H := CMS.below H hb
        refine hK.out _ _ H.2.2 (fun _ => ?_)
        clear hK KK hb
        change wpAnyH _ _ _ _ _ _ _ { tmps := #[_, _, _, _, _, _, _, _, _, _, _, _, _, _, _, _, _, _, _, _, _, _, _, _, _, _, _, _, _, _, _, _, _, _, _, _, _, _, _, _, _, _, _, _], defers := [] } _
        refine wpAnyH_ready (rs := [0]) (by kernel_rfl) (by simp) ?_
        refine AllReadyH.cons rfl (fun KK hK => ?_) AllReadyH.nil
        rw [if_pos (by rfl)]
        refine wp_load_mid 37 (.tmp 8) rfl sb 0 rfl (bv 16 G) _ H.1.range Try.underlying37 rfl (by rw [bv_length]; exact Try.sizeSt) ?_
        refine hK.out _ _ H.2.2 (fun _ => ?_)
        clear hK KK
        change wpAnyH _ _ _ _ _ _ _ { tmps := #[_, _, _, _, _, _, _, _, _, _, _, _, _, _, _, _, _, _, _, _, _, _, _, _, _, _, _, _, _, _, _, _, _, _, _, _, _, _, _, _, _, _, _, _], defers := [] } _
        refine wpAnyH_ready (rs := [5]) (by kernel_rfl) (by simp) ?_
        refine AllReadyH.cons rfl (fun KK hK => ?_) AllReadyH.nil
        go_simp
        refine (AD.out _).mono ?_
        rintro e w2 ⟨rfl, hb⟩
        replace H := CMS.below H hb
        refine hK.out _ _ H.2.2 (fun _ => ?_)
        clear hK KK hb
        change wpAnyH _ _ _ _ _ _ _ { tmps := #[_, _, _, _, _, _, _, _, _, _, _, _, _, _, _, _, _, _, _, _, _, _, _, _, _, _, _, _, _, _, _, _, _, _, _, _, _, _, _, _, _, _, _, _], defers := [] } _
        refine wpAnyH_ready (rs := [6]) (by kernel_rfl) (by simp) ?_
        refine AllReadyH.cons rfl (fun KK hK => ?_) AllReadyH.nil
        go_simp
        refine (EN.out _ H.2.2.1).mono ?_
        rintro e w3 ⟨rfl, hb⟩
        replace H := CMS.below H hb
        refine hK.out _ _ H.2.2 (fun _ => ?_)
        clear hK KK hb
        change wpAnyH _ _ _ _ _ _ _ { tmps := #[_, _, _, _, _, _, _, _, _, _, _, _, _, _, _, _, _, _, _, _, _, _, _, _, _, _, _, _, _, _, _, _, _, _, _, _, _, _, _, _, _, _, _, _], defers := [] } _
        refine wpAnyH_ready (rs := [7]) (by kernel_rfl) (by simp) ?_
        refine AllReadyH.cons rfl (fun KK hK => ?_) AllReadyH.nil
        rw [if_pos (by rfl)]
        refine wp_store_mid 37 (.tmp 8) (.tmp 30) rfl sb 0 (bA 16 G1) rfl rfl (by rw [bA_size]; exact H.1.there) (by rw [bA_size]; exact Try.sizeSt) (bA_one _ _) ?_
        rw [bA_toList]
        have H9 := CMS.store H (by omega) (by omega) G1
        refine hK.out _ _ H9.1 (fun _ => ?_)
        clear hK KK H
        refine wpAnyH_done (by kernel_rfl) ?_ _
        refine NoPanic.normal ?_
        change Exit.then _ _ Exit.normal { tmps := #[_, _, _, _, _, _, _, _, _, _, _, _, _, _, _, _, _, _, _, _, _, _, _, _, _, _, _, _, _, _, _, _, _, _, _, _, _, _, _, _, _, _, _, _], defers := [] } _
        have CC9 : Hid (CiphAt _ _ _ _) := H9.1.1
        have HB9 : Hid (Below _ _ _) := H9.1.2
        have HR9 : Hid (Row8 _ _ _ _ _) := H9.2
        clear H9
        generalize (w3.setCells sb 0 (bv 16 G1)) = w9 at *
        generalize (bv 16 G).toArray = q1
        generalize bA 16 G1 = q2
        go_wp2_with fail
        go_step3
        rw [show o + 16 * i + 16 = o + 16 * (i + 1) from by omega]
        refine ⟨rfl, ⟨Cb, sb, ⟨hCs, hwC⟩, i + 1, L - 16, cr - 16, _, _, _, _, _, _, _, _, _, _, _, _, _, _, _, _, _, _, _, _, _, _, _, _, _, _, _, _, _, _, _, _, _, _, _, _, _, _, _, _, _, rfl, HL.out, by have := HL.out; omega, by omega, ?_, CC9.out, HB9.out⟩, ?_⟩
        · rw [HG1.out]; exact HR9.out
        · show _ < L; simp [lenOf]; omega
    · have eL : ¬ (16 : Int) < (L : Int) := by omega
      have hq : i = cmQ n := by unfold cmQ; omega
      obtain ⟨X, hX⟩ : ∃ X : Nat → Nat, X = fun j => c (16 * i + j) := ⟨_, rfl⟩
      have lX : ∀ j, X j < 256 := fun j => by rw [hX]; exact LC.out _
      obtain ⟨E0, hE0⟩ : ∃ E : Nat → Nat, E = Gf.enc W m (fun _ => 0) := ⟨_, rfl⟩
      have lE : ∀ j, j < 16 → E0 j < 256 := fun j _ => by rw [hE0]; exact Gf.enc_lt LW.out (fun _ _ => by show (0 : Nat) < 256; omega) j
      obtain ⟨D, hD⟩ : ∃ D : Nat → Nat, D = dblB E0 := ⟨_, rfl⟩
      have lD : ∀ j, j < 16 → D j < 256 := fun j hj => by rw [hD]; exact dblB_lt lE j hj
      obtain ⟨Y, hY⟩ : ∃ Y : Nat → Nat, Y = fun j => fillB L X j ^^^ (if L < 16 then dblB D else D) j := ⟨_, rfl⟩
      have lY : ∀ j, j < 16 → Y j < 256 := fun j hj => by
        rw [hY]
        refine Gf.xor_lt (fillB_lt lX j) ?_
        split
        · exact dblB_lt lD j hj
        · exact lD j hj
      have hT : Gf.enc W m (fun j => cbcB W m (fun _ => 0) c i j ^^^ Y j) = TAG := by
        rw [HTAG.out]
        unfold cmacB
        rw [← hq]
        congr 1
        funext j
        congr 1
        rw [hY]
        unfold lastS maskB fillB
        rw [← hq, ← hL, ← hE0, ← hD, hX]
        dsimp only
        congr 1
        by_cases h1 : j < L
        · rw [if_pos h1, if_pos (show 16 * i + j < n by omega)]
        · rw [if_neg h1, if_neg (show ¬ 16 * i + j < n by omega)]
          by_cases h2 : j = L
          · rw [if_pos h2, if_pos (show 16 * i + j = n by omega)]
          · rw [if_neg h2, if_neg (show ¬ 16 * i + j = n by omega)]
      have EZ : Hid (∀ w : World, CiphAt w Cb m W → Calls Try.prog 16 #[.pointer (some ⟨Cb, 0, none⟩), .agg (bA 16 (fun _ => 0))] w fun e w' => e = .returned (.agg (bA 16 E0)) ∧ Below w.heap.size w w') := fun w h => by
        have := encrypt_any Cb m W (fun _ => 0) (fun j _ => by show (0 : Nat) < 256; omega) LW.out hm1 hm2 w h
        rw [hE0]
        exact this
      have DB : Hid (∀ w : World, Calls Try.prog 19 #[.agg (bA 16 E0)] w fun e w' => e = .returned (.agg (bA 16 D)) ∧ Below w.heap.size w w') := by
        rw [hD]; exact doubled_any E0 lE
      have LS : Hid (∀ wq : World, Below w.heap.size w wq → Calls Try.prog 20 #[.slice (some ⟨b, o + 16 * i, none⟩) L cr, .agg (bA 16 D)] wq fun e w' => e = .returned (.agg (bA 16 Y)) ∧ Below wq.heap.size wq w') := fun wq hq => by
        rw [hY]
        refine lastBlock_any b (o + 16 * i) L cr X D lX lD (by omega) wq (code8_of (fun j hj => ?_))
        have hb : b < w.heap.size := HC.out.lt _ (by omega) rfl
        rw [hq.cell (p := ⟨b, o + 16 * i + j, none⟩) hb, hX, Nat.add_assoc]
        exact HC.out.at (by omega)
      have AD : Hid (∀ w : World, Calls Try.prog 17 #[.agg (bv 16 (cbcB W m (fun _ => 0) c i)).toArray, .agg (bA 16 Y)] w fun e w' => e = .returned (.agg (bA 16 (fun j => cbcB W m (fun _ => 0) c i j ^^^ Y j))) ∧ Below w.heap.size w w') := added_any _ _ (fun j _ => LB.out i j) lY
      have EN : Hid (∀ w : World, CiphAt w Cb m W → Calls Try.prog 16 #[.pointer (some ⟨Cb, 0, none⟩), .agg (bA 16 (fun j => cbcB W m (fun _ => 0) c i j ^^^ Y j))] w fun e w' => e = .returned (.agg (bA 16 TAG)) ∧ Below w.heap.size w w') := fun w h => by
        have := encrypt_any Cb m W (fun j => cbcB W m (fun _ => 0) c i j ^^^ Y j) (fun j hj => Gf.xor_lt (LB.out i j) (lY j hj)) LW.out hm1 hm2 w h
        rwa [hT] at this
      generalize cbcB W m (fun _ => 0) c i = G at *
      generalize bA 16 (fun j => G j ^^^ Y j) = GX at *
      generalize bA 16 Y = YA at *
      clear hT hY lY hX lX hE0 hD lD lE HTAG hq hL hi LB
      have ez : bA 16 (fun _ => 0) = #[.int .u8 0, .int .u8 0, .int .u8 0, .int .u8 0, .int .u8 0, .int .u8 0, .int .u8 0, .int .u8 0, .int .u8 0, .int .u8 0, .int .u8 0, .int .u8 0, .int .u8 0, .int .u8 0, .int .u8 0, .int .u8 0] := by kernel_rfl
      rw [ez] at EZ
      clear ez
      have SD : Hid ((Try.prog.info? 37).map (·.size) = some (bA 16 D).size) := by rw [bA_size]; exact Try.sizeSt
      have OD : Hid ((bA 16 D).all (·.oneCell') = true) := bA_one _ _
      have TD : Hid ((bA 16 D).toList = bv 16 D) := bA_toList _ _
      have ND : Hid ((bA 16 D).size = 16) := bA_size _ _
      have AD' : Hid ((bv 16 D).toArray = bA 16 D) := by
        show (bv 16 D).toArray = bA 16 D
        rw [← TD.out]
      generalize bA 16 E0 = EA at *
      generalize bA 16 D = DA at *
      go_wp2_with fail
      refine (EZ.out _ CC.out).mono ?_
      rintro e w1 ⟨rfl, hb1⟩
      have CC1 : Hid (CiphAt w1 Cb m W) := CC.out.below hb1
      have HB1 : Hid (Below w.heap.size w w1) := HB.out.trans (hb1.mono HB.out.size)
      have HR1 : Hid (Row8 w1 sb 37 16 G) := HR.out.below hb1
      clear CC HB HR hb1 EZ
      go_wp2_with fail
      refine (DB.out _).mono ?_
      rintro e w2 ⟨rfl, hb2⟩
      have CC2 : CiphAt (w2.alloc (.cells #[.int .u8 0, .int .u8 0, .int .u8 0, .int .u8 0, .int .u8 0, .int .u8 0, .int .u8 0, .int .u8 0, .int .u8 0, .int .u8 0, .int .u8 0, .int .u8 0, .int .u8 0, .int .u8 0, .int .u8 0, .int .u8 0] 37)) Cb m W := (CC1.out.below hb2).below ((Below.refl _ _).alloc (Nat.le_refl _) _)
      have HB2 : Below w.heap.size w (w2.alloc (.cells #[.int .u8 0, .int .u8 0, .int .u8 0, .int .u8 0, .int .u8 0, .int .u8 0, .int .u8 0, .int .u8 0, .int .u8 0, .int .u8 0, .int .u8 0, .int .u8 0, .int .u8 0, .int .u8 0, .int .u8 0, .int .u8 0] 37)) := (HB1.out.trans (hb2.mono HB1.out.size)).alloc (Nat.le_trans HB1.out.size hb2.size) _
      have HR2 : Row8 (w2.alloc (.cells #[.int .u8 0, .int .u8 0, .int .u8 0, .int .u8 0, .int .u8 0, .int .u8 0, .int .u8 0, .int .u8 0, .int .u8 0, .int .u8 0, .int .u8 0, .int .u8 0, .int .u8 0, .int .u8 0, .int .u8 0, .int .u8 0] 37)) sb 37 16 G := (HR1.out.below hb2).below ((Below.refl _ _).alloc (Nat.le_refl _) _)
      have HK2 : Row8 (w2.alloc (.cells #[.int .u8 0, .int .u8 0, .int .u8 0, .int .u8 0, .int .u8 0, .int .u8 0, .int .u8 0, .int .u8 0, .int .u8 0, .int .u8 0, .int .u8 0, .int .u8 0, .int .u8 0, .int .u8 0, .int .u8 0, .int .u8 0] 37)) w2.heap.size 37 16 (fun _ => 0) := Row8.z16At (w := w2) rfl _
      have hsk : sb < w2.heap.size := (HR1.out.below hb2).lt
      have X1 : OnlyB w2.heap.size (w2.alloc (.cells #[.int .u8 0, .int .u8 0, .int .u8 0, .int .u8 0, .int .u8 0, .int .u8 0, .int .u8 0, .int .u8 0, .int .u8 0, .int .u8 0, .int .u8 0, .int .u8 0, .int .u8 0, .int .u8 0, .int .u8 0, .int .u8 0] 37)) ((w2.alloc (.cells #[.int .u8 0, .int .u8 0, .int .u8 0, .int .u8 0, .int .u8 0, .int .u8 0, .int .u8 0, .int .u8 0, .int .u8 0, .int .u8 0, .int .u8 0, .int .u8 0, .int .u8 0, .int .u8 0, .int .u8 0, .int .u8 0] 37)).setCells w2.heap.size 0 (bv 16 D)) := onlyB_setCells _ _ _ (OnlyB.refl _ _)
      have H3 : CMS w Cb m sb w2.heap.size W G D ((w2.alloc (.cells #[.int .u8 0, .int .u8 0, .int .u8 0, .int .u8 0, .int .u8 0, .int .u8 0, .int .u8 0, .int .u8 0, .int .u8 0, .int .u8 0, .int .u8 0, .int .u8 0, .int .u8 0, .int .u8 0, .int .u8 0, .int .u8 0] 37)).setCells w2.heap.size 0 (bv 16 D)) := ⟨HR2.onlyB X1 (by omega), HK2.stored D, CC2.onlyBe X1 (by omega), HB2.trans (X1.toBelow (by omega) HB2.size)⟩
      have HT2 : Hid (World.there (w2.alloc (.cells #[.int .u8 0, .int .u8 0, .int .u8 0, .int .u8 0, .int .u8 0, .int .u8 0, .int .u8 0, .int .u8 0, .int .u8 0, .int .u8 0, .int .u8 0, .int .u8 0, .int .u8 0, .int .u8 0, .int .u8 0, .int .u8 0] 37)) w2.heap.size 0 DA.size) := by
        show World.there _ _ _ _
        rw [ND.out]; exact HK2.there
      have HH : Hid (CMS w Cb m sb w2.heap.size W G D ((w2.alloc (.cells #[.int .u8 0, .int .u8 0, .int .u8 0, .int .u8 0, .int .u8 0, .int .u8 0, .int .u8 0, .int .u8 0, .int .u8 0, .int .u8 0, .int .u8 0, .int .u8 0, .int .u8 0, .int .u8 0, .int .u8 0, .int .u8 0] 37)).setCells w2.heap.size 0 (bv 16 D))) := H3
      clear CC1 HB1 HR1 CC2 HB2 HR2 HK2 X1 H3 DB hb2
      go_upto_region 11 with (refine wpList_store_mid rfl 37 (.tmp 10) (.tmp 35) rfl _ 0 DA rfl rfl HT2.out SD.out OD.out ?_; rw [TD.out]; generalize hwf : (w2.alloc (.cells #[.int .u8 0, .int .u8 0, .int .u8 0, .int .u8 0, .int .u8 0, .int .u8 0, .int .u8 0, .int .u8 0, .int .u8 0, .int .u8 0, .int .u8 0, .int .u8 0, .int .u8 0, .int .u8 0, .int .u8 0, .int .u8 0] 37)).setCells w2.heap.size 0 (bv 16 D) = wf at *)
      clear hwf
      generalize w2.heap.size = kb at *
      have H : CMS w Cb m sb kb W G D wf.drew := CMS.drew HH.out
      refine wp_region_noPanic ?_
      refine wp_region_held_drew (S := fun w' => Row8 w' kb 37 16 D ∧ CiphAt w' Cb m W ∧ Below w.heap.size w w') (by kernel_rfl) H.2 (fun _ => ?_)
      refine wpAnyH_take (i := 1) (v := .slice (some ⟨b, o + 16 * i, none⟩) L cr) rfl (by kernel_rfl) (by kernel_rfl) (by kernel_rfl) (fun _ _ _ h => h) (Or.inl ⟨by rfl, ?_⟩) H.2 ?_
      · intro w hSw; go_simp
      change wpAnyH _ _ _ _ _ _ _ { tmps := #[_, _, _, _, _, _, _, _, _, _, _, _, _, _, _, _, _, _, _, _, _, _, _, _, _, _, _, _, _, _, _, _, _, _, _, _, _, _, _, _, _, _, _, _], defers := [] } _
      refine wpAnyH_take (i := 2) (v := .agg (bv 16 D).toArray) rfl (by kernel_rfl) (by kernel_rfl) (by kernel_rfl) (fun _ _ _ h => h) (yieldsIf_load_mid (by rfl) 37 (.tmp 10) rfl kb 0 rfl (bv 16 D) _ (fun w h => h.1.range) Try.underlying37 rfl (by rw [bv_length]; exact Try.sizeSt)) H.2 ?_
      change wpAnyH _ _ _ _ _ _ _ { tmps := #[_, _, _, _, _, _, _, _, _, _, _, _, _, _, _, _, _, _, _, _, _, _, _, _, _, _, _, _, _, _, _, _, _, _, _, _, _, _, _, _, _, _, _, _], defers := [] } _
      rw [AD'.out]
      refine wpAnyH_ready (rs := [0, 3]) (by kernel_rfl) (by simp) ?_
      refine AllReadyH.cons rfl (fun KK hK => ?_) (AllReadyH.cons rfl (fun KK hK => ?_) AllReadyH.nil)
      · rw [if_pos (by rfl)]
        refine wp_load_mid 37 (.tmp 8) rfl sb 0 rfl (bv 16 G) _ H.1.range Try.underlying37 rfl (by rw [bv_length]; exact Try.sizeSt) ?_
        refine hK.out _ _ H.2 (fun _ => ?_)
        clear hK KK
        change wpAnyH _ _ _ _ _ _ _ { tmps := #[_, _, _, _, _, _, _, _, _, _, _, _, _, _, _, _, _, _, _, _, _, _, _, _, _, _, _, _, _, _, _, _, _, _, _, _, _, _, _, _, _, _, _, _], defers := [] } _
        refine wpAnyH_ready (rs := [3]) (by kernel_rfl) (by simp) ?_
        refine AllReadyH.cons rfl (fun KK hK => ?_) AllReadyH.nil
        go_simp
        refine (LS.out _ H.2.2.2).mono ?_
        rintro e w4 ⟨rfl, hb⟩
        replace H := CMS.below H hb
        refine hK.out _ _ H.2 (fun _ => ?_)
        clear hK KK hb
        change wpAnyH _ _ _ _ _ _ _ { tmps := #[_, _, _, _, _, _, _, _, _, _, _, _, _, _, _, _, _, _, _, _, _, _, _, _, _, _, _, _, _, _, _, _, _, _, _, _, _, _, _, _, _, _, _, _], defers := [] } _
        refine wpAnyH_ready (rs := [4]) (by kernel_rfl) (by simp) ?_
        refine AllReadyH.cons rfl (fun KK hK => ?_) AllReadyH.nil
        go_simp
        refine (AD.out _).mono ?_
        rintro e w5 ⟨rfl, hb⟩
        replace H := CMS.below H hb
        refine hK.out _ _ H.2 (fun _ => ?_)
        clear hK KK hb
        change wpAnyH _ _ _ _ _ _ _ { tmps := #[_, _, _, _, _, _, _, _, _, _, _, _, _, _, _, _, _, _, _, _, _, _, _, _, _, _, _, _, _, _, _, _, _, _, _, _, _, _, _, _, _, _, _, _], defers := [] } _
        refine wpAnyH_ready (rs := [5]) (by kernel_rfl) (by simp) ?_
        refine AllReadyH.cons rfl (fun KK hK => ?_) AllReadyH.nil
        go_simp
        refine (EN.out _ H.2.2.1).mono ?_
        rintro e w6 ⟨rfl, hb⟩
        replace H := CMS.below H hb
        refine hK.out _ _ H.2 (fun _ => ?_)
        clear hK KK hb
        change wpAnyH _ _ _ _ _ _ _ { tmps := #[_, _, _, _, _, _, _, _, _, _, _, _, _, _, _, _, _, _, _, _, _, _, _, _, _, _, _, _, _, _, _, _, _, _, _, _, _, _, _, _, _, _, _, _], defers := [] } _
        refine wpAnyH_ready (rs := [6]) (by kernel_rfl) (by simp) ?_
        refine AllReadyH.cons rfl (fun KK hK => ?_) AllReadyH.nil
        rw [if_pos (by rfl)]
        refine wp_store_mid 37 (.tmp 8) (.tmp 41) rfl sb 0 (bA 16 TAG) rfl rfl (by rw [bA_size]; exact H.1.there) (by rw [bA_size]; exact Try.sizeSt) (bA_one _ _) ?_
        rw [bA_toList]
        replace H := CMS.store2 H (by omega) (by omega) (by omega) TAG
        refine hK.out _ _ H.2 (fun _ => ?_)
        clear hK KK
        refine wpAnyH_done (by kernel_rfl) ?_ _
        refine NoPanic.normal ?_
        change Exit.then _ _ Exit.normal { tmps := #[_, _, _, _, _, _, _, _, _, _, _, _, _, _, _, _, _, _, _, _, _, _, _, _, _, _, _, _, _, _, _, _, _, _, _, _, _, _, _, _, _, _, _, _], defers := [] } _
        have hcv : (convert 22 9 (.slice (some ⟨sb, 0, none⟩) 16 16)).run Try.prog (w6.setCells sb 0 (bv 16 TAG)) = .ok (.string (kstr TAG 0 16)) (w6.setCells sb 0 (bv 16 TAG)) := kstr_of_code (code8_of (fun j hj => by rw [Nat.zero_add]; exact World.rowIs.cell H.1 hj))
        have HB9 : Hid (Below _ _ _) := H.2.2.2
        clear H
        generalize (w6.setCells sb 0 (bv 16 TAG)) = w9 at *
        generalize hTS : kstr TAG 0 16 = TS at hcv
        have HTS : Hid (kstr TAG 0 16 = TS) := hTS
        clear hTS
        generalize (bv 16 G).toArray = q1
        generalize bA 16 TAG = q2
        go_wp2
        rw [jump_ret]
        refine bodyPost_ret (results_tmp2 Try.results7 _ _ _) rfl ⟨?_, HB9.out⟩
        rw [HTS.out]; rfl
      · go_simp
        refine (LS.out _ H.2.2.2).mono ?_
        rintro e w4 ⟨rfl, hb⟩
        replace H := CMS.below H hb
        refine hK.out _ _ H.2 (fun _ => ?_)
        clear hK KK hb
        change wpAnyH _ _ _ _ _ _ _ { tmps := #[_, _, _, _, _, _, _, _, _, _, _, _, _, _, _, _, _, _, _, _, _, _, _, _, _, _, _, _, _, _, _, _, _, _, _, _, _, _, _, _, _, _, _, _], defers := [] } _
        refine wpAnyH_ready (rs := [0]) (by kernel_rfl) (by simp) ?_
        refine AllReadyH.cons rfl (fun KK hK => ?_) AllReadyH.nil
        rw [if_pos (by rfl)]
        refine wp_load_mid 37 (.tmp 8) rfl sb 0 rfl (bv 16 G) _ H.1.range Try.underlying37 rfl (by rw [bv_length]; exact Try.sizeSt) ?_
        refine hK.out _ _ H.2 (fun _ => ?_)
        clear hK KK
        change wpAnyH _ _ _ _ _ _ _ { tmps := #[_, _, _, _, _, _, _, _, _, _, _, _, _, _, _, _, _, _, _, _, _, _, _, _, _, _, _, _, _, _, _, _, _, _, _, _, _, _, _, _, _, _, _, _], defers := [] } _
        refine wpAnyH_ready (rs := [4]) (by kernel_rfl) (by simp) ?_
        refine AllReadyH.cons rfl (fun KK hK => ?_) AllReadyH.nil
        go_simp
        refine (AD.out _).mono ?_
        rintro e w5 ⟨rfl, hb⟩
        replace H := CMS.below H hb
        refine hK.out _ _ H.2 (fun _ => ?_)
        clear hK KK hb
        change wpAnyH _ _ _ _ _ _ _ { tmps := #[_, _, _, _, _, _, _, _, _, _, _, _, _, _, _, _, _, _, _, _, _, _, _, _, _, _, _, _, _, _, _, _, _, _, _, _, _, _, _, _, _, _, _, _], defers := [] } _
        refine wpAnyH_ready (rs := [5]) (by kernel_rfl) (by simp) ?_
        refine AllReadyH.cons rfl (fun KK hK => ?_) AllReadyH.nil
        go_simp
        refine (EN.out _ H.2.2.1).mono ?_
        rintro e w6 ⟨rfl, hb⟩
        replace H := CMS.below H hb
        refine hK.out _ _ H.2 (fun _ => ?_)
        clear hK KK hb
        change wpAnyH _ _ _ _ _ _ _ { tmps := #[_, _, _, _, _, _, _, _, _, _, _, _, _, _, _, _, _, _, _, _, _, _, _, _, _, _, _, _, _, _, _, _, _, _, _, _, _, _, _, _, _, _, _, _], defers := [] } _
        refine wpAnyH_ready (rs := [6]) (by kernel_rfl) (by simp) ?_
        refine AllReadyH.cons rfl (fun KK hK => ?_) AllReadyH.nil
        rw [if_pos (by rfl)]
        refine wp_store_mid 37 (.tmp 8) (.tmp 41) rfl sb 0 (bA 16 TAG) rfl rfl (by rw [bA_size]; exact H.1.there) (by rw [bA_size]; exact Try.sizeSt) (bA_one _ _) ?_
        rw [bA_toList]
        replace H := CMS.store2 H (by omega) (by omega) (by omega) TAG
        refine hK.out _ _ H.2 (fun _ => ?_)
        clear hK KK
        refine wpAnyH_done (by kernel_rfl) ?_ _
        refine NoPanic.normal ?_
        change Exit.then _ _ Exit.normal { tmps := #[_, _, _, _, _, _, _, _, _, _, _, _, _, _, _, _, _, _, _, _, _, _, _, _, _, _, _, _, _, _, _, _, _, _, _, _, _, _, _, _, _, _, _, _], defers := [] } _
        have hcv : (convert 22 9 (.slice (some ⟨sb, 0, none⟩) 16 16)).run Try.prog (w6.setCells sb 0 (bv 16 TAG)) = .ok (.string (kstr TAG 0 16)) (w6.setCells sb 0 (bv 16 TAG)) := kstr_of_code (code8_of (fun j hj => by rw [Nat.zero_add]; exact World.rowIs.cell H.1 hj))
        have HB9 : Hid (Below _ _ _) := H.2.2.2
        clear H
        generalize (w6.setCells sb 0 (bv 16 TAG)) = w9 at *
        generalize hTS : kstr TAG 0 16 = TS at hcv
        have HTS : Hid (kstr TAG 0 16 = TS) := hTS
        clear hTS
        generalize (bv 16 G).toArray = q1
        generalize bA 16 TAG = q2
        go_wp2
        rw [jump_ret]
        refine bodyPost_ret (results_tmp2 Try.results7 _ _ _) rfl ⟨?_, HB9.out⟩
        rw [HTS.out]; rfl
  · intro hp
    go_upto_region 5 with (first
      | (go_at_call 14; refine (MF.out _).mono ?_; rintro e w' ⟨rfl, rfl⟩)
      | (go_at_call 15; refine (NC.out _).mono ?_; rintro e w1 ⟨rfl, hb⟩)
      | (refine wpList_store_mid rfl 42 (.tmp 7) (.tmp 19) rfl _ 0 CA rfl rfl ?_ S2.out O2.out ?_))
    · rw [HSZ.out]; exact there_big w1 Z _ hZ
    · have R1 : ((w1.alloc (.cells Z 42)).setCells w1.heap.size 0 CA.toList).rangeAt w1.heap.size 0 CA.toList := World.rangeAt_setCells_same _ _ _ _ (by rw [hLen]; exact there_big w1 Z _ hZ)
      have CC : Hid (CiphAt ((w1.alloc (.cells Z 42)).setCells w1.heap.size 0 CA.toList) w1.heap.size m W) := fun k hk => by
        have := R1 k _ (hAt.out k hk)
        rwa [Nat.zero_add] at this
      have hsz := hb.size
      have B1 : Hid (Below w.heap.size w ((w1.alloc (.cells Z 42)).setCells w1.heap.size 0 CA.toList)) := below_setCells hsz _ _ _ (hb.alloc hsz _)
      clear R1 hb NC MF S2 O2 hLen hAt HSZ z0 hZ HC
      generalize (w1.alloc (.cells Z 42)).setCells w1.heap.size 0 CA.toList = wz at *
      generalize w1.heap.size = Cb at *
      have CCm : Hid (CiphAt (wz.alloc (.cells #[.int .u8 0, .int .u8 0, .int .u8 0, .int .u8 0, .int .u8 0, .int .u8 0, .int .u8 0, .int .u8 0, .int .u8 0, .int .u8 0, .int .u8 0, .int .u8 0, .int .u8 0, .int .u8 0, .int .u8 0, .int .u8 0] 37)) Cb m W) := CC.out.below ((Below.refl _ _).alloc (Nat.le_refl _) _)
      have HRm : Hid (Row8 (wz.alloc (.cells #[.int .u8 0, .int .u8 0, .int .u8 0, .int .u8 0, .int .u8 0, .int .u8 0, .int .u8 0, .int .u8 0, .int .u8 0, .int .u8 0, .int .u8 0, .int .u8 0, .int .u8 0, .int .u8 0, .int .u8 0, .int .u8 0] 37)) wz.heap.size 37 16 (fun _ => 0)) := Row8.z16At (w := wz) rfl _
      have HBm : Hid (Below w.heap.size w (wz.alloc (.cells #[.int .u8 0, .int .u8 0, .int .u8 0, .int .u8 0, .int .u8 0, .int .u8 0, .int .u8 0, .int .u8 0, .int .u8 0, .int .u8 0, .int .u8 0, .int .u8 0, .int .u8 0, .int .u8 0, .int .u8 0, .int .u8 0] 37))) := B1.out.alloc B1.out.size _
      have hCz : Cb < wz.heap.size := CC.out.lt
      clear CC B1
      go_upto_region 6 with fail
      generalize wz.alloc (.cells #[.int .u8 0, .int .u8 0, .int .u8 0, .int .u8 0, .int .u8 0, .int .u8 0, .int .u8 0, .int .u8 0, .int .u8 0, .int .u8 0, .int .u8 0, .int .u8 0, .int .u8 0, .int .u8 0, .int .u8 0, .int .u8 0] 37) = wm at *
      generalize wz.heap.size = sb at *
      go_wp2_with fail
      go_step3
      rename_i hKx
      refine hKx _ _ (hp _ _ ⟨Cb, sb, ⟨hCz, hsz⟩, 0, n, cp, _, _, _, _, _, _, _, _, _, _, _, _, _, _, _, _, _, _, _, _, _, _, _, _, _, _, _, _, _, _, _, _, _, _, _, _, _, _, _, _, _, rfl, by omega, by omega, by omega, HRm.out.congr (fun j _ => rfl), CCm.out, HBm.out⟩)
end Go.Proofs.Ytbajdphiaibmgaa
