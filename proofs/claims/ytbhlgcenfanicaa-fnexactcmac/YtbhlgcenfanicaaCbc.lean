/-
  The contract of impl.CbcEncrypt.
-/
import Derived.Test.YtbhlgcenfanicaaModes
import Derived.Test.YtbhlgcenfanicaaStateOf2
import Derived.Test.YtbhlgcenfanicaaModelK
namespace Go.Proofs.Ytbhlgcenfanicaa
open Go.ChangeShapes Go.WideShapes Go.ChangeAt Go.RowKit
theorem Own8.stored {w : World} {b M : Nat} {F : Nat → Nat} (h : Own8 w b M F) (o n : Nat) (g : Nat → Nat) : Own8 (w.setCells b o (bv n g)) b M (fun x => if o ≤ x ∧ x < o + n then g (x - o) else F x) := by
  obtain ⟨m, G, hm, hr, hG⟩ := h
  refine ⟨m, _, hm, rowIs_setCells (bv n g) o w G hr, fun i hi => ?_⟩
  rw [bv_length]
  show _ = Value.int .u8 ((if o ≤ i ∧ i < o + n then g (i - o) else F i : Nat) : Int)
  by_cases e : o ≤ i ∧ i < o + n
  · rw [if_pos e, if_pos e, List.getD_eq_getElem?_getD, bv_at (by omega)]; rfl
  · rw [if_neg e, if_neg e]; exact hG i hi
theorem onlyB_setCells {b : Nat} {a : World} (vs : List Value) : ∀ (o : Nat) (w : World), OnlyB b a w → OnlyB b a (w.setCells b o vs) := by
  induction vs with
  | nil => intro o w h; exact h
  | cons v vs ih => intro o w h; exact ih (o + 1) _ (h.setCell o v)
theorem CiphAt.onlyBe {w w' : World} {C m b : Nat} {K : Nat → Nat} (h : CiphAt w C m K) (ho : OnlyB b w w') (hne : C ≠ b) : CiphAt w' C m K := fun k hk => by
  rw [World.cell?_of_block (w := w) (ho.block C h.lt hne)]; exact h k hk
theorem Row8.onlyB {w w' : World} {b c n : Nat} {t : TypeId} {f : Nat → Nat} (h : Row8 w b t n f) (ho : OnlyB c w w') (hne : b ≠ c) : Row8 w' b t n f := World.rowIs.of_block h (ho.block b h.lt hne)
theorem bA_same {f g : Nat → Nat} (h : Gf.Same f g) : bA 16 f = bA 16 g := bA_congr h
theorem implCbc_no (k s : ByteArray) (a : Option Addr) (n c : Nat) (code : Int) (hc : code ≠ 0) (hf : ∀ w : World, Calls Try.prog 24 #[.string k, .string s, .int .i64 16, .int .i64 (n : Int), .int .i64 65520] w fun e w' => e = .returned (.int .i64 code) ∧ w = w') (w : World) :
    Calls Try.prog 11 #[.string k, .string s, .slice a n c] w fun e w' => e = .returned (.tuple #[.slice none 0 0, .int .i64 code]) ∧ w = w' := by
  have HF : Hid (∀ w : World, Calls Try.prog 24 #[.string k, .string s, .int .i64 16, .int .i64 (n : Int), .int .i64 65520] w fun e w' => e = .returned (.int .i64 code) ∧ w = w') := hf
  have e1 : (code != 0) = true := by rw [bne_iff_ne]; exact hc
  clear hf
  go_enter Try.func11, Try.ntmps11
  go_wp2
  go_step3
  go_wp2_with (go_at_call 24; refine (HF.out _).mono ?_; rintro e w' ⟨rfl, rfl⟩)
  rw [Exit.noGoto_ret]
  go_ret2
  exact ⟨rfl, rfl⟩
/-- What holds where a block more begins: i blocks are done. -/
def CbcJ (w0 : World) (Cb m ob M C ab : Nat) (K iv P : Nat → Nat) (a' : Act) (w' : World) : Prop := ∃ (i : Nat) (ra : Option Addr) (L cr : Nat) (u0 u1 u2 u3 u4 u5 u6 u7 u8 u13 u14 u15 u16 u17 u18 u19 u20 u21 u22 u23 u24 u25 u26 u27 u28 u29 u30 u31 u32 u33 u34 u35 u36 u37 u38 u39 u40 u41 u42 u43 u44 u45 u46 : Value), a' = { tmps := #[u0, u1, u2, u3, u4, u5, u6, u7, u8, .pointer (some ⟨Cb, 0, none⟩), .slice (some ⟨ob, 0, none⟩) M C, .pointer (some ⟨ab, 0, none⟩), .slice ra L cr, u13, u14, u15, u16, u17, u18, u19, u20, u21, u22, u23, u24, u25, u26, u27, u28, u29, u30, u31, u32, u33, u34, u35, u36, u37, u38, u39, u40, u41, u42, u43, u44, u45, u46], defers := [] } ∧
  L = M - 16 * i ∧ 16 * i ≤ M ∧ (16 * i < M → ra = some ⟨ob, 16 * i, none⟩) ∧ L ≤ cr ∧ Own8 w' ob M (cbcTo K m iv P i) ∧ Row8 w' ab 39 16 (cbcB K m iv P i) ∧ CiphAt w' Cb m K ∧ Below w0.heap.size w0 w'
set_option maxRecDepth 100000 in
set_option maxHeartbeats 4000000 in
theorem implCbc_yes (k s : ByteArray) (kn b o n c : Nat) (f : Nat → Nat) (hkn : kn = 4 ∨ kn = 8) (hk : k.size = kn * 4) (hs : s.size = 16) (hn : n ≤ 65520) (hf : ∀ i, f i < 256) (w : World) (h : Code8 w (some ⟨b, o, none⟩) n f) :
    Calls Try.prog 11 #[.string k, .string s, .slice (some ⟨b, o, none⟩) n c] w fun e w' => RetB2 w w' e (n + fillN n) (cbcO (Gf.ws (strB k) kn (3 * kn + 28)) (kn + 6) (strB s) (padF n f)) (.int .i64 0) ∧ Below w.heap.size w w' := by
  have MF : Hid (∀ w : World, Calls Try.prog 24 #[.string k, .string s, .int .i64 16, .int .i64 (n : Int), .int .i64 65520] w fun e w' => e = .returned (.int .i64 0) ∧ w = w') := mf_ok k s 16 n 65520 (by omega) (by omega) (by omega) (by omega)
  have NC : Hid (∀ w : World, Calls Try.prog 25 #[.string k] w fun e w' => e = .returned (.agg (cA (kn + 6) (Gf.ws (strB k) kn (3 * kn + 28)))) ∧ Below w.heap.size w w') := newCipher_any k kn hkn hk
  have LW : Hid (∀ j, Gf.ws (strB k) kn (3 * kn + 28) j < 256) := Gf.ws_lt (strB_lt k) _
  generalize Gf.ws (strB k) kn (3 * kn + 28) = W at *
  obtain ⟨m, hm⟩ : ∃ m, m = kn + 6 := ⟨_, rfl⟩
  have hm1 : 1 ≤ m := by omega
  have hm2 : m ≤ 14 := by omega
  rw [← hm] at NC ⊢
  have PD : Hid (∀ w : World, Code8 w (some ⟨b, o, none⟩) n f → Calls Try.prog 32 #[.slice (some ⟨b, o, none⟩) n c] w fun e w' => RetB w w' e (n + fillN n) (padF n f) ∧ Below w.heap.size w w') := fun w h => padded_any b o n c f (by omega) w h
  have SO : Hid (∀ w : World, Calls Try.prog 33 #[.string s] w fun e w' => e = .returned (.agg (bA 16 (strB s))) ∧ Below w.heap.size w w') := stateOf_le s (by omega)
  have LI : Hid (∀ j, strB s j < 256) := strB_lt s
  have LP : Hid (∀ j, padF n f j < 256) := fun j => padF_lt hf j
  have hMm : (n + fillN n) % 16 = 0 := padN_mod n
  have hM2 : n + fillN n ≤ 65536 := by have := (fillN_bd n).2; omega
  generalize padF n f = P at *
  generalize n + fillN n = M at *
  generalize strB s = iv at *
  obtain ⟨Z, z0, hZ, -⟩ := Try.zeroC
  have S2 : Hid ((Try.prog.info? 44).map (·.size) = some (cA m W).size) := by rw [cA_size]; exact Try.sizeC
  have O2 : Hid ((cA m W).all (·.oneCell') = true) := cA_one _ _
  have hLen : (cA m W).toList.length = 769 := cA_len _ _
  have hAt : Hid (∀ k, k < 769 → (cA m W).toList[k]? = some (cf m W k)) := fun k hk => by
    have := cA_at (n := m) (K := W) hk
    rwa [← Array.getElem?_toList] at this
  have HSZ : Hid ((cA m W).size = 769) := cA_size _ _
  generalize cA m W = CA at *
  have HC : Hid (Code8 w (some ⟨b, o, none⟩) n f) := h
  have LB : Hid (∀ i j, cbcB W m iv P i j < 256) := fun i j => cbcB_lt LW.out LI.out LP.out i j
  clear h hf hkn hk hs hm
  go_enter Try.func11, Try.ntmps11
  go_wp2
  refine wp_scope_label 0 (fun a' w' => ∃ Cb ob C ab, (w.heap.size ≤ ob ∧ Cb < ob ∧ ob < ab) ∧ M ≤ C ∧ CbcJ w Cb m ob M C ab W iv P a' w') (fun a' _ => lenOf (a'.tmps.getD 12 undef)) rfl ?_ ?_
  · rintro a' wr ⟨Cb, ob, C, ab, ⟨hob, hCo, hoa⟩, hMC, i, ra, L, cr, u0, u1, u2, u3, u4, u5, u6, u7, u8, u13, u14, u15, u16, u17, u18, u19, u20, u21, u22, u23, u24, u25, u26, u27, u28, u29, u30, u31, u32, u33, u34, u35, u36, u37, u38, u39, u40, u41, u42, u43, u44, u45, u46, rfl, hL, hi, hra, hcr, ho, hr, hC, hB⟩
    have HO : Hid (Own8 wr ob M (cbcTo W m iv P i)) := ho
    have HR : Hid (Row8 wr ab 39 16 (cbcB W m iv P i)) := hr
    have CC : Hid (CiphAt wr Cb m W) := hC
    have HB : Hid (Below w.heap.size w wr) := hB
    clear ho hr hC hB
    clear SO PD HC NC MF S2 O2 hLen hAt HSZ z0 hZ
    by_cases hlt : 16 * i < M
    · have era := hra hlt
      subst era
      have hMi : 16 * i + 16 ≤ M := by omega
      have eL : ((L : Int) == 0) = false := by rw [beq_eq_false_iff_ne]; omega
      have xc : (16 : Int) ≤ (cr : Int) := by omega
      have xL : (16 : Int) ≤ (L : Int) := by omega
      have LF : Hid (∀ x, cbcTo W m iv P i x < 256) := fun x => by
        show cbcTo W m iv P i x < 256
        unfold cbcTo
        split
        · exact LB.out _ _
        · exact LP.out x
      obtain ⟨F2, hF2⟩ : ∃ F2 : Nat → Nat, F2 = fun x => if 16 * i ≤ x ∧ x < 16 * i + 16 then cbcTo W m iv P i x ^^^ cbcB W m iv P i (x - 16 * i) else cbcTo W m iv P i x := ⟨_, rfl⟩
      have AI : Hid (∀ w : World, Own8 w ob M (cbcTo W m iv P i) → Calls Try.prog 27 #[.slice (some ⟨ob, 16 * i, none⟩) 16 16, .agg (bA 16 (cbcB W m iv P i))] w fun e w' => e = .returned (.tuple #[]) ∧ Own8 w' ob M F2 ∧ OnlyB ob w w') := fun w h => by
        rw [hF2]
        exact addInto_any ob (16 * i) 16 16 M _ _ LF.out (fun j _ => LB.out i j) (Nat.le_refl _) hMi w h
      obtain ⟨X, hX⟩ : ∃ X : Nat → Nat, X = fun j => cbcB W m iv P i j ^^^ P (16 * i + j) := ⟨_, rfl⟩
      have hlX : ∀ j, X j < 256 := fun j => by rw [hX]; exact Gf.xor_lt (LB.out i j) (LP.out _)
      have hXS : ∀ j, j < 16 → F2 (16 * i + j) = X j := fun j hj => by
        rw [hF2, hX]
        show (if 16 * i ≤ 16 * i + j ∧ 16 * i + j < 16 * i + 16 then cbcTo W m iv P i (16 * i + j) ^^^ cbcB W m iv P i (16 * i + j - 16 * i) else cbcTo W m iv P i (16 * i + j)) = cbcB W m iv P i j ^^^ P (16 * i + j)
        rw [if_pos (by omega), show 16 * i + j - 16 * i = j from by omega, Nat.xor_comm]
        unfold cbcTo
        rw [if_neg (by omega)]
      obtain ⟨S, hS⟩ : ∃ S, S = kstr (fun j => F2 (16 * i + j)) 0 16 := ⟨_, rfl⟩
      have hSS : Gf.Same (strB S) X := fun j hj => by
        rw [hS, strB_kstr _ 0 16 j (by rw [Nat.zero_add, hXS j hj]; exact hlX j) hj, Nat.zero_add, hXS j hj]
      have SO2 : Hid (∀ w : World, Calls Try.prog 33 #[.string S] w fun e w' => e = .returned (.agg (bA 16 X)) ∧ Below w.heap.size w w') := fun w => by
        have := stateOf_le S (by rw [hS, kstr_size]; exact Nat.le_refl _) w
        rwa [bA_same hSS] at this
      have EX : Hid (Gf.enc W m X = cbcB W m iv P (i + 1)) := by show Gf.enc W m X = _; rw [hX]; rfl
      have EN : Hid (∀ w : World, CiphAt w Cb m W → Calls Try.prog 28 #[.pointer (some ⟨Cb, 0, none⟩), .agg (bA 16 X)] w fun e w' => e = .returned (.agg (bA 16 (cbcB W m iv P (i + 1)))) ∧ Below w.heap.size w w') := fun w h => by
        have := encrypt_any Cb m W X (fun j _ => hlX j) LW.out hm1 hm2 w h
        rwa [EX.out] at this
      have HFin : Hid (∀ x, x < M → (if 16 * i ≤ x ∧ x < 16 * i + 16 then cbcB W m iv P (i + 1) (x - 16 * i) else F2 x) = cbcTo W m iv P (i + 1) x) := fun x hx => by
        unfold cbcTo
        by_cases e : 16 * i ≤ x ∧ x < 16 * i + 16
        · rw [if_pos e, if_pos (by omega)]
          have := cbcO_at W m iv P i (x - 16 * i) (by omega)
          rw [show 16 * i + (x - 16 * i) = x from by omega] at this
          exact this.symm
        · rw [if_neg e, hF2]
          show (if 16 * i ≤ x ∧ x < 16 * i + 16 then _ else cbcTo W m iv P i x) = _
          rw [if_neg e]
          unfold cbcTo
          by_cases e2 : x < 16 * i
          · rw [if_pos e2, if_pos (by omega)]
          · rw [if_neg e2, if_neg (by omega)]
      have HS : Hid (S = kstr (fun j => F2 (16 * i + j)) 0 16) := hS
      have HL : Hid (L - 16 = M - 16 * (i + 1)) := by show L - 16 = _; omega
      generalize hG1 : cbcB W m iv P (i + 1) = G1 at *
      have HG1 : Hid (cbcB W m iv P (i + 1) = G1) := hG1
      clear hG1
      generalize cbcB W m iv P i = G0 at *
      clear hF2 hX hlX hXS hS hSS EX hra hL LF LB LP LI LW
      have eA0 : (bv 16 G0).toArray = bA 16 G0 := rfl
      have SA : Hid ((Try.prog.info? 39).map (·.size) = some (bA 16 G1).size) := by rw [bA_size]; exact Try.sizeSt
      have OA : Hid ((bA 16 G1).all (·.oneCell') = true) := bA_one _ _
      have TL : Hid ((bA 16 G1).toList = bv 16 G1) := bA_toList _ _
      have BS : Hid ((bA 16 G1).size = 16) := bA_size _ _
      generalize bA 16 G1 = GA at *
      go_wp2_with (refine wpList_load_mid rfl 39 (.tmp 11) rfl ab 0 rfl (bv 16 G0) _ HR.out.range Try.underlying39 rfl (by rw [bv_length]; exact Try.sizeSt) ?_)
      clear eA0
      refine (AI.out _ HO.out).mono ?_
      rintro e w1 ⟨rfl, ho1, hb1⟩
      have HO1 : Hid (Own8 w1 ob M F2) := ho1
      have HR1 : Hid (Row8 w1 ab 39 16 G0) := HR.out.onlyB hb1 (by omega)
      have CC1 : Hid (CiphAt w1 Cb m W) := CC.out.onlyBe hb1 (by omega)
      have HB1 : Hid (Below w.heap.size w w1) := HB.out.trans (hb1.toBelow hob HB.out.size)
      have hcv : (convert 22 9 (.slice (some ⟨ob, 16 * i, none⟩) 16 16)).run Try.prog w1 = .ok (.string S) w1 := by
        rw [HS.out]
        exact kstr_of_code (code8_of (fun j hj => ho1.cell (by omega)))
      clear ho1 hb1 HO HR CC HB AI HS
      generalize bA 16 G0 = GA0 at *
      generalize bA 16 X = XA at *
      go_wp2_with fail
      refine (SO2.out _).mono ?_
      rintro e w2 ⟨rfl, hb2⟩
      have HO2 : Hid (Own8 w2 ob M F2) := HO1.out.below hb2
      have HR2 : Hid (Row8 w2 ab 39 16 G0) := HR1.out.below hb2
      have CC2 : Hid (CiphAt w2 Cb m W) := CC1.out.below hb2
      have HB2 : Hid (Below w.heap.size w w2) := HB1.out.trans (hb2.mono HB1.out.size)
      clear hb2 HO1 HR1 CC1 HB1 SO2 hcv
      go_wp2_with fail
      refine (EN.out _ CC2.out).mono ?_
      rintro e w3 ⟨rfl, hb3⟩
      have HO3 : Hid (Own8 w3 ob M F2) := HO2.out.below hb3
      have HR3 : Hid (Row8 w3 ab 39 16 G0) := HR2.out.below hb3
      have CC3 : Hid (CiphAt w3 Cb m W) := CC2.out.below hb3
      have HB3 : Hid (Below w.heap.size w w3) := HB2.out.trans (hb3.mono HB2.out.size)
      clear hb3 HO2 HR2 CC2 HB2 EN
      have X3 : OnlyB ab w3 (w3.setCells ab 0 (bv 16 G1)) := onlyB_setCells _ _ _ (OnlyB.refl _ _)
      have HO4 : Hid (Own8 (w3.setCells ab 0 (bv 16 G1)) ob M F2) := HO3.out.onlyB X3 (by omega)
      have HR4 : Hid (Row8 (w3.setCells ab 0 (bv 16 G1)) ab 39 16 G1) := HR3.out.stored _
      have CC4 : Hid (CiphAt (w3.setCells ab 0 (bv 16 G1)) Cb m W) := CC3.out.onlyBe X3 (by omega)
      have HB4 : Hid (Below w.heap.size w (w3.setCells ab 0 (bv 16 G1))) := HB3.out.trans (X3.toBelow (by omega) HB3.out.size)
      go_upto_region 12 with (refine wpList_store_mid rfl 39 (.tmp 11) (.tmp 41) rfl ab 0 GA rfl rfl (by rw [BS.out]; exact HR3.out.there) SA.out OA.out ?_)
      rw [TL.out]
      clear HO3 HR3 CC3 HB3 X3 SA OA TL BS
      generalize w3.setCells ab 0 (bv 16 G1) = w4 at *
      have X5 : OnlyB ob w4 (w4.setCells ob (16 * i) (bv 16 G1)) := onlyB_setCells _ _ _ (OnlyB.refl _ _)
      have CP : ∀ ty, (Builtin.copy_ #[22, 22] ty #[.slice (some ⟨ob, 16 * i, none⟩) 16 16, .slice (some ⟨ab, 0, none⟩) 16 16]).run Try.prog w4 = .ok (.int .i64 16) (w4.setCells ob (16 * i) (bv 16 G1)) := fun ty => by
        have := run_copy_cells (P := Try.prog) w4 22 22 ty 5 ob (16 * i) 16 16 ⟨ab, 0, none⟩ 16 16 (bv 16 G1) Try.underlying22 size8 (by rw [bv_length]; rfl) (bv_news (code8_of (fun j hj => by rw [Nat.zero_add]; exact HR4.out.cell hj))) (fun j hj => by rw [bv_length] at hj; rw [HO4.out.cell (by omega)]; rfl) (fun j hj => HO4.out.frozen _) (bv_one _ _)
        rw [bv_length] at this
        exact this
      have HO5 : Hid (Own8 (w4.setCells ob (16 * i) (bv 16 G1)) ob M (cbcTo W m iv P (i + 1))) := (HO4.out.stored (16 * i) 16 G1).congr HFin.out
      have HR5 : Hid (Row8 (w4.setCells ob (16 * i) (bv 16 G1)) ab 39 16 G1) := HR4.out.onlyB X5 (by omega)
      have CC5 : Hid (CiphAt (w4.setCells ob (16 * i) (bv 16 G1)) Cb m W) := CC4.out.onlyBe X5 (by omega)
      have HB5 : Hid (Below w.heap.size w (w4.setCells ob (16 * i) (bv 16 G1))) := HB4.out.trans (X5.toBelow hob HB4.out.size)
      generalize w4.setCells ob (16 * i) (bv 16 G1) = w5 at *
      clear X5 HO4 HR4 CC4 HB4 HFin
      have HRa : Hid (∀ (ra : Option Addr), (ra = some ⟨ob, 16 * i + 16, none⟩ ∨ L - 16 = 0) → (16 * (i + 1) < M → ra = some ⟨ob, 16 * (i + 1), none⟩)) := fun ra hra2 hlt2 => by
        rcases hra2 with h | h
        · rw [h, Nat.mul_add]
        · have := HL.out; omega
      go_wp2
      all_goals
        go_step3
        refine ⟨rfl, ⟨Cb, ob, C, ab, ⟨hob, hCo, hoa⟩, hMC, i + 1, _, _, _, _, _, _, _, _, _, _, _, _, _, _, _, _, _, _, _, _, _, _, _, _, _, _, _, _, _, _, _, _, _, _, _, _, _, _, _, _, _, _, _, _, _, _, rfl, HL.out, by omega, HRa.out _ ?_, ?_, HO5.out, ?_, CC5.out, HB5.out⟩, ?_⟩
        · first | exact .inl rfl | (right; omega)
        · omega
        · rw [HG1.out]; exact HR5.out
        · show _ < L; simp [lenOf]; omega
    · have HO2 : Hid (Own8 wr ob M (cbcO W m iv P)) := HO.out.congr (fun x hx => by unfold cbcTo; rw [if_pos (by omega)])
      obtain rfl : L = 0 := by omega
      clear HO HR CC hra hL LB LP LI LW
      go_wp2
      rw [jump_ret]
      exact bodyPost_ret (results_tmp2 Try.results11 _ _ _) rfl ⟨⟨ob, C, ⟨hob, hMC⟩, rfl, HO2.out⟩, HB.out⟩
  · intro hp
    have SAi : Hid ((Try.prog.info? 39).map (·.size) = some (bA 16 iv).size) := by rw [bA_size]; exact Try.sizeSt
    have OAi : Hid ((bA 16 iv).all (·.oneCell') = true) := bA_one _ _
    have TLi : Hid ((bA 16 iv).toList = bv 16 iv) := bA_toList _ _
    have BSi : Hid ((bA 16 iv).size = 16) := bA_size _ _
    generalize bA 16 iv = IA at *
    go_upto_region 5 with (first
      | (go_at_call 24; refine (MF.out _).mono ?_; rintro e w' ⟨rfl, rfl⟩)
      | (go_at_call 25; refine (NC.out _).mono ?_; rintro e w1 ⟨rfl, hb⟩)
      | (refine wpList_store_mid rfl 44 (.tmp 9) (.tmp 23) rfl _ 0 CA rfl rfl ?_ S2.out O2.out ?_))
    · rw [HSZ.out]; exact there_big w1 Z _ hZ
    · have R1 : ((w1.alloc (.cells Z 44)).setCells w1.heap.size 0 CA.toList).rangeAt w1.heap.size 0 CA.toList := World.rangeAt_setCells_same _ _ _ _ (by rw [hLen]; exact there_big w1 Z _ hZ)
      have CC : Hid (CiphAt ((w1.alloc (.cells Z 44)).setCells w1.heap.size 0 CA.toList) w1.heap.size m W) := fun k hk => by
        have := R1 k _ (hAt.out k hk)
        rwa [Nat.zero_add] at this
      have hsz := hb.size
      have B1 : Hid (Below w.heap.size w ((w1.alloc (.cells Z 44)).setCells w1.heap.size 0 CA.toList)) := below_setCells hsz _ _ _ (hb.alloc hsz _)
      have HC1 : Hid (Code8 ((w1.alloc (.cells Z 44)).setCells w1.heap.size 0 CA.toList) (some ⟨b, o, none⟩) n f) := HC.out.below B1.out
      clear R1 hb NC MF S2 O2 hLen hAt HSZ z0 hZ HC
      generalize (w1.alloc (.cells Z 44)).setCells w1.heap.size 0 CA.toList = wz at *
      generalize w1.heap.size = Cb at *
      go_wp2_with fail
      refine (PD.out _ HC1.out).mono ?_
      rintro e w2 ⟨⟨ob, C, ⟨hob, hMC⟩, rfl, ho⟩, hb2⟩
      have CC2 : Hid (CiphAt w2 Cb m W) := CC.out.below hb2
      have hCz := CC.out.lt
      have B2 : Hid (Below w.heap.size w w2) := B1.out.trans (hb2.mono B1.out.size)
      have HO2 : Hid (Own8 w2 ob M P) := ho
      have hob' : w.heap.size ≤ ob := Nat.le_trans B1.out.size hob
      clear hb2 CC B1 ho HC1 PD
      go_wp2_with fail
      refine (SO.out _).mono ?_
      rintro e w3 ⟨rfl, hb3⟩
      have CC3 : Hid (CiphAt w3 Cb m W) := CC2.out.below hb3
      have B3 : Hid (Below w.heap.size w w3) := B2.out.trans (hb3.mono B2.out.size)
      have HO3 : Hid (Own8 w3 ob M P) := HO2.out.below hb3
      have hoa := HO3.out.lt
      clear hb3 CC2 B2 HO2 SO
      have Z3 : Hid (Row8 (w3.alloc (.cells z16 39)) w3.heap.size 39 16 (fun _ => 0)) := Row8.z16At rfl _
      have HO4 : Hid (Own8 (w3.alloc (.cells z16 39)) ob M P) := HO3.out.alloc _
      have B4 : Hid (Below w.heap.size w (w3.alloc (.cells z16 39))) := B3.out.alloc B3.out.size _
      have CC4 : Hid (CiphAt (w3.alloc (.cells z16 39)) Cb m W) := CC3.out.below ((Below.refl _ _).alloc (Nat.le_refl _) _)
      have hw3 := B3.out.size
      clear CC3 HO3 B3
      unfold z16 at Z3 HO4 B4 CC4
      go_wp2_with (refine wpList_store_mid rfl 39 (.tmp 11) (.tmp 27) rfl w3.heap.size 0 IA rfl rfl (by rw [BSi.out]; exact Z3.out.there) SAi.out OAi.out ?_)
      rw [TLi.out]
      generalize w3.alloc (.cells #[.int .u8 0, .int .u8 0, .int .u8 0, .int .u8 0, .int .u8 0, .int .u8 0, .int .u8 0, .int .u8 0, .int .u8 0, .int .u8 0, .int .u8 0, .int .u8 0, .int .u8 0, .int .u8 0, .int .u8 0, .int .u8 0] 39) = w4 at *
      generalize w3.heap.size = ab at *
      have X5 : OnlyB ab w4 (w4.setCells ab 0 (bv 16 iv)) := onlyB_setCells _ _ _ (OnlyB.refl _ _)
      have HO5 : Hid (Own8 (w4.setCells ab 0 (bv 16 iv)) ob M P) := HO4.out.onlyB X5 (by omega)
      have HR5 : Hid (Row8 (w4.setCells ab 0 (bv 16 iv)) ab 39 16 iv) := Z3.out.stored _
      have CC5 : Hid (CiphAt (w4.setCells ab 0 (bv 16 iv)) Cb m W) := CC4.out.onlyBe X5 (by omega)
      have HB5 : Hid (Below w.heap.size w (w4.setCells ab 0 (bv 16 iv))) := B4.out.trans (X5.toBelow (by omega) B4.out.size)
      generalize w4.setCells ab 0 (bv 16 iv) = w5 at *
      go_step3
      rename_i hKx
      refine hKx _ _ (hp _ _ ⟨Cb, ob, C, ab, ⟨hob', Nat.lt_of_lt_of_le hCz hob, hoa⟩, hMC, 0, _, _, C, _, _, _, _, _, _, _, _, _, _, _, _, _, _, _, _, _, _, _, _, _, _, _, _, _, _, _, _, _, _, _, _, _, _, _, _, _, _, _, _, _, _, _, rfl, by omega, by omega, fun _ => rfl, by omega, HO5.out.congr (fun x hx => by unfold cbcTo; rw [if_neg (by omega)]), HR5.out, CC5.out, HB5.out⟩)
end Go.Proofs.Ytbhlgcenfanicaa
