/-
  The contract of impl.CbcEncrypt.
-/
import Derived.Test.YtbhlgcenfanicaaModes
import Derived.Test.YtbhlgcenfanicaaStateOf2
import Derived.Test.YtbhlgcenfanicaaModelK
import Derived.Lib.AppendStr
import Derived.Laws.IdiomStrings
import Derived.Test.YtbhlgcenfanicaaDecrypt
import Derived.Test.YtbhlgcenfanicaaDSpec
import Derived.Test.YtbhlgcenfanicaaDImpl
import Derived.Test.YtbhlgcenfanicaaLawEnc
import Derived.Test.YtbhlgcenfanicaaSlices
namespace Go.Proofs.Ytbhlgcenfanicaa
open Go.ChangeShapes Go.WideShapes Go.ChangeAt Go.RowKit
theorem Own8.stored {w : World} {b M : Nat} {F : Nat → Nat} (h : Own8 w b M F) (o n : Nat) (g : Nat → Nat) : Own8 (w.setCells b o (bv n g)) b M (fun x => if o ≤ x ∧ x < o + n then g (x - o) else F x) := by
  obtain ⟨m, G, hm, hr, hG⟩ := h
  refine ⟨m, _, hm, rowIs_setCells (bv n g) o w G hr, fun i hi => ?_⟩
  rw [bv_length]
  show _ = Value.int .u8 ((if o ≤ i ∧ i < o + n then g (i - o) else F i : Nat) : Int)
  by_cases e : o ≤ i ∧ i < o + n
  · rw [if_pos e, if_pos e, List.getD_eq_getElem?_getD, bv_at (by omega)]; rfl
  · rw [if_neg e, if_neg e]; exact hG i hi
theorem onlyB_setCells {b : Nat} {a : World} (vs : List Value) : ∀ (o : Nat) (w : World), OnlyB b a w → OnlyB b a (w.setCells b o vs) := by
  induction vs with
  | nil => intro o w h; exact h
  | cons v vs ih => intro o w h; exact ih (o + 1) _ (h.setCell o v)
theorem CiphAt.onlyBe {w w' : World} {C m b : Nat} {K : Nat → Nat} (h : CiphAt w C m K) (ho : OnlyB b w w') (hne : C ≠ b) : CiphAt w' C m K := fun k hk => by
  rw [World.cell?_of_block (w := w) (ho.block C h.lt hne)]; exact h k hk
theorem Row8.onlyB {w w' : World} {b c n : Nat} {t : TypeId} {f : Nat → Nat} (h : Row8 w b t n f) (ho : OnlyB c w w') (hne : b ≠ c) : Row8 w' b t n f := World.rowIs.of_block h (ho.block b h.lt hne)
theorem bA_same {f g : Nat → Nat} (h : Gf.Same f g) : bA 16 f = bA 16 g := bA_congr h
theorem implCbc_no (k s : ByteArray) (a : Option Addr) (n c : Nat) (code : Int) (hc : code ≠ 0) (hf : ∀ w : World, Calls Try.prog 24 #[.string k, .string s, .int .i64 16, .int .i64 (n : Int), .int .i64 65520] w fun e w' => e = .returned (.int .i64 code) ∧ w = w') (w : World) :
    Calls Try.prog 11 #[.string k, .string s, .slice a n c] w fun e w' => e = .returned (.tuple #[.slice none 0 0, .int .i64 code]) ∧ w = w' := by
  have HF : Hid (∀ w : World, Calls Try.prog 24 #[.string k, .string s, .int .i64 16, .int .i64 (n : Int), .int .i64 65520] w fun e w' => e = .returned (.int .i64 code) ∧ w = w') := hf
  have e1 : (code != 0) = true := by rw [bne_iff_ne]; exact hc
  clear hf
  go_enter Try.func11, Try.ntmps11
  go_wp2
  go_step3
  go_wp2_with (go_at_call 24; refine (HF.out _).mono ?_; rintro e w' ⟨rfl, rfl⟩)
  rw [Exit.noGoto_ret]
  go_ret2
  exact ⟨rfl, rfl⟩
/-- What holds where a block more begins: i blocks are done. -/
def CbcJ (w0 : World) (Cb m ob M C ab : Nat) (K iv P : Nat → Nat) (a' : Act) (w' : World) : Prop := ∃ (i : Nat) (ra : Option Addr) (L cr : Nat) (u0 u1 u2 u3 u4 u5 u6 u7 u8 u13 u14 u15 u16 u17 u18 u19 u20 u21 u22 u23 u24 u25 u26 u27 u28 u29 u30 u31 u32 u33 u34 u35 u36 u37 u38 u39 u40 u41 u42 u43 u44 u45 u46 : Value), a' = { tmps := #[u0, u1, u2, u3, u4, u5, u6, u7, u8, .pointer (some ⟨Cb, 0, none⟩), .slice (some ⟨ob, 0, none⟩) M C, .pointer (some ⟨ab, 0, none⟩), .slice ra L cr, u13, u14, u15, u16, u17, u18, u19, u20, u21, u22, u23, u24, u25, u26, u27, u28, u29, u30, u31, u32, u33, u34, u35, u36, u37, u38, u39, u40, u41, u42, u43, u44, u45, u46], defers := [] } ∧
  L = M - 16 * i ∧ 16 * i ≤ M ∧ (16 * i < M → ra = some ⟨ob, 16 * i, none⟩) ∧ L ≤ cr ∧ Own8 w' ob M (cbcTo K m iv P i) ∧ Row8 w' ab 39 16 (cbcB K m iv P i) ∧ CiphAt w' Cb m K ∧ Below w0.heap.size w0 w'
set_option maxRecDepth 100000 in
set_option maxHeartbeats 4000000 in
theorem implCbc_yes (k s : ByteArray) (kn b o n c : Nat) (f : Nat → Nat) (hkn : kn = 4 ∨ kn = 8) (hk : k.size = kn * 4) (hs : s.size = 16) (hn : n ≤ 65520) (hf : ∀ i, f i < 256) (w : World) (h : Code8 w (some ⟨b, o, none⟩) n f) :
    Calls Try.prog 11 #[.string k, .string s, .slice (some ⟨b, o, none⟩) n c] w fun e w' => RetB2 w w' e (n + fillN n) (cbcO (Gf.ws (strB k) kn (3 * kn + 28)) (kn + 6) (strB s) (padF n f)) (.int .i64 0) ∧ Below w.heap.size w w' := by
  have MF : Hid (∀ w : World, Calls Try.prog 24 #[.string k, .string s, .int .i64 16, .int .i64 (n : Int), .int .i64 65520] w fun e w' => e = .returned (.int .i64 0) ∧ w = w') := mf_ok k s 16 n 65520 (by omega) (by omega) (by omega) (by omega)
  have NC : Hid (∀ w : World, Calls Try.prog 25 #[.string k] w fun e w' => e = .returned (.agg (cA (kn + 6) (Gf.ws (strB k) kn (3 * kn + 28)))) ∧ Below w.heap.size w w') := newCipher_any k kn hkn hk
  have LW : Hid (∀ j, Gf.ws (strB k) kn (3 * kn + 28) j < 256) := Gf.ws_lt (strB_lt k) _
  generalize Gf.ws (strB k) kn (3 * kn + 28) = W at *
  obtain ⟨m, hm⟩ : ∃ m, m = kn + 6 := ⟨_, rfl⟩
  have hm1 : 1 ≤ m := by omega
  have hm2 : m ≤ 14 := by omega
  rw [← hm] at NC ⊢
  have PD : Hid (∀ w : World, Code8 w (some ⟨b, o, none⟩) n f → Calls Try.prog 32 #[.slice (some ⟨b, o, none⟩) n c] w fun e w' => RetB w w' e (n + fillN n) (padF n f) ∧ Below w.heap.size w w') := fun w h => padded_any b o n c f (by omega) w h
  have SO : Hid (∀ w : World, Calls Try.prog 33 #[.string s] w fun e w' => e = .returned (.agg (bA 16 (strB s))) ∧ Below w.heap.size w w') := stateOf_le s (by omega)
  have LI : Hid (∀ j, strB s j < 256) := strB_lt s
  have LP : Hid (∀ j, padF n f j < 256) := fun j => padF_lt hf j
  have hMm : (n + fillN n) % 16 = 0 := padN_mod n
  have hM2 : n + fillN n ≤ 65536 := by have := (fillN_bd n).2; omega
  generalize padF n f = P at *
  generalize n + fillN n = M at *
  generalize strB s = iv at *
  obtain ⟨Z, z0, hZ, -⟩ := Try.zeroC
  have S2 : Hid ((Try.prog.info? 44).map (·.size) = some (cA m W).size) := by rw [cA_size]; exact Try.sizeC
  have O2 : Hid ((cA m W).all (·.oneCell') = true) := cA_one _ _
  have hLen : (cA m W).toList.length = 769 := cA_len _ _
  have hAt : Hid (∀ k, k < 769 → (cA m W).toList[k]? = some (cf m W k)) := fun k hk => by
    have := cA_at (n := m) (K := W) hk
    rwa [← Array.getElem?_toList] at this
  have HSZ : Hid ((cA m W).size = 769) := cA_size _ _
  generalize cA m W = CA at *
  have HC : Hid (Code8 w (some ⟨b, o, none⟩) n f) := h
  have LB : Hid (∀ i j, cbcB W m iv P i j < 256) := fun i j => cbcB_lt LW.out LI.out LP.out i j
  clear h hf hkn hk hs hm
  go_enter Try.func11, Try.ntmps11
  go_wp2
  refine wp_scope_label 0 (fun a' w' => ∃ Cb ob C ab, (w.heap.size ≤ ob ∧ Cb < ob ∧ ob < ab) ∧ M ≤ C ∧ CbcJ w Cb m ob M C ab W iv P a' w') (fun a' _ => lenOf (a'.tmps.getD 12 undef)) rfl ?_ ?_
  · rintro a' wr ⟨Cb, ob, C, ab, ⟨hob, hCo, hoa⟩, hMC, i, ra, L, cr, u0, u1, u2, u3, u4, u5, u6, u7, u8, u13, u14, u15, u16, u17, u18, u19, u20, u21, u22, u23, u24, u25, u26, u27, u28, u29, u30, u31, u32, u33, u34, u35, u36, u37, u38, u39, u40, u41, u42, u43, u44, u45, u46, rfl, hL, hi, hra, hcr, ho, hr, hC, hB⟩
    have HO : Hid (Own8 wr ob M (cbcTo W m iv P i)) := ho
    have HR : Hid (Row8 wr ab 39 16 (cbcB W m iv P i)) := hr
    have CC : Hid (CiphAt wr Cb m W) := hC
    have HB : Hid (Below w.heap.size w wr) := hB
    clear ho hr hC hB
    clear SO PD HC NC MF S2 O2 hLen hAt HSZ z0 hZ
    by_cases hlt : 16 * i < M
    · have era := hra hlt
      subst era
      have hMi : 16 * i + 16 ≤ M := by omega
      have eL : ((L : Int) == 0) = false := by rw [beq_eq_false_iff_ne]; omega
      have xc : (16 : Int) ≤ (cr : Int) := by omega
      have xL : (16 : Int) ≤ (L : Int) := by omega
      have LF : Hid (∀ x, cbcTo W m iv P i x < 256) := fun x => by
        show cbcTo W m iv P i x < 256
        unfold cbcTo
        split
        · exact LB.out _ _
        · exact LP.out x
      obtain ⟨F2, hF2⟩ : ∃ F2 : Nat → Nat, F2 = fun x => if 16 * i ≤ x ∧ x < 16 * i + 16 then cbcTo W m iv P i x ^^^ cbcB W m iv P i (x - 16 * i) else cbcTo W m iv P i x := ⟨_, rfl⟩
      have AI : Hid (∀ w : World, Own8 w ob M (cbcTo W m iv P i) → Calls Try.prog 27 #[.slice (some ⟨ob, 16 * i, none⟩) 16 16, .agg (bA 16 (cbcB W m iv P i))] w fun e w' => e = .returned (.tuple #[]) ∧ Own8 w' ob M F2 ∧ OnlyB ob w w') := fun w h => by
        rw [hF2]
        exact addInto_any ob (16 * i) 16 16 M _ _ LF.out (fun j _ => LB.out i j) (Nat.le_refl _) hMi w h
      obtain ⟨X, hX⟩ : ∃ X : Nat → Nat, X = fun j => cbcB W m iv P i j ^^^ P (16 * i + j) := ⟨_, rfl⟩
      have hlX : ∀ j, X j < 256 := fun j => by rw [hX]; exact Gf.xor_lt (LB.out i j) (LP.out _)
      have hXS : ∀ j, j < 16 → F2 (16 * i + j) = X j := fun j hj => by
        rw [hF2, hX]
        show (if 16 * i ≤ 16 * i + j ∧ 16 * i + j < 16 * i + 16 then cbcTo W m iv P i (16 * i + j) ^^^ cbcB W m iv P i (16 * i + j - 16 * i) else cbcTo W m iv P i (16 * i + j)) = cbcB W m iv P i j ^^^ P (16 * i + j)
        rw [if_pos (by omega), show 16 * i + j - 16 * i = j from by omega, Nat.xor_comm]
        unfold cbcTo
        rw [if_neg (by omega)]
      obtain ⟨S, hS⟩ : ∃ S, S = kstr (fun j => F2 (16 * i + j)) 0 16 := ⟨_, rfl⟩
      have hSS : Gf.Same (strB S) X := fun j hj => by
        rw [hS, strB_kstr _ 0 16 j (by rw [Nat.zero_add, hXS j hj]; exact hlX j) hj, Nat.zero_add, hXS j hj]
      have SO2 : Hid (∀ w : World, Calls Try.prog 33 #[.string S] w fun e w' => e = .returned (.agg (bA 16 X)) ∧ Below w.heap.size w w') := fun w => by
        have := stateOf_le S (by rw [hS, kstr_size]; exact Nat.le_refl _) w
        rwa [bA_same hSS] at this
      have EX : Hid (Gf.enc W m X = cbcB W m iv P (i + 1)) := by show Gf.enc W m X = _; rw [hX]; rfl
      have EN : Hid (∀ w : World, CiphAt w Cb m W → Calls Try.prog 28 #[.pointer (some ⟨Cb, 0, none⟩), .agg (bA 16 X)] w fun e w' => e = .returned (.agg (bA 16 (cbcB W m iv P (i + 1)))) ∧ Below w.heap.size w w') := fun w h => by
        have := encrypt_any Cb m W X (fun j _ => hlX j) LW.out hm1 hm2 w h
        rwa [EX.out] at this
      have HFin : Hid (∀ x, x < M → (if 16 * i ≤ x ∧ x < 16 * i + 16 then cbcB W m iv P (i + 1) (x - 16 * i) else F2 x) = cbcTo W m iv P (i + 1) x) := fun x hx => by
        unfold cbcTo
        by_cases e : 16 * i ≤ x ∧ x < 16 * i + 16
        · rw [if_pos e, if_pos (by omega)]
          have := cbcO_at W m iv P i (x - 16 * i) (by omega)
          rw [show 16 * i + (x - 16 * i) = x from by omega] at this
          exact this.symm
        · rw [if_neg e, hF2]
          show (if 16 * i ≤ x ∧ x < 16 * i + 16 then _ else cbcTo W m iv P i x) = _
          rw [if_neg e]
          unfold cbcTo
          by_cases e2 : x < 16 * i
          · rw [if_pos e2, if_pos (by omega)]
          · rw [if_neg e2, if_neg (by omega)]
      have HS : Hid (S = kstr (fun j => F2 (16 * i + j)) 0 16) := hS
      have HL : Hid (L - 16 = M - 16 * (i + 1)) := by show L - 16 = _; omega
      generalize hG1 : cbcB W m iv P (i + 1) = G1 at *
      have HG1 : Hid (cbcB W m iv P (i + 1) = G1) := hG1
      clear hG1
      generalize cbcB W m iv P i = G0 at *
      clear hF2 hX hlX hXS hS hSS EX hra hL LF LB LP LI LW
      have eA0 : (bv 16 G0).toArray = bA 16 G0 := rfl
      have SA : Hid ((Try.prog.info? 39).map (·.size) = some (bA 16 G1).size) := by rw [bA_size]; exact Try.sizeSt
      have OA : Hid ((bA 16 G1).all (·.oneCell') = true) := bA_one _ _
      have TL : Hid ((bA 16 G1).toList = bv 16 G1) := bA_toList _ _
      have BS : Hid ((bA 16 G1).size = 16) := bA_size _ _
      generalize bA 16 G1 = GA at *
      go_wp2_with (refine wpList_load_mid rfl 39 (.tmp 11) rfl ab 0 rfl (bv 16 G0) _ HR.out.range Try.underlying39 rfl (by rw [bv_length]; exact Try.sizeSt) ?_)
      clear eA0
      refine (AI.out _ HO.out).mono ?_
      rintro e w1 ⟨rfl, ho1, hb1⟩
      have HO1 : Hid (Own8 w1 ob M F2) := ho1
      have HR1 : Hid (Row8 w1 ab 39 16 G0) := HR.out.onlyB hb1 (by omega)
      have CC1 : Hid (CiphAt w1 Cb m W) := CC.out.onlyBe hb1 (by omega)
      have HB1 : Hid (Below w.heap.size w w1) := HB.out.trans (hb1.toBelow hob HB.out.size)
      have hcv : (convert 22 9 (.slice (some ⟨ob, 16 * i, none⟩) 16 16)).run Try.prog w1 = .ok (.string S) w1 := by
        rw [HS.out]
        exact kstr_of_code (code8_of (fun j hj => ho1.cell (by omega)))
      clear ho1 hb1 HO HR CC HB AI HS
      generalize bA 16 G0 = GA0 at *
      generalize bA 16 X = XA at *
      go_wp2_with fail
      refine (SO2.out _).mono ?_
      rintro e w2 ⟨rfl, hb2⟩
      have HO2 : Hid (Own8 w2 ob M F2) := HO1.out.below hb2
      have HR2 : Hid (Row8 w2 ab 39 16 G0) := HR1.out.below hb2
      have CC2 : Hid (CiphAt w2 Cb m W) := CC1.out.below hb2
      have HB2 : Hid (Below w.heap.size w w2) := HB1.out.trans (hb2.mono HB1.out.size)
      clear hb2 HO1 HR1 CC1 HB1 SO2 hcv
      go_wp2_with fail
      refine (EN.out _ CC2.out).mono ?_
      rintro e w3 ⟨rfl, hb3⟩
      have HO3 : Hid (Own8 w3 ob M F2) := HO2.out.below hb3
      have HR3 : Hid (Row8 w3 ab 39 16 G0) := HR2.out.below hb3
      have CC3 : Hid (CiphAt w3 Cb m W) := CC2.out.below hb3
      have HB3 : Hid (Below w.heap.size w w3) := HB2.out.trans (hb3.mono HB2.out.size)
      clear hb3 HO2 HR2 CC2 HB2 EN
      have X3 : OnlyB ab w3 (w3.setCells ab 0 (bv 16 G1)) := onlyB_setCells _ _ _ (OnlyB.refl _ _)
      have HO4 : Hid (Own8 (w3.setCells ab 0 (bv 16 G1)) ob M F2) := HO3.out.onlyB X3 (by omega)
      have HR4 : Hid (Row8 (w3.setCells ab 0 (bv 16 G1)) ab 39 16 G1) := HR3.out.stored _
      have CC4 : Hid (CiphAt (w3.setCells ab 0 (bv 16 G1)) Cb m W) := CC3.out.onlyBe X3 (by omega)
      have HB4 : Hid (Below w.heap.size w (w3.setCells ab 0 (bv 16 G1))) := HB3.out.trans (X3.toBelow (by omega) HB3.out.size)
      go_upto_region 12 with (refine wpList_store_mid rfl 39 (.tmp 11) (.tmp 41) rfl ab 0 GA rfl rfl (by rw [BS.out]; exact HR3.out.there) SA.out OA.out ?_)
      rw [TL.out]
      clear HO3 HR3 CC3 HB3 X3 SA OA TL BS
      generalize w3.setCells ab 0 (bv 16 G1) = w4 at *
      have X5 : OnlyB ob w4 (w4.setCells ob (16 * i) (bv 16 G1)) := onlyB_setCells _ _ _ (OnlyB.refl _ _)
      have CP : ∀ ty, (Builtin.copy_ #[22, 22] ty #[.slice (some ⟨ob, 16 * i, none⟩) 16 16, .slice (some ⟨ab, 0, none⟩) 16 16]).run Try.prog w4 = .ok (.int .i64 16) (w4.setCells ob (16 * i) (bv 16 G1)) := fun ty => by
        have := run_copy_cells (P := Try.prog) w4 22 22 ty 5 ob (16 * i) 16 16 ⟨ab, 0, none⟩ 16 16 (bv 16 G1) Try.underlying22 size8 (by rw [bv_length]; rfl) (bv_news (code8_of (fun j hj => by rw [Nat.zero_add]; exact HR4.out.cell hj))) (fun j hj => by rw [bv_length] at hj; rw [HO4.out.cell (by omega)]; rfl) (fun j hj => HO4.out.frozen _) (bv_one _ _)
        rw [bv_length] at this
        exact this
      have HO5 : Hid (Own8 (w4.setCells ob (16 * i) (bv 16 G1)) ob M (cbcTo W m iv P (i + 1))) := (HO4.out.stored (16 * i) 16 G1).congr HFin.out
      have HR5 : Hid (Row8 (w4.setCells ob (16 * i) (bv 16 G1)) ab 39 16 G1) := HR4.out.onlyB X5 (by omega)
      have CC5 : Hid (CiphAt (w4.setCells ob (16 * i) (bv 16 G1)) Cb m W) := CC4.out.onlyBe X5 (by omega)
      have HB5 : Hid (Below w.heap.size w (w4.setCells ob (16 * i) (bv 16 G1))) := HB4.out.trans (X5.toBelow hob HB4.out.size)
      generalize w4.setCells ob (16 * i) (bv 16 G1) = w5 at *
      clear X5 HO4 HR4 CC4 HB4 HFin
      have HRa : Hid (∀ (ra : Option Addr), (ra = some ⟨ob, 16 * i + 16, none⟩ ∨ L - 16 = 0) → (16 * (i + 1) < M → ra = some ⟨ob, 16 * (i + 1), none⟩)) := fun ra hra2 hlt2 => by
        rcases hra2 with h | h
        · rw [h, Nat.mul_add]
        · have := HL.out; omega
      go_wp2
      all_goals
        go_step3
        refine ⟨rfl, ⟨Cb, ob, C, ab, ⟨hob, hCo, hoa⟩, hMC, i + 1, _, _, _, _, _, _, _, _, _, _, _, _, _, _, _, _, _, _, _, _, _, _, _, _, _, _, _, _, _, _, _, _, _, _, _, _, _, _, _, _, _, _, _, _, _, _, rfl, HL.out, by omega, HRa.out _ ?_, ?_, HO5.out, ?_, CC5.out, HB5.out⟩, ?_⟩
        · first | exact .inl rfl | (right; omega)
        · omega
        · rw [HG1.out]; exact HR5.out
        · show _ < L; simp [lenOf]; omega
    · have HO2 : Hid (Own8 wr ob M (cbcO W m iv P)) := HO.out.congr (fun x hx => by unfold cbcTo; rw [if_pos (by omega)])
      obtain rfl : L = 0 := by omega
      clear HO HR CC hra hL LB LP LI LW
      go_wp2
      rw [jump_ret]
      exact bodyPost_ret (results_tmp2 Try.results11 _ _ _) rfl ⟨⟨ob, C, ⟨hob, hMC⟩, rfl, HO2.out⟩, HB.out⟩
  · intro hp
    have SAi : Hid ((Try.prog.info? 39).map (·.size) = some (bA 16 iv).size) := by rw [bA_size]; exact Try.sizeSt
    have OAi : Hid ((bA 16 iv).all (·.oneCell') = true) := bA_one _ _
    have TLi : Hid ((bA 16 iv).toList = bv 16 iv) := bA_toList _ _
    have BSi : Hid ((bA 16 iv).size = 16) := bA_size _ _
    generalize bA 16 iv = IA at *
    go_upto_region 5 with (first
      | (go_at_call 24; refine (MF.out _).mono ?_; rintro e w' ⟨rfl, rfl⟩)
      | (go_at_call 25; refine (NC.out _).mono ?_; rintro e w1 ⟨rfl, hb⟩)
      | (refine wpList_store_mid rfl 44 (.tmp 9) (.tmp 23) rfl _ 0 CA rfl rfl ?_ S2.out O2.out ?_))
    · rw [HSZ.out]; exact there_big w1 Z _ hZ
    · have R1 : ((w1.alloc (.cells Z 44)).setCells w1.heap.size 0 CA.toList).rangeAt w1.heap.size 0 CA.toList := World.rangeAt_setCells_same _ _ _ _ (by rw [hLen]; exact there_big w1 Z _ hZ)
      have CC : Hid (CiphAt ((w1.alloc (.cells Z 44)).setCells w1.heap.size 0 CA.toList) w1.heap.size m W) := fun k hk => by
        have := R1 k _ (hAt.out k hk)
        rwa [Nat.zero_add] at this
      have hsz := hb.size
      have B1 : Hid (Below w.heap.size w ((w1.alloc (.cells Z 44)).setCells w1.heap.size 0 CA.toList)) := below_setCells hsz _ _ _ (hb.alloc hsz _)
      have HC1 : Hid (Code8 ((w1.alloc (.cells Z 44)).setCells w1.heap.size 0 CA.toList) (some ⟨b, o, none⟩) n f) := HC.out.below B1.out
      clear R1 hb NC MF S2 O2 hLen hAt HSZ z0 hZ HC
      generalize (w1.alloc (.cells Z 44)).setCells w1.heap.size 0 CA.toList = wz at *
      generalize w1.heap.size = Cb at *
      go_wp2_with fail
      refine (PD.out _ HC1.out).mono ?_
      rintro e w2 ⟨⟨ob, C, ⟨hob, hMC⟩, rfl, ho⟩, hb2⟩
      have CC2 : Hid (CiphAt w2 Cb m W) := CC.out.below hb2
      have hCz := CC.out.lt
      have B2 : Hid (Below w.heap.size w w2) := B1.out.trans (hb2.mono B1.out.size)
      have HO2 : Hid (Own8 w2 ob M P) := ho
      have hob' : w.heap.size ≤ ob := Nat.le_trans B1.out.size hob
      clear hb2 CC B1 ho HC1 PD
      go_wp2_with fail
      refine (SO.out _).mono ?_
      rintro e w3 ⟨rfl, hb3⟩
      have CC3 : Hid (CiphAt w3 Cb m W) := CC2.out.below hb3
      have B3 : Hid (Below w.heap.size w w3) := B2.out.trans (hb3.mono B2.out.size)
      have HO3 : Hid (Own8 w3 ob M P) := HO2.out.below hb3
      have hoa := HO3.out.lt
      clear hb3 CC2 B2 HO2 SO
      have Z3 : Hid (Row8 (w3.alloc (.cells z16 39)) w3.heap.size 39 16 (fun _ => 0)) := Row8.z16At rfl _
      have HO4 : Hid (Own8 (w3.alloc (.cells z16 39)) ob M P) := HO3.out.alloc _
      have B4 : Hid (Below w.heap.size w (w3.alloc (.cells z16 39))) := B3.out.alloc B3.out.size _
      have CC4 : Hid (CiphAt (w3.alloc (.cells z16 39)) Cb m W) := CC3.out.below ((Below.refl _ _).alloc (Nat.le_refl _) _)
      have hw3 := B3.out.size
      clear CC3 HO3 B3
      unfold z16 at Z3 HO4 B4 CC4
      go_wp2_with (refine wpList_store_mid rfl 39 (.tmp 11) (.tmp 27) rfl w3.heap.size 0 IA rfl rfl (by rw [BSi.out]; exact Z3.out.there) SAi.out OAi.out ?_)
      rw [TLi.out]
      generalize w3.alloc (.cells #[.int .u8 0, .int .u8 0, .int .u8 0, .int .u8 0, .int .u8 0, .int .u8 0, .int .u8 0, .int .u8 0, .int .u8 0, .int .u8 0, .int .u8 0, .int .u8 0, .int .u8 0, .int .u8 0, .int .u8 0, .int .u8 0] 39) = w4 at *
      generalize w3.heap.size = ab at *
      have X5 : OnlyB ab w4 (w4.setCells ab 0 (bv 16 iv)) := onlyB_setCells _ _ _ (OnlyB.refl _ _)
      have HO5 : Hid (Own8 (w4.setCells ab 0 (bv 16 iv)) ob M P) := HO4.out.onlyB X5 (by omega)
      have HR5 : Hid (Row8 (w4.setCells ab 0 (bv 16 iv)) ab 39 16 iv) := Z3.out.stored _
      have CC5 : Hid (CiphAt (w4.setCells ab 0 (bv 16 iv)) Cb m W) := CC4.out.onlyBe X5 (by omega)
      have HB5 : Hid (Below w.heap.size w (w4.setCells ab 0 (bv 16 iv))) := B4.out.trans (X5.toBelow (by omega) B4.out.size)
      generalize w4.setCells ab 0 (bv 16 iv) = w5 at *
      go_step3
      rename_i hKx
      refine hKx _ _ (hp _ _ ⟨Cb, ob, C, ab, ⟨hob', Nat.lt_of_lt_of_le hCz hob, hoa⟩, hMC, 0, _, _, C, _, _, _, _, _, _, _, _, _, _, _, _, _, _, _, _, _, _, _, _, _, _, _, _, _, _, _, _, _, _, _, _, _, _, _, _, _, _, _, _, _, _, _, rfl, by omega, by omega, fun _ => rfl, by omega, HO5.out.congr (fun x hx => by unfold cbcTo; rw [if_neg (by omega)]), HR5.out, CC5.out, HB5.out⟩)
end Go.Proofs.Ytbhlgcenfanicaa

/-
  The model's chains: l02Both, l02CbcEncrypt, CbcEncrypt.
-/
namespace Go.Proofs.Ytbhlgcenfanicaa
open Go.ChangeShapes Go.WideShapes Go.ChangeAt Go.RowKit
/-- n bytes from block b's head on, that may be written. -/
def WB (w : World) (b n : Nat) (f : Nat → Nat) : Prop := ∀ r, r < n → w.cell? ⟨b, r, none⟩ = some (.int .u8 (f r : Nat)) ∧ w.frozen? ⟨b, r, none⟩ = false
theorem WB.set {w : World} {b n : Nat} {f : Nat → Nat} (h : WB w b n f) (i v : Nat) : WB (w.setCell ⟨b, i, none⟩ (.int .u8 (v : Nat))) b n (fun r => if r = i then v else f r) := fun r hr => by
  have hr' := h r hr
  refine ⟨?_, by rw [World.frozen?_setCell]; exact hr'.2⟩
  by_cases e : r = i
  · subst e
    simp only [if_true]
    exact World.cell?_setCell_same _ _ _ hr'.1
  · simp only [if_neg e]
    rw [← hr'.1]
    exact World.cell?_setCell_other _ _ _ _ (by intro h; cases h; exact e rfl)
theorem WB.congr {w : World} {b n : Nat} {f g : Nat → Nat} (h : WB w b n f) (e : ∀ r, r < n → f r = g r) : WB w b n g := fun r hr => by rw [← e r hr]; exact h r hr
theorem WB.code {w : World} {b n : Nat} {f : Nat → Nat} (h : WB w b n f) : Code8 w (some ⟨b, 0, none⟩) n f := code8_of (fun i hi => by rw [Nat.zero_add]; exact (h i hi).1)
/-- A text as bytes of its own. -/
theorem bytesOf (s : ByteArray) (w : World) : ∃ wz gc, (convert 9 22 (.string s)).run Try.prog w = .ok (.slice (some ⟨w.heap.size, 0, none⟩) s.size gc) wz ∧ WB wz w.heap.size s.size (strB s) ∧ Below w.heap.size w wz ∧ s.size ≤ gc := by
  refine ⟨_, _, run_bytes_of_string w 9 22 5 s Try.underlying9 Try.underlying22 Try.underlying5, fun r hr => ?_, (Below.refl _ _).drew.alloc (Nat.le_refl _) _, grownCap_ge _ _ _ _⟩
  have hd : r < s.data.size := hr
  have hrow := bytesRow_at s (grownCap w s.size 0 5) r hd
  have hlt : r < (bytesRow s (grownCap w s.size 0 5)).size := by
    rcases Nat.lt_or_ge r (bytesRow s (grownCap w s.size 0 5)).size with h | h
    · exact h
    · rw [Array.getElem?_eq_none h] at hrow; cases hrow
  refine ⟨?_, ?_⟩
  · have e := World.cell?_alloc_mark w.drew (bytesRow s (grownCap w s.size 0 5)) 5 ((bytesRow s (grownCap w s.size 0 5)).size, (bytesRow s (grownCap w s.size 0 5)).size + 1) r
    refine e.trans ?_
    rw [hrow]
    simp [strB, hr, ByteArray.getElem_eq_getElem_data]
  · show (w.drew.alloc (.cells (bytesRow s (grownCap w s.size 0 5)) 5 ((bytesRow s (grownCap w s.size 0 5)).size, (bytesRow s (grownCap w s.size 0 5)).size + 1))).frozen? ⟨w.drew.heap.size, r, none⟩ = false
    rw [World.frozen?_alloc_mark]
    simp
    intro h
    omega
set_option maxRecDepth 100000 in
set_option maxHeartbeats 1000000 in
/-- spec.l02Both: a text of sixteen bytes, and sixteen bytes, summed. -/
theorem l02Both_any (s : ByteArray) (hs : s.size = 16) (b o c : Nat) (f : Nat → Nat) (hf : ∀ i, i < 16 → f i < 256) (w : World) (h : Code8 w (some ⟨b, o, none⟩) 16 f) :
    Calls Try.prog 43 #[.string s, .slice (some ⟨b, o, none⟩) 16 c] w fun e w' => e = .returned (.string (kstr (fun j => strB s j ^^^ f j) 0 16)) ∧ Below w.heap.size w w' := by
  obtain ⟨wz, gc, hcv, hWB, hBz, hgc⟩ := bytesOf s w
  rw [hs] at hcv hWB
  have hb : b < w.heap.size := h.lt _ (by omega) rfl
  have HC : Hid (Code8 w (some ⟨b, o, none⟩) 16 f) := h
  have HW : Hid (WB wz w.heap.size 16 (strB s)) := hWB
  have HBz : Hid (Below w.heap.size w wz) := hBz
  have HF : Hid (∀ i, i < 16 → f i < 256) := hf
  have LS : Hid (∀ j, strB s j < 256) := strB_lt s
  obtain ⟨A, hA⟩ : ∃ A, A = strB s := ⟨_, rfl⟩
  rw [← hA] at HW LS ⊢
  clear h hWB hBz hf hs hA hgc
  go_enter Try.func43, Try.ntmps43
  go_wp2
  go_loopw [6] (fun i wr => ∃ k : Nat, k ≤ 16 ∧ i = .int .i64 k ∧ WB wr w.heap.size 16 (fun j => if j < k then A j ^^^ f j else A j) ∧ Below w.heap.size w wr) (fun i _ => 16 - (intOf i).toNat)
  case atStart => exact ⟨0, by omega, rfl, HW.out.congr (fun j hj => by rw [if_neg (by omega)]), HBz.out⟩
  case round =>
    clear HW HBz hcv
    obtain ⟨k, hk, rfl, hw, hb2⟩ := hrel
    have HW : Hid (WB wr w.heap.size 16 (fun j => if j < k then A j ^^^ f j else A j)) := hw
    have HB : Hid (Below w.heap.size w wr) := hb2
    by_cases hlt : k < 16
    · have c1 := (hw k hlt).1
      simp only [Nat.lt_irrefl, if_false] at c1
      have f1 := (hw k hlt).2
      have c2 : wr.cell? ⟨b, o + k, none⟩ = some (.int .u8 (f k : Nat)) := by rw [hb2.cell (p := ⟨b, o + k, none⟩) hb]; exact HC.out.at hlt
      have ex : bits .xor .u8 (A k : Int) (f k : Int) = ((A k ^^^ f k : Nat) : Int) := u8_xor_nat _ _ (LS.out k) (HF.out k hlt)
      have x0 : (0 : Int) ≤ (k : Int) := by omega
      have x1 : (k : Int) < 16 := by omega
      have HV : Hid (∀ j, j < 16 → (if j = k then A k ^^^ f k else if j < k then A j ^^^ f j else A j) = if j < k + 1 then A j ^^^ f j else A j) := fun j hj => by
        by_cases e : j = k
        · subst e; rw [if_pos rfl, if_pos (by omega)]
        · rw [if_neg e]
          by_cases e2 : j < k
          · rw [if_pos e2, if_pos (by omega)]
          · rw [if_neg e2, if_neg (by omega)]
      have la := LS.out k
      have lf := HF.out k hlt
      obtain ⟨V, hV⟩ : ∃ V, V = A k ^^^ f k := ⟨_, rfl⟩
      rw [← hV] at ex HV
      clear hV hw hb2
      generalize A k = A1 at *
      generalize f k = A2 at *
      go_wp2_with fail
      go_region
      go_wp2
      go_roundw
      case rel =>
        refine ⟨k + 1, by omega, by go_num, (HW.out.set k V).congr HV.out, ?_⟩
        exact (HB.out.setCell (by exact Nat.le_refl _) _).drew
      case measure => simp [intOf]; omega
    · have hcv : (convert 22 9 (.slice (some ⟨w.heap.size, 0, none⟩) 16 gc)).run Try.prog wr = .ok (.string (kstr (fun j => A j ^^^ f j) 0 16)) wr := kstr_of_code (hw.congr (fun j hj => by rw [if_pos (by omega)])).code
      have x1 : ¬ (k : Int) < 16 := by omega
      clear hw hb2 HW
      go_wp2
      go_ret
      exact ⟨rfl, HB.out⟩
theorem strCells_bv (s : ByteArray) : Lib.strCells s = bv s.size (strB s) := (bv_text s s.size rfl).symm
end Go.Proofs.Ytbhlgcenfanicaa

/-
  The model's chains: l02CbcEncrypt, CbcEncrypt.
-/
namespace Go.Proofs.Ytbhlgcenfanicaa
open Go.ChangeShapes Go.WideShapes Go.ChangeAt Go.RowKit
set_option maxRecDepth 100000 in
set_option maxHeartbeats 4000000 in
/-- spec.l02CbcEncrypt -/
theorem l02Cbc_any (k s : ByteArray) (kn b o n c : Nat) (f : Nat → Nat) (hkn : kn = 4 ∨ kn = 8) (hk : k.size = kn * 4) (hs : s.size = 16) (hn : n ≤ 65520) (hf : ∀ i, f i < 256) (w : World) (h : Code8 w (some ⟨b, o, none⟩) n f) :
    Calls Try.prog 34 #[.string k, .string s, .slice (some ⟨b, o, none⟩) n c] w fun e w' => RetB w w' e (n + fillN n) (cbcO (Gf.ws (strB k) kn (3 * kn + 28)) (kn + 6) (strB s) (padF n f)) ∧ Below w.heap.size w w' := by
  obtain ⟨i0, hi⟩ := info_parts Try.info8
  have HI : Hid (Try.prog.info? 5 = some i0 ∧ i0.zero = some (.int .u8 0) ∧ i0.size = 1 ∧ i0.bytes = 1) := hi
  have TA : Hid (∀ w : World, Calls Try.prog 41 #[] w fun e w' => (∃ b, w.heap.size ≤ b ∧ e = .returned (.slice (some ⟨b, 0, none⟩) 256 256) ∧ w'.rowIs b 3 256 (fun j => .int .i64 (Gf.sub j : Nat))) ∧ Below w.heap.size w w') := table_any
  have KE : Hid (∀ (tb : Nat) (w : World), w.rowIs tb 3 256 (fun j => .int .i64 (Gf.sub j : Nat)) → Calls Try.prog 42 #[.string k, .slice (some ⟨tb, 0, none⟩) 256 256] w fun e w' => (∃ pb po ck, e = .returned (.slice (some ⟨pb, po, none⟩) (kn + 6 + 1) ck) ∧ MK w' pb po tb (kn + 6) (Gf.ws (strB k) kn (3 * kn + 28))) ∧ Below w.heap.size w w') := fun tb w h => mKeys k kn hkn hk tb w h
  have LW : Hid (∀ j, Gf.ws (strB k) kn (3 * kn + 28) j < 256) := Gf.ws_lt (strB_lt k) _
  generalize Gf.ws (strB k) kn (3 * kn + 28) = W at *
  obtain ⟨m, hm⟩ : ∃ m, m = kn + 6 := ⟨_, rfl⟩
  have hm1 : 1 ≤ m := by omega
  have hm2 : m ≤ 14 := by omega
  rw [← hm] at KE ⊢
  have PD : Hid (∀ w : World, Code8 w (some ⟨b, o, none⟩) n f → Calls Try.prog 59 #[.slice (some ⟨b, o, none⟩) n c] w fun e w' => RetB w w' e (n + fillN n) (padF n f) ∧ Below w.heap.size w w') := fun w h => l02Pad_any b o n c f (by omega) w h
  have LI : Hid (∀ j, strB s j < 256) := strB_lt s
  have LP : Hid (∀ j, padF n f j < 256) := fun j => padF_lt hf j
  have hMm : (n + fillN n) % 16 = 0 := padN_mod n
  have hM2 : n + fillN n ≤ 65536 := by have := (fillN_bd n).2; omega
  generalize padF n f = P at *
  generalize n + fillN n = M at *
  have HC : Hid (Code8 w (some ⟨b, o, none⟩) n f) := h
  obtain ⟨iv, hiv⟩ : ∃ iv, iv = strB s := ⟨_, rfl⟩
  have HIV : Hid (Gf.Same (strB s) (cbcB W m iv P 0)) := fun j _ => by rw [← hiv]; rfl
  rw [← hiv] at LI ⊢
  have LB : Hid (∀ i j, cbcB W m iv P i j < 256) := fun i j => cbcB_lt LW.out LI.out LP.out i j
  have HSs : Hid (s.size = 16) := hs
  clear h hf hkn hk hs hm hi hiv
  go_enter Try.func34, Try.ntmps34
  go_wp2_with fail
  refine (TA.out _).mono ?_
  rintro e w1 ⟨⟨tb, htb, rfl, hrow⟩, hB1⟩
  have HR : Hid (w1.rowIs tb 3 256 (fun j => .int .i64 (Gf.sub j : Nat))) := hrow
  have HB1 : Hid (Below w.heap.size w w1) := hB1
  clear hrow hB1
  go_wp2_with fail
  refine (KE.out tb w1 HR.out).mono ?_
  rintro e w2 ⟨⟨pb, po, ck, rfl, hmk⟩, hB2⟩
  have HM : Hid (MK w2 pb po tb m W) := hmk
  have HB2 : Hid (Below w.heap.size w w2) := HB1.out.trans (hB2.mono HB1.out.size)
  have HC2 : Hid (Code8 w2 (some ⟨b, o, none⟩) n f) := HC.out.below HB2.out
  clear hmk hB2 HR HB1 HC TA KE
  go_wp2_with fail
  refine (PD.out _ HC2.out).mono ?_
  rintro e w3 ⟨⟨pk, Cp, ⟨hpk, hMC⟩, rfl, ho⟩, hB3⟩
  have HP3 : Hid (Own8 w3 pk M P) := ho
  have HM3 : Hid (MK w3 pb po tb m W) := HM.out.below hB3
  have HB3 : Hid (Below w.heap.size w w3) := HB2.out.trans (hB3.mono HB2.out.size)
  have hpt := HM3.out.lt
  have hpl := ho.lt
  have hw3 := HB3.out.size
  clear ho hB3 HM HB2 HC2 PD
  have HO4 : Hid ((w3.alloc (.cells #[] 5)).ownsRow w3.heap.size 5 1 (.slice (some ⟨w3.heap.size, 0, none⟩) 0 0) 0 (bv 0 (cbcO W m iv P))) := World.ownsRow_made w3 #[] 0 (Nat.le_refl _) (Nat.zero_le _) (by simp)
  have HP4 : Hid (Own8 (w3.alloc (.cells #[] 5)) pk M P) := HP3.out.alloc _
  have HM4 : Hid (MK (w3.alloc (.cells #[] 5)) pb po tb m W) := HM3.out.alloc _
  have HB4 : Hid (Below w.heap.size w (w3.alloc (.cells #[] 5))) := HB3.out.alloc hw3 _
  have hw4 : w3.heap.size ≤ (w3.alloc (.cells #[] 5)).heap.size := by simp
  clear HP3 HM3 HB3
  go_wp2_with fail
  generalize w3.alloc (.cells #[] 5) = w4 at *
  generalize w3.heap.size = B0 at *
  go_loopw [10, 11, 12] (fun x l i wr => ∃ (q gb gc : Nat) (T : ByteArray), 16 * q ≤ M ∧ i = .int .i64 (16 * (q : Int)) ∧ l = .string T ∧ T.size = 16 ∧ Gf.Same (strB T) (cbcB W m iv P q) ∧ x = .slice (some ⟨gb, 0, none⟩) (16 * q) gc ∧ wr.ownsRow B0 5 1 (.slice (some ⟨gb, 0, none⟩) (16 * q) gc) (16 * q) (bv (16 * q) (cbcO W m iv P)) ∧ (Own8 wr pk M P ∧ MK wr pb po tb m W ∧ Below w.heap.size w wr ∧ B0 ≤ wr.heap.size)) (fun _ _ i _ => M - (intOf i).toNat)
  case atStart => exact ⟨0, B0, 0, s, by omega, rfl, rfl, HSs.out, HIV.out, rfl, HO4.out, HP4.out, HM4.out, HB4.out, hw4⟩
  case round =>
    clear HO4 HP4 HM4 HB4 hw4 HIV HSs
    obtain ⟨q, gb, gc, T, hq, rfl, rfl, hT, hTS, rfl, hown, hp, hmk, hb, hsz⟩ := hrel
    have HO : Hid (wr.ownsRow B0 5 1 (.slice (some ⟨gb, 0, none⟩) (16 * q) gc) (16 * q) (bv (16 * q) (cbcO W m iv P))) := hown
    have HP : Hid (Own8 wr pk M P) := hp
    have HM : Hid (MK wr pb po tb m W) := hmk
    have HB : Hid (Below w.heap.size w wr) := hb
    clear hown hp hmk hb
    by_cases hlt : 16 * q < M
    · have g1 : 16 * (q : Int) < (M : Int) := by omega
      have g0 : (0 : Int) ≤ 16 * (q : Int) := by omega
      have g2 : 16 * (q : Int) + 16 ≤ (Cp : Int) := by omega
      have g3 : 16 * (q : Int) ≤ 16 * (q : Int) + 16 := by omega
      have g4 : (16 * (q : Int)).toNat = 16 * q := by omega
      have g5 : (16 * (q : Int) + 16).toNat = 16 * q + 16 := by omega
      have g6 : ¬ Cp = 16 * q := by omega
      have g7 : 16 * q + 16 - 16 * q = 16 := by omega
      obtain ⟨S2, hS2⟩ : ∃ S2, S2 = kstr (fun j => strB T j ^^^ P (16 * q + j)) 0 16 := ⟨_, rfl⟩
      have BO : Hid (∀ w : World, Code8 w (some ⟨pk, 16 * q, none⟩) 16 (fun j => P (16 * q + j)) → Calls Try.prog 43 #[.string T, .slice (some ⟨pk, 16 * q, none⟩) 16 (Cp - 16 * q)] w fun e w' => e = .returned (.string S2) ∧ Below w.heap.size w w') := fun w h => by
        rw [hS2]
        exact l02Both_any T hT pk (16 * q) (Cp - 16 * q) (fun j => P (16 * q + j)) (fun j _ => LP.out _) w h
      have EN : Hid (∀ w : World, MK w pb po tb m W → Calls Try.prog 55 #[.slice (some ⟨pb, po, none⟩) (m + 1) ck, .slice (some ⟨tb, 0, none⟩) 256 256, .string S2] w fun e w' => e = .returned (.string (kstr (cbcB W m iv P (q + 1)) 0 16)) ∧ Below w.heap.size w w') := fun w h =>
        (mEnc pb po ck tb m W LW.out hm1 hm2 S2 (by rw [hS2, kstr_size]) w h).mono fun e w' hh => ⟨by
          rw [hh.1]
          refine congrArg (fun x => Ending.returned (.string x)) (kstr_same (Gf.same_enc (fun j hj => ?_)))
          rw [hS2, strB_kstr _ 0 16 j (by rw [Nat.zero_add]; exact Gf.xor_lt (strB_lt T j) (LP.out _)) hj, Nat.zero_add, hTS j hj], hh.2⟩
      have HG : Hid (bv (16 * q) (cbcO W m iv P) ++ Lib.strCells (kstr (cbcB W m iv P (q + 1)) 0 16) = bv (16 * (q + 1)) (cbcO W m iv P)) := by
        show bv (16 * q) (cbcO W m iv P) ++ Lib.strCells (kstr (cbcB W m iv P (q + 1)) 0 16) = _
        rw [strCells_bv, kstr_size, bv_append, Nat.mul_add]
        refine bv_congr (fun i hi => ?_)
        by_cases e : i < 16 * q
        · rw [if_pos e]
        · rw [if_neg e, strB_kstr _ 0 16 _ (by rw [Nat.zero_add]; exact LB.out _ _) (by omega), Nat.zero_add]
          have := cbcO_at W m iv P q (i - 16 * q) (by omega)
          rw [show 16 * q + (i - 16 * q) = i from by omega] at this
          exact this.symm
      have HS16 : Hid ((kstr (cbcB W m iv P (q + 1)) 0 16).size = 16) := kstr_size _ _ _
      have HTS : Hid (Gf.Same (strB (kstr (cbcB W m iv P (q + 1)) 0 16)) (cbcB W m iv P (q + 1))) := same_strB (fun j _ => LB.out _ _)
      have HCd : Hid (Code8 wr (some ⟨pk, 16 * q, none⟩) 16 (fun j => P (16 * q + j))) := code8_of (fun j hj => HP.out.cell (by omega))
      have HQ : Hid (16 * (q : Int) + 16 = 16 * ((q + 1 : Nat) : Int)) := by show 16 * (q : Int) + 16 = _; omega
      generalize kstr (cbcB W m iv P (q + 1)) 0 16 = E1 at *
      clear hS2 hT hTS
      go_wp2_with fail
      refine (BO.out _ HCd.out).mono ?_
      rintro e w5 ⟨rfl, hb5⟩
      have HO5 : Hid (w5.ownsRow B0 5 1 (.slice (some ⟨gb, 0, none⟩) (16 * q) gc) (16 * q) (bv (16 * q) (cbcO W m iv P))) := ownsRow_below8 HO.out hb5
      have HP5 : Hid (Own8 w5 pk M P) := HP.out.below hb5
      have HM5 : Hid (MK w5 pb po tb m W) := HM.out.below hb5
      have HB5 : Hid (Below w.heap.size w w5) := HB.out.trans (hb5.mono HB.out.size)
      have hsz5 := Nat.le_trans hsz hb5.size
      clear hb5 HO HP HM HB BO HCd hsz
      go_wp2_with fail
      refine (EN.out _ HM5.out).mono ?_
      rintro e w6 ⟨rfl, hb6⟩
      have HO6 : Hid (w6.ownsRow B0 5 1 (.slice (some ⟨gb, 0, none⟩) (16 * q) gc) (16 * q) (bv (16 * q) (cbcO W m iv P))) := ownsRow_below8 HO5.out hb6
      have HP6 : Hid (Own8 w6 pk M P) := HP5.out.below hb6
      have HM6 : Hid (MK w6 pb po tb m W) := HM5.out.below hb6
      have HB6 : Hid (Below w.heap.size w w6) := HB5.out.trans (hb6.mono HB5.out.size)
      have hsz6 := Nat.le_trans hsz5 hb6.size
      clear hb6 HO5 HP5 HM5 HB5 EN hsz5
      go_wp2_with (at_builtin; refine Lib.wpList_append_own_string _ rfl _ _ 22 9 rfl B0 5 i0 Try.underlying22 Try.underlying9 HI.out.1 HI.out.2.1 HI.out.2.2.1 HI.out.2.2.2 (.slice (some ⟨gb, 0, none⟩) (16 * q) gc) (16 * q) _ rfl HO6.out E1 rfl (by rw [HS16.out]; unfold maxLen; omega) (by rw [HS16.out]; omega) hsz6 ?_)
      intro v7 w7 hown7 hgrow7 hnil7
      rw [HS16.out, HG.out] at hown7
      have BG := grown_below HO6.out hgrow7 hsz6
      have HP7 : Hid (Own8 w7 pk M P) := HP6.out.of_block (BG.block pk hpl)
      have HM7 : Hid (MK w7 pb po tb m W) := HM6.out.belowAt BG hpt.1 hpt.2
      have HB7 : Hid (Below w.heap.size w w7) := HB6.out.trans (BG.mono hw3)
      have hsz7 := Nat.le_trans hsz6 BG.size
      obtain ⟨gb7, gc7, ⟨hgb7, hgc7⟩, rfl, -⟩ := own8_of_own (n := 16 * (q + 1)) hown7 hnil7
      have HO7 : Hid (w7.ownsRow B0 5 1 (.slice (some ⟨gb7, 0, none⟩) (16 * (q + 1)) gc7) (16 * (q + 1)) (bv (16 * (q + 1)) (cbcO W m iv P))) := hown7
      clear hown7 hgrow7 hnil7 BG HO6 HP6 HM6 HB6 HG
      go_wp2
      go_roundw
      case rel => exact ⟨q + 1, gb7, gc7, E1, by omega, numEq8 HQ.out, rfl, HS16.out, HTS.out, rfl, HO7.out, HP7.out, HM7.out, HB7.out, hsz7⟩
      case measure => simp [intOf]; omega
    · have g1 : ¬ 16 * (q : Int) < (M : Int) := by omega
      obtain rfl : M = 16 * q := by omega
      obtain ⟨gb7, gc7, ⟨hgb7, hgc7⟩, e7, ho7⟩ := own8_of_own (n := 16 * q) HO.out (by intro e; cases e)
      cases e7
      have HO7 : Hid (Own8 wr gb (16 * q) (cbcO W m iv P)) := ho7
      clear ho7 HO HP HM LB LP LI LW hTS
      go_wp2
      go_ret
      exact ⟨⟨gb, gc, ⟨Nat.le_trans hw3 hgb7, hgc7⟩, rfl, HO7.out⟩, HB.out⟩
theorem specCbc_long (k s : ByteArray) (a : Option Addr) (n c : Nat) (f : Nat → Nat) (h : 65536 < k.size ∨ 65536 < s.size ∨ 65520 < n) (w : World) :
    Calls Try.prog 12 #[.string k, .string s, .slice a n c] w fun e w' => RetB2 w w' e 0 f (.int .i64 2) ∧ Below w.heap.size w w' := by
  by_cases h1 : 65536 < k.size
  · have e1 : (65536 : Int) < k.size := by omega
    go_enter Try.func12, Try.ntmps12
    go_wp2
    go_ret2
    exact ⟨RetB2.made w f _, (Below.refl _ _).alloc (Nat.le_refl _) _⟩
  · have e1 : ¬ (65536 : Int) < k.size := by omega
    by_cases h2 : 65536 < s.size
    · have e2 : (65536 : Int) < s.size := by omega
      go_enter Try.func12, Try.ntmps12
      go_wp2
      go_ret2
      exact ⟨RetB2.made w f _, (Below.refl _ _).alloc (Nat.le_refl _) _⟩
    · have e2 : ¬ (65536 : Int) < s.size := by omega
      have e3 : (65520 : Int) < n := by omega
      go_enter Try.func12, Try.ntmps12
      go_wp2
      go_ret2
      exact ⟨RetB2.made w f _, (Below.refl _ _).alloc (Nat.le_refl _) _⟩
theorem specCbc_bad (k s : ByteArray) (a : Option Addr) (n c : Nat) (f : Nat → Nat) (h1 : k.size ≤ 65536) (h2 : s.size ≤ 65536) (h3 : n ≤ 65520) (h : ¬ ((k.size = 16 ∨ k.size = 32) ∧ s.size = 16)) (w : World) :
    Calls Try.prog 12 #[.string k, .string s, .slice a n c] w fun e w' => RetB2 w w' e 0 f (.int .i64 1) ∧ Below w.heap.size w w' := by
  have e1 : ¬ (65536 : Int) < k.size := by omega
  have e2 : ¬ (65536 : Int) < s.size := by omega
  have e3 : ¬ (65520 : Int) < n := by omega
  by_cases hk : k.size = 16 ∨ k.size = 32
  · have e4 : ((s.size : Int) != 16) = true := by rw [bne_iff_ne]; omega
    have KO : Hid (∀ w : World, Calls Try.prog 30 #[.string k] w fun e w' => e = .returned (.bool true) ∧ w = w') := l01Key_yes k hk
    clear h hk
    go_enter Try.func12, Try.ntmps12
    go_wp2_with (go_at_call 30; refine (KO.out _).mono ?_; rintro e w' ⟨rfl, rfl⟩)
    go_ret2
    exact ⟨RetB2.made w f _, (Below.refl _ _).alloc (Nat.le_refl _) _⟩
  · have KO : Hid (∀ w : World, Calls Try.prog 30 #[.string k] w fun e w' => e = .returned (.bool false) ∧ w = w') := l01Key_no k (by omega) (by omega)
    clear h hk
    go_enter Try.func12, Try.ntmps12
    go_wp2_with (go_at_call 30; refine (KO.out _).mono ?_; rintro e w' ⟨rfl, rfl⟩)
    go_ret2
    exact ⟨RetB2.made w f _, (Below.refl _ _).alloc (Nat.le_refl _) _⟩
theorem specCbc_yes (k s : ByteArray) (kn b o n c : Nat) (f : Nat → Nat) (hkn : kn = 4 ∨ kn = 8) (hk : k.size = kn * 4) (hs : s.size = 16) (hn : n ≤ 65520) (hf : ∀ i, f i < 256) (w : World) (h : Code8 w (some ⟨b, o, none⟩) n f) :
    Calls Try.prog 12 #[.string k, .string s, .slice (some ⟨b, o, none⟩) n c] w fun e w' => RetB2 w w' e (n + fillN n) (cbcO (Gf.ws (strB k) kn (3 * kn + 28)) (kn + 6) (strB s) (padF n f)) (.int .i64 0) ∧ Below w.heap.size w w' := by
  have e1 : ¬ (65536 : Int) < k.size := by omega
  have e2 : ¬ (65536 : Int) < s.size := by omega
  have e3 : ¬ (65520 : Int) < n := by omega
  have e4 : ((s.size : Int) != 16) = false := by rw [bne_eq_false_iff_eq]; omega
  have KO : Hid (∀ w : World, Calls Try.prog 30 #[.string k] w fun e w' => e = .returned (.bool true) ∧ w = w') := l01Key_yes k (by omega)
  have LC : Hid (Calls Try.prog 34 #[.string k, .string s, .slice (some ⟨b, o, none⟩) n c] w fun e w' => RetB w w' e (n + fillN n) (cbcO (Gf.ws (strB k) kn (3 * kn + 28)) (kn + 6) (strB s) (padF n f)) ∧ Below w.heap.size w w') := l02Cbc_any k s kn b o n c f hkn hk hs hn hf w h
  generalize cbcO (Gf.ws (strB k) kn (3 * kn + 28)) (kn + 6) (strB s) (padF n f) = g at *
  generalize n + fillN n = M at *
  clear h hf hkn hk hs
  go_enter Try.func12, Try.ntmps12
  go_wp2_with (go_at_call 30; refine (KO.out _).mono ?_; rintro e w' ⟨rfl, rfl⟩)
  refine LC.out.mono ?_
  rintro e w1 ⟨⟨b2, c2, hb2, rfl, ho⟩, hB⟩
  have B1 : Hid (Below w.heap.size w w1) := hB
  have HO : Hid (Own8 w1 b2 M g) := ho
  clear ho hB
  go_wp2
  go_ret2
  exact ⟨⟨_, _, hb2, rfl, HO.out⟩, B1.out⟩
end Go.Proofs.Ytbhlgcenfanicaa

/-
  The contract of impl.unchained.
-/
namespace Go.Proofs.Ytbhlgcenfanicaa
open Go.ChangeShapes Go.WideShapes Go.ChangeAt Go.RowKit
/-- The block ahead of block i. -/
def prevB (iv c : Nat → Nat) (i j : Nat) : Nat := if i = 0 then iv j else c (16 * (i - 1) + j)
theorem mkRoom (n : Nat) (hn : n ≤ 10000000) (w : World) : ∃ w', (Instr.makeSlice 22 (.int .i64 0) (.int .i64 (n : Int))).run Try.prog w = .ok (.slice (some ⟨w.heap.size, 0, none⟩) 0 n) w' ∧ w'.ownsRow w.heap.size 5 1 (.slice (some ⟨w.heap.size, 0, none⟩) 0 n) 0 [] ∧ Below w.heap.size w w' := by
  obtain ⟨i0, hi, hz, hs, hb⟩ := info_parts Try.info8
  have hr := run_make (P := Try.prog) w 22 5 i0 (.int .u8 0) Try.underlying22 hi hz .i64 .i64 0 (n : Int) (Int.le_refl _) (by omega) (by rw [hb]; omega) (by omega)
  simp only [Int.toNat_natCast, hs, Nat.mul_one] at hr
  refine ⟨_, hr, World.ownsRow_made w _ n (Nat.le_refl _) (by unfold maxLen; omega) ?_, (Below.refl _ _).alloc (Nat.le_refl _) _⟩
  rw [size_madeCells]
  omega
/-- What unchained's steps keep. -/
def UNC (w0 : World) (Cb m bb ab B0 : Nat) (K X Y : Nat → Nat) (v : Value) (q : Nat) (xs : List Value) (w' : World) : Prop := Row8 w' bb 39 16 X ∧ Row8 w' ab 39 16 Y ∧ CiphAt w' Cb m K ∧ w'.ownsRow B0 5 1 v q xs ∧ Below w0.heap.size w0 w'
theorem UNC.below {w0 w' w'' : World} {Cb m bb ab B0 : Nat} {K X Y : Nat → Nat} {v : Value} {q : Nat} {xs : List Value} (h : UNC w0 Cb m bb ab B0 K X Y v q xs w') (hb : Below w'.heap.size w' w'') : UNC w0 Cb m bb ab B0 K X Y v q xs w'' :=
  ⟨h.1.below hb, h.2.1.below hb, h.2.2.1.below hb, ownsRow_below8 h.2.2.2.1 hb, h.2.2.2.2.trans (hb.mono h.2.2.2.2.size)⟩
theorem UNC.drew {w0 w' : World} {Cb m bb ab B0 : Nat} {K X Y : Nat → Nat} {v : Value} {q : Nat} {xs : List Value} (h : UNC w0 Cb m bb ab B0 K X Y v q xs w') : UNC w0 Cb m bb ab B0 K X Y v q xs w'.drew := ⟨h.1, h.2.1, h.2.2.1, h.2.2.2.1, h.2.2.2.2.drew⟩
theorem ownsRow_ne {w w' : World} {c base : Nat} {e : TypeId} {size : Nat} {v : Value} {n : Nat} {xs : List Value} (h : w.ownsRow base e size v n xs) (ho : OnlyB c w w') (hne : ∀ k, v.ownBlock = some k → k ≠ c) : w'.ownsRow base e size v n xs := by
  obtain ⟨hl, h0 | ⟨g, cap, cur, hv, h1, hh, h2⟩⟩ := h
  · exact ⟨hl, .inl h0⟩
  · refine ⟨hl, .inr ⟨g, cap, cur, hv, h1, ?_, h2⟩⟩
    rw [ho.block g ?_ (hne g (by rw [hv]; rfl))]
    · exact hh
    · rcases Nat.lt_or_ge g w.heap.size with k | k
      · exact k
      · rw [Array.getElem?_eq_none k] at hh; cases hh
theorem unc_store {w0 w' : World} {Cb m bb ab B0 pb : Nat} {K X Y : Nat → Nat} {v : Value} {q : Nat} {xs : List Value} (h : UNC w0 Cb m bb ab B0 K X Y v q xs w') (hz : Row8 w' pb 39 16 (fun _ => 0)) (h1 : bb < pb) (h2 : ab < pb) (h3 : Cb < pb) (h4 : w0.heap.size ≤ pb) (h5 : ∀ k, v.ownBlock = some k → k ≠ pb) (G : Nat → Nat) :
    UNC w0 Cb m bb ab B0 K X Y v q xs (w'.setCells pb 0 (bv 16 G)) ∧ Row8 (w'.setCells pb 0 (bv 16 G)) pb 39 16 G ∧ w'.heap.size ≤ (w'.setCells pb 0 (bv 16 G)).heap.size := by
  have X1 : OnlyB pb w' (w'.setCells pb 0 (bv 16 G)) := onlyB_setCells _ _ _ (OnlyB.refl _ _)
  exact ⟨⟨h.1.onlyB X1 (by omega), h.2.1.onlyB X1 (by omega), h.2.2.1.onlyBe X1 (by omega), ownsRow_ne h.2.2.2.1 X1 h5, h.2.2.2.2.trans (X1.toBelow h4 h.2.2.2.2.size)⟩, hz.stored G, X1.size⟩
/-- What holds where a block more begins: i blocks are done. -/
def UnJ (w0 : World) (Cb m ab B0 n : Nat) (K iv c : Nat → Nat) (b o : Nat) (a' : Act) (w' : World) : Prop := ∃ (i gb gc : Nat) (ra : Option Addr) (L cr : Nat) (u0 u1 u2 u3 u5 u6 u10 u11 u12 u13 u14 u15 u16 u17 u18 u19 u20 u21 u22 u23 u24 u25 u26 u27 u28 u29 u30 u31 u32 u33 u34 u35 : Value), a' = { tmps := #[u0, u1, u2, u3, .pointer (some ⟨ab, 0, none⟩), u5, u6, .pointer (some ⟨Cb, 0, none⟩), .slice (some ⟨gb, 0, none⟩) (16 * i) gc, .slice ra L cr, u10, u11, u12, u13, u14, u15, u16, u17, u18, u19, u20, u21, u22, u23, u24, u25, u26, u27, u28, u29, u30, u31, u32, u33, u34, u35], defers := [] } ∧
  L = n - 16 * i ∧ 16 * i ≤ n ∧ (16 * i < n → ra = some ⟨b, o + 16 * i, none⟩) ∧ L ≤ cr ∧ w'.ownsRow B0 5 1 (.slice (some ⟨gb, 0, none⟩) (16 * i) gc) (16 * i) (bv (16 * i) (cbcD K m iv c)) ∧ Row8 w' ab 39 16 (prevB iv c i) ∧ CiphAt w' Cb m K ∧ Below w0.heap.size w0 w' ∧ B0 ≤ w'.heap.size
set_option maxRecDepth 100000 in
set_option maxHeartbeats 4000000 in
theorem unchained_any (k : ByteArray) (kn b o n cp : Nat) (iv c : Nat → Nat) (hkn : kn = 4 ∨ kn = 8) (hk : k.size = kn * 4) (hn : n ≤ 65536) (hn16 : n % 16 = 0) (hncp : n ≤ cp) (hi : ∀ j, iv j < 256) (hc : ∀ i, c i < 256) (w : World) (h : Code8 w (some ⟨b, o, none⟩) n c) :
    Calls Try.prog 35 #[.string k, .agg (bA 16 iv), .slice (some ⟨b, o, none⟩) n cp] w fun e w' => RetB w w' e n (cbcD (Gf.ws (strB k) kn (3 * kn + 28)) (kn + 6) iv c) ∧ Below w.heap.size w w' := by
  obtain ⟨i0, hi0⟩ := info_parts Try.info8
  have HI : Hid (Try.prog.info? 5 = some i0 ∧ i0.zero = some (.int .u8 0) ∧ i0.size = 1 ∧ i0.bytes = 1) := hi0
  have NC : Hid (∀ w : World, Calls Try.prog 25 #[.string k] w fun e w' => e = .returned (.agg (cA (kn + 6) (Gf.ws (strB k) kn (3 * kn + 28)))) ∧ Below w.heap.size w w') := newCipher_any k kn hkn hk
  have LW : Hid (∀ j, Gf.ws (strB k) kn (3 * kn + 28) j < 256) := Gf.ws_lt (strB_lt k) _
  generalize Gf.ws (strB k) kn (3 * kn + 28) = W at *
  obtain ⟨m, hm⟩ : ∃ m, m = kn + 6 := ⟨_, rfl⟩
  have hm1 : 1 ≤ m := by omega
  have hm2 : m ≤ 14 := by omega
  rw [← hm] at NC ⊢
  have LI : Hid (∀ j, iv j < 256) := hi
  have LC : Hid (∀ j, c j < 256) := hc
  have LV : Hid (∀ i j, prevB iv c i j < 256) := fun i j => by
    show (if i = 0 then iv j else c (16 * (i - 1) + j)) < 256
    split
    · exact hi j
    · exact hc _
  obtain ⟨Z, z0, hZ, -⟩ := Try.zeroC
  have S2 : Hid ((Try.prog.info? 44).map (·.size) = some (cA m W).size) := by rw [cA_size]; exact Try.sizeC
  have O2 : Hid ((cA m W).all (·.oneCell') = true) := cA_one _ _
  have hLen : (cA m W).toList.length = 769 := cA_len _ _
  have hAt : Hid (∀ k, k < 769 → (cA m W).toList[k]? = some (cf m W k)) := fun k hk => by
    have := cA_at (n := m) (K := W) hk
    rwa [← Array.getElem?_toList] at this
  have HSZ : Hid ((cA m W).size = 769) := cA_size _ _
  generalize cA m W = CA at *
  have HC : Hid (Code8 w (some ⟨b, o, none⟩) n c) := h
  clear h hc hi hkn hk hm hi0
  go_enter Try.func35, Try.ntmps35
  go_wp2
  refine wp_scope_label 0 (fun a' w' => ∃ Cb ab B0, (Cb < B0 ∧ ab < B0 ∧ w.heap.size ≤ ab ∧ w.heap.size ≤ Cb ∧ Cb ≠ ab) ∧ UnJ w Cb m ab B0 n W iv c b o a' w') (fun a' _ => lenOf (a'.tmps.getD 9 undef)) rfl ?_ ?_
  · rintro a' wr ⟨Cb, ab, B0, ⟨hCB, haB, hwa, hwC, hCa⟩, i, gb, gc, ra, L, cr, u0, u1, u2, u3, u5, u6, u10, u11, u12, u13, u14, u15, u16, u17, u18, u19, u20, u21, u22, u23, u24, u25, u26, u27, u28, u29, u30, u31, u32, u33, u34, u35, rfl, hL, hi, hra, hcr, hown, hr, hC, hB, hB0⟩
    have HO : Hid (wr.ownsRow B0 5 1 (.slice (some ⟨gb, 0, none⟩) (16 * i) gc) (16 * i) (bv (16 * i) (cbcD W m iv c))) := hown
    have HR : Hid (Row8 wr ab 39 16 (prevB iv c i)) := hr
    have CC : Hid (CiphAt wr Cb m W) := hC
    have HB : Hid (Below w.heap.size w wr) := hB
    clear hown hr hC hB
    clear NC S2 O2 hLen hAt HSZ z0 hZ
    by_cases hlt : 16 * i < n
    · have era := hra hlt
      subst era
      have hMi : 16 * i + 16 ≤ n := by omega
      have hb : b < w.heap.size := HC.out.lt _ (by omega) rfl
      have eL : ((L : Int) == 0) = false := by rw [beq_eq_false_iff_ne]; omega
      have xc : (16 : Int) ≤ (cr : Int) := by omega
      have xL : (16 : Int) ≤ (L : Int) := by omega
      obtain ⟨X, hX⟩ : ∃ X : Nat → Nat, X = fun j => c (16 * i + j) := ⟨_, rfl⟩
      have lX : Hid (∀ j, X j < 256) := fun j => by rw [hX]; exact LC.out _
      obtain ⟨S, hS⟩ : ∃ S, S = kstr X 0 16 := ⟨_, rfl⟩
      have hcv : ∀ cap, (convert 22 9 (.slice (some ⟨b, o + 16 * i, none⟩) 16 cap)).run Try.prog wr = .ok (.string S) wr := fun cap => by
        rw [hS]
        refine kstr_of_code (code8_of (fun j hj => ?_))
        rw [HB.out.cell (p := ⟨b, o + 16 * i + j, none⟩) hb, hX, Nat.add_assoc]
        exact HC.out.at (by omega)
      have SO : Hid (∀ w : World, Calls Try.prog 33 #[.string S] w fun e w' => e = .returned (.agg (bA 16 X)) ∧ Below w.heap.size w w') := fun w => by
        have := stateOf_le S (by rw [hS, kstr_size]; exact Nat.le_refl _) w
        rwa [hS, bA_same (same_strB (fun j _ => lX.out j)), ← hS] at this
      have DE : Hid (∀ w : World, CiphAt w Cb m W → Calls Try.prog 60 #[.pointer (some ⟨Cb, 0, none⟩), .agg (bv 16 X).toArray] w fun e w' => e = .returned (.agg (bA 16 (Gf.dec W m X))) ∧ Below w.heap.size w w') := fun w h => decrypt_any Cb m W X (fun j _ => lX.out j) LW.out hm1 hm2 w h
      have AD : Hid (∀ w : World, Calls Try.prog 37 #[.agg (bA 16 (Gf.dec W m X)), .agg (bv 16 (prevB iv c i)).toArray] w fun e w' => e = .returned (.agg (bA 16 (fun j => Gf.dec W m X j ^^^ prevB iv c i j))) ∧ Below w.heap.size w w') := added_any _ _ (fun j hj => Gf.dec_lt LW.out (fun j _ => lX.out j) j hj) (fun j _ => LV.out i j)
      have HPl : Hid (∀ j, j < 16 → Gf.dec W m X j ^^^ prevB iv c i j = cbcD W m iv c (16 * i + j)) := fun j hj => by
        unfold cbcD
        rw [show (16 * i + j) / 16 = i from by omega, show (16 * i + j) % 16 = j from by omega, hX]
        congr 1
        unfold prevB
        by_cases e : i = 0
        · subst e
          rw [if_pos rfl, if_pos (by omega), show 16 * 0 + j = j from by omega]
        · rw [if_neg e, if_neg (by omega), show 16 * (i - 1) + j = 16 * i + j - 16 from by omega]
      have HPv : Hid (prevB iv c (i + 1) = X) := by
        show prevB iv c (i + 1) = X
        rw [hX]
        funext j
        unfold prevB
        rw [if_neg (by omega)]
        rfl
      have HL : Hid (L - 16 = n - 16 * (i + 1)) := by show L - 16 = _; omega
      have SA : Hid ((Try.prog.info? 39).map (·.size) = some (bA 16 X).size) := by rw [bA_size]; exact Try.sizeSt
      have OA : Hid ((bA 16 X).all (·.oneCell') = true) := bA_one _ _
      have TL : Hid ((bA 16 X).toList = bv 16 X) := bA_toList _ _
      have BS : Hid ((bA 16 X).size = 16) := bA_size _ _
      generalize bA 16 X = XA at *
      generalize prevB iv c i = Y at *
      clear hX hS hra hL LC LI LV
      go_wp2_with fail
      refine (SO.out _).mono ?_
      rintro e w1 ⟨rfl, hb1⟩
      have Z1 : Hid (Row8 (w1.alloc (.cells z16 39)) w1.heap.size 39 16 (fun _ => 0)) := Row8.z16At rfl _
      have hw1 : wr.heap.size ≤ w1.heap.size := hb1.size
      have hab1 := HR.out.lt
      have hgbr := (HO.out.lt gb rfl).2
      have U0 : UNC w Cb m w1.heap.size ab B0 W X Y (.slice (some ⟨gb, 0, none⟩) (16 * i) gc) (16 * i) (bv (16 * i) (cbcD W m iv c)) ((w1.alloc (.cells z16 39)).setCells w1.heap.size 0 (bv 16 X)) := by
        have X1 : OnlyB w1.heap.size (w1.alloc (.cells z16 39)) ((w1.alloc (.cells z16 39)).setCells w1.heap.size 0 (bv 16 X)) := onlyB_setCells _ _ _ (OnlyB.refl _ _)
        have Bz : Below wr.heap.size wr (w1.alloc (.cells z16 39)) := hb1.alloc hw1 _
        have Bx : Below wr.heap.size wr ((w1.alloc (.cells z16 39)).setCells w1.heap.size 0 (bv 16 X)) := Bz.trans (X1.toBelow hw1 (by simp; omega))
        exact ⟨Z1.out.stored _, HR.out.below Bx, CC.out.below Bx, ownsRow_below8 HO.out Bx, HB.out.trans (Bx.mono HB.out.size)⟩
      have hB01 : B0 ≤ ((w1.alloc (.cells z16 39)).setCells w1.heap.size 0 (bv 16 X)).heap.size := by
        have X1 : OnlyB w1.heap.size (w1.alloc (.cells z16 39)) ((w1.alloc (.cells z16 39)).setCells w1.heap.size 0 (bv 16 X)) := onlyB_setCells _ _ _ (OnlyB.refl _ _)
        have := X1.size
        simp at this
        omega
      have hB0bb : B0 ≤ w1.heap.size := Nat.le_trans hB0 hw1
      have HU0 : Hid (UNC w Cb m w1.heap.size ab B0 W X Y (.slice (some ⟨gb, 0, none⟩) (16 * i) gc) (16 * i) (bv (16 * i) (cbcD W m iv c)) ((w1.alloc (.cells z16 39)).setCells w1.heap.size 0 (bv 16 X))) := U0
      clear U0 hb1 HO HR CC HB SO hcv
      unfold z16 at Z1 HU0 hB01
      go_upto_region 7 with (refine wpList_store_mid rfl 39 (.tmp 10) (.tmp 25) rfl w1.heap.size 0 XA rfl rfl (by rw [BS.out]; exact Z1.out.there) SA.out OA.out ?_)
      rw [TL.out]
      generalize (w1.alloc (.cells #[.int .u8 0, .int .u8 0, .int .u8 0, .int .u8 0, .int .u8 0, .int .u8 0, .int .u8 0, .int .u8 0, .int .u8 0, .int .u8 0, .int .u8 0, .int .u8 0, .int .u8 0, .int .u8 0, .int .u8 0, .int .u8 0] 39)).setCells w1.heap.size 0 (bv 16 X) = w2 at *
      generalize hbb : w1.heap.size = bb at *
      clear SA OA TL BS Z1
      have H : UNC w Cb m bb ab B0 W X Y (.slice (some ⟨gb, 0, none⟩) (16 * i) gc) (16 * i) (bv (16 * i) (cbcD W m iv c)) w2.drew := HU0.out.drew
      generalize hOUT : bv (16 * i) (cbcD W m iv c) = OUT at *
      have HOUT : Hid (bv (16 * i) (cbcD W m iv c) = OUT) := hOUT
      clear hOUT
      dsimp only [Act.put]
      go_cut [11] (fun v wx => ∃ pb, v = .pointer (some ⟨pb, 0, none⟩) ∧ Row8 wx pb 39 16 (fun j => Gf.dec W m X j ^^^ Y j) ∧ bb < pb ∧ UNC w Cb m bb ab B0 W X Y (.slice (some ⟨gb, 0, none⟩) (16 * i) gc) (16 * i) OUT wx ∧ B0 ≤ wx.heap.size)
      case first =>
        have hbase : max B0 (bb + 1) ≤ w2.drew.heap.size := by have h1 := H.1.lt; have h2 : B0 ≤ w2.drew.heap.size := hB01; omega
        refine wp_region_noPanic ?_
        refine wp_region_held_drew (S := fun w' => UNC w Cb m bb ab B0 W X Y (.slice (some ⟨gb, 0, none⟩) (16 * i) gc) (16 * i) OUT w') (by kernel_rfl) H (fun _ => ?_)
        refine wpAnyH_take (i := 0) (v := .agg (bv 16 X).toArray) rfl (by kernel_rfl) (by kernel_rfl) (by kernel_rfl) (fun _ _ _ h => h) (yieldsIf_load_mid (by rfl) 39 (.tmp 10) rfl bb 0 rfl (bv 16 X) _ (fun w h => h.1.range) Try.underlying39 rfl (by rw [bv_length]; exact Try.sizeSt)) H ?_
        change wpAnyH _ _ _ _ _ _ _ { tmps := #[_, _, _, _, _, _, _, _, _, _, _, _, _, _, _, _, _, _, _, _, _, _, _, _, _, _, _, _, _, _, _, _, _, _, _, _], defers := [] } _
        refine wpAnyH_take (i := 2) (v := .agg (bv 16 Y).toArray) rfl (by kernel_rfl) (by kernel_rfl) (by kernel_rfl) (fun _ _ _ h => h) (yieldsIf_load_mid (by rfl) 39 (.tmp 4) rfl ab 0 rfl (bv 16 Y) _ (fun w h => h.2.1.range) Try.underlying39 rfl (by rw [bv_length]; exact Try.sizeSt)) H ?_
        change wpAnyH _ _ _ _ _ _ _ { tmps := #[_, _, _, _, _, _, _, _, _, _, _, _, _, _, _, _, _, _, _, _, _, _, _, _, _, _, _, _, _, _, _, _, _, _, _, _], defers := [] } _
        refine wpAnyH_ready (rs := [1, 4]) (by kernel_rfl) (by simp) ?_
        refine AllReadyH.cons rfl (fun KK hK => ?_) (AllReadyH.cons rfl (fun KK hK => ?_) AllReadyH.nil)
        · have HSb := hbase
          go_simp
          refine (DE.out _ H.2.2.1).mono ?_
          rintro e w3 ⟨rfl, hb3⟩
          replace H := UNC.below H hb3
          have hs3 := Nat.le_trans HSb hb3.size
          refine hK.out _ _ H (fun _ => ?_)
          clear hK KK hb3
          change wpAnyH _ _ _ _ _ _ _ { tmps := #[_, _, _, _, _, _, _, _, _, _, _, _, _, _, _, _, _, _, _, _, _, _, _, _, _, _, _, _, _, _, _, _, _, _, _, _], defers := [] } _
          refine wpAnyH_ready (rs := [3, 4]) (by kernel_rfl) (by simp) ?_
          refine AllReadyH.cons rfl (fun KK hK => ?_) (AllReadyH.cons rfl (fun KK hK => ?_) AllReadyH.nil)
          · go_simp
            refine (AD.out _).mono ?_
            rintro e w4 ⟨rfl, hb4⟩
            replace H := UNC.below H hb4
            have hs4 := Nat.le_trans hs3 hb4.size
            refine hK.out _ _ H (fun _ => ?_)
            clear hK KK hb4
            change wpAnyH _ _ _ _ _ _ _ { tmps := #[_, _, _, _, _, _, _, _, _, _, _, _, _, _, _, _, _, _, _, _, _, _, _, _, _, _, _, _, _, _, _, _, _, _, _, _], defers := [] } _
            refine wpAnyH_ready (rs := [4]) (by kernel_rfl) (by simp) ?_
            refine AllReadyH.cons rfl (fun KK hK => ?_) AllReadyH.nil
            go_simp
            have hgp : gb < w4.heap.size := (H.2.2.2.1.lt gb rfl).2
            have hpB : B0 ≤ w4.heap.size := by have h9 : max B0 (bb + 1) ≤ w4.heap.size := hs4; omega
            replace H : UNC w Cb m bb ab B0 W X Y (.slice (some ⟨gb, 0, none⟩) (16 * i) gc) (16 * i) OUT ((w4.alloc (.cells #[.int .u8 0, .int .u8 0, .int .u8 0, .int .u8 0, .int .u8 0, .int .u8 0, .int .u8 0, .int .u8 0, .int .u8 0, .int .u8 0, .int .u8 0, .int .u8 0, .int .u8 0, .int .u8 0, .int .u8 0, .int .u8 0] 39))) := UNC.below H ((Below.refl _ _).alloc (Nat.le_refl _) _)
            have HZ : Row8 ((w4.alloc (.cells #[.int .u8 0, .int .u8 0, .int .u8 0, .int .u8 0, .int .u8 0, .int .u8 0, .int .u8 0, .int .u8 0, .int .u8 0, .int .u8 0, .int .u8 0, .int .u8 0, .int .u8 0, .int .u8 0, .int .u8 0, .int .u8 0] 39))) w4.heap.size 39 16 (fun _ => 0) := Row8.z16At (w := w4) rfl _
            have hsA : w4.heap.size < ((w4.alloc (.cells #[.int .u8 0, .int .u8 0, .int .u8 0, .int .u8 0, .int .u8 0, .int .u8 0, .int .u8 0, .int .u8 0, .int .u8 0, .int .u8 0, .int .u8 0, .int .u8 0, .int .u8 0, .int .u8 0, .int .u8 0, .int .u8 0] 39))).heap.size := by simp
            have hbp : bb < w4.heap.size := by have h9 : max B0 (bb + 1) ≤ w4.heap.size := hs4; omega
            have hB0A : B0 ≤ ((w4.alloc (.cells #[.int .u8 0, .int .u8 0, .int .u8 0, .int .u8 0, .int .u8 0, .int .u8 0, .int .u8 0, .int .u8 0, .int .u8 0, .int .u8 0, .int .u8 0, .int .u8 0, .int .u8 0, .int .u8 0, .int .u8 0, .int .u8 0] 39))).heap.size := Nat.le_trans hpB (Nat.le_of_lt hsA)
            refine hK.out _ _ H (fun _ => ?_)
            clear hK KK
            change wpAnyH _ _ _ _ _ _ _ { tmps := #[_, _, _, _, _, _, _, _, _, _, _, _, _, _, _, _, _, _, _, _, _, _, _, _, _, _, _, _, _, _, _, _, _, _, _, _], defers := [] } _
            generalize (w4.alloc (.cells #[.int .u8 0, .int .u8 0, .int .u8 0, .int .u8 0, .int .u8 0, .int .u8 0, .int .u8 0, .int .u8 0, .int .u8 0, .int .u8 0, .int .u8 0, .int .u8 0, .int .u8 0, .int .u8 0, .int .u8 0, .int .u8 0] 39)) = wA at *
            generalize w4.heap.size = pb at *
            have hBw := hB0A
            refine wpAnyH_ready (rs := [5]) (by kernel_rfl) (by simp) ?_
            refine AllReadyH.cons rfl (fun KK hK => ?_) AllReadyH.nil
            rw [if_pos (by rfl)]
            refine wp_store_mid 39 (.tmp 11) (.tmp 29) rfl pb 0 (bA 16 (fun j => Gf.dec W m X j ^^^ Y j)) rfl rfl (by rw [bA_size]; exact HZ.there) (by rw [bA_size]; exact Try.sizeSt) (bA_one _ _) ?_
            rw [bA_toList]
            obtain ⟨H', HZ', hz'⟩ := unc_store H HZ hbp (by omega) (by omega) (by omega) (fun k hk => by simp [Value.ownBlock] at hk; omega) (fun j => Gf.dec W m X j ^^^ Y j)
            refine hK.out _ _ H' (fun _ => ?_)
            clear hK KK
            refine wpAnyH_done (by kernel_rfl) ?_ _
            refine NoPanic.normal ?_
            change Exit.then _ _ Exit.normal { tmps := #[_, _, _, _, _, _, _, _, _, _, _, _, _, _, _, _, _, _, _, _, _, _, _, _, _, _, _, _, _, _, _, _, _, _, _, _], defers := [] } _
            generalize (wA.setCells pb 0 (bv 16 (fun j => Gf.dec W m X j ^^^ Y j))) = wF at *
            generalize (bv 16 X).toArray = q1
            generalize (bv 16 Y).toArray = q2
            generalize bA 16 (Gf.dec W m X) = q3
            generalize bA 16 (fun j => Gf.dec W m X j ^^^ Y j) = q4
            go_wp2_with fail
            go_meet
            exact ⟨pb, rfl, HZ', hbp, H', Nat.le_trans hBw hz'⟩
          · go_simp
            have hgp : gb < w3.heap.size := (H.2.2.2.1.lt gb rfl).2
            have hpB : B0 ≤ w3.heap.size := by have h9 : max B0 (bb + 1) ≤ w3.heap.size := hs3; omega
            replace H : UNC w Cb m bb ab B0 W X Y (.slice (some ⟨gb, 0, none⟩) (16 * i) gc) (16 * i) OUT ((w3.alloc (.cells #[.int .u8 0, .int .u8 0, .int .u8 0, .int .u8 0, .int .u8 0, .int .u8 0, .int .u8 0, .int .u8 0, .int .u8 0, .int .u8 0, .int .u8 0, .int .u8 0, .int .u8 0, .int .u8 0, .int .u8 0, .int .u8 0] 39))) := UNC.below H ((Below.refl _ _).alloc (Nat.le_refl _) _)
            have HZ : Row8 ((w3.alloc (.cells #[.int .u8 0, .int .u8 0, .int .u8 0, .int .u8 0, .int .u8 0, .int .u8 0, .int .u8 0, .int .u8 0, .int .u8 0, .int .u8 0, .int .u8 0, .int .u8 0, .int .u8 0, .int .u8 0, .int .u8 0, .int .u8 0] 39))) w3.heap.size 39 16 (fun _ => 0) := Row8.z16At (w := w3) rfl _
            have hsA : w3.heap.size < ((w3.alloc (.cells #[.int .u8 0, .int .u8 0, .int .u8 0, .int .u8 0, .int .u8 0, .int .u8 0, .int .u8 0, .int .u8 0, .int .u8 0, .int .u8 0, .int .u8 0, .int .u8 0, .int .u8 0, .int .u8 0, .int .u8 0, .int .u8 0] 39))).heap.size := by simp
            have hbp : bb < w3.heap.size := by have h9 : max B0 (bb + 1) ≤ w3.heap.size := hs3; omega
            have hB0A : B0 ≤ ((w3.alloc (.cells #[.int .u8 0, .int .u8 0, .int .u8 0, .int .u8 0, .int .u8 0, .int .u8 0, .int .u8 0, .int .u8 0, .int .u8 0, .int .u8 0, .int .u8 0, .int .u8 0, .int .u8 0, .int .u8 0, .int .u8 0, .int .u8 0] 39))).heap.size := Nat.le_trans hpB (Nat.le_of_lt hsA)
            refine hK.out _ _ H (fun _ => ?_)
            clear hK KK
            change wpAnyH _ _ _ _ _ _ _ { tmps := #[_, _, _, _, _, _, _, _, _, _, _, _, _, _, _, _, _, _, _, _, _, _, _, _, _, _, _, _, _, _, _, _, _, _, _, _], defers := [] } _
            generalize (w3.alloc (.cells #[.int .u8 0, .int .u8 0, .int .u8 0, .int .u8 0, .int .u8 0, .int .u8 0, .int .u8 0, .int .u8 0, .int .u8 0, .int .u8 0, .int .u8 0, .int .u8 0, .int .u8 0, .int .u8 0, .int .u8 0, .int .u8 0] 39)) = wA at *
            generalize w3.heap.size = pb at *
            have hBw0 := hB0A
            refine wpAnyH_ready (rs := [3]) (by kernel_rfl) (by simp) ?_
            refine AllReadyH.cons rfl (fun KK hK => ?_) AllReadyH.nil
            go_simp
            refine (AD.out _).mono ?_
            rintro e w4 ⟨rfl, hb4⟩
            replace H := UNC.below H hb4
            replace HZ := Row8.below HZ hb4
            have hs4 := Nat.le_trans hBw0 hb4.size
            refine hK.out _ _ H (fun _ => ?_)
            clear hK KK hb4
            change wpAnyH _ _ _ _ _ _ _ { tmps := #[_, _, _, _, _, _, _, _, _, _, _, _, _, _, _, _, _, _, _, _, _, _, _, _, _, _, _, _, _, _, _, _, _, _, _, _], defers := [] } _
            have hBw := hs4
            refine wpAnyH_ready (rs := [5]) (by kernel_rfl) (by simp) ?_
            refine AllReadyH.cons rfl (fun KK hK => ?_) AllReadyH.nil
            rw [if_pos (by rfl)]
            refine wp_store_mid 39 (.tmp 11) (.tmp 29) rfl pb 0 (bA 16 (fun j => Gf.dec W m X j ^^^ Y j)) rfl rfl (by rw [bA_size]; exact HZ.there) (by rw [bA_size]; exact Try.sizeSt) (bA_one _ _) ?_
            rw [bA_toList]
            obtain ⟨H', HZ', hz'⟩ := unc_store H HZ hbp (by omega) (by omega) (by omega) (fun k hk => by simp [Value.ownBlock] at hk; omega) (fun j => Gf.dec W m X j ^^^ Y j)
            refine hK.out _ _ H' (fun _ => ?_)
            clear hK KK
            refine wpAnyH_done (by kernel_rfl) ?_ _
            refine NoPanic.normal ?_
            change Exit.then _ _ Exit.normal { tmps := #[_, _, _, _, _, _, _, _, _, _, _, _, _, _, _, _, _, _, _, _, _, _, _, _, _, _, _, _, _, _, _, _, _, _, _, _], defers := [] } _
            generalize (wA.setCells pb 0 (bv 16 (fun j => Gf.dec W m X j ^^^ Y j))) = wF at *
            generalize (bv 16 X).toArray = q1
            generalize (bv 16 Y).toArray = q2
            generalize bA 16 (Gf.dec W m X) = q3
            generalize bA 16 (fun j => Gf.dec W m X j ^^^ Y j) = q4
            go_wp2_with fail
            go_meet
            exact ⟨pb, rfl, HZ', hbp, H', Nat.le_trans hBw hz'⟩
        · have HSb := hbase
          go_simp
          have hgp : gb < w2.heap.size := (H.2.2.2.1.lt gb rfl).2
          have hpB : B0 ≤ w2.heap.size := by have h9 : max B0 (bb + 1) ≤ w2.heap.size := HSb; omega
          replace H : UNC w Cb m bb ab B0 W X Y (.slice (some ⟨gb, 0, none⟩) (16 * i) gc) (16 * i) OUT ((w2.alloc (.cells #[.int .u8 0, .int .u8 0, .int .u8 0, .int .u8 0, .int .u8 0, .int .u8 0, .int .u8 0, .int .u8 0, .int .u8 0, .int .u8 0, .int .u8 0, .int .u8 0, .int .u8 0, .int .u8 0, .int .u8 0, .int .u8 0] 39)).drew) := UNC.below H ((Below.refl _ _).alloc (Nat.le_refl _) _)
          have HZ : Row8 ((w2.alloc (.cells #[.int .u8 0, .int .u8 0, .int .u8 0, .int .u8 0, .int .u8 0, .int .u8 0, .int .u8 0, .int .u8 0, .int .u8 0, .int .u8 0, .int .u8 0, .int .u8 0, .int .u8 0, .int .u8 0, .int .u8 0, .int .u8 0] 39)).drew) w2.heap.size 39 16 (fun _ => 0) := Row8.z16At (w := w2) rfl _
          have hsA : w2.heap.size < ((w2.alloc (.cells #[.int .u8 0, .int .u8 0, .int .u8 0, .int .u8 0, .int .u8 0, .int .u8 0, .int .u8 0, .int .u8 0, .int .u8 0, .int .u8 0, .int .u8 0, .int .u8 0, .int .u8 0, .int .u8 0, .int .u8 0, .int .u8 0] 39)).drew).heap.size := by simp
          have hbp : bb < w2.heap.size := by have h9 : max B0 (bb + 1) ≤ w2.heap.size := HSb; omega
          have hB0A : B0 ≤ ((w2.alloc (.cells #[.int .u8 0, .int .u8 0, .int .u8 0, .int .u8 0, .int .u8 0, .int .u8 0, .int .u8 0, .int .u8 0, .int .u8 0, .int .u8 0, .int .u8 0, .int .u8 0, .int .u8 0, .int .u8 0, .int .u8 0, .int .u8 0] 39)).drew).heap.size := Nat.le_trans hpB (Nat.le_of_lt hsA)
          refine hK.out _ _ H (fun _ => ?_)
          clear hK KK
          change wpAnyH _ _ _ _ _ _ _ { tmps := #[_, _, _, _, _, _, _, _, _, _, _, _, _, _, _, _, _, _, _, _, _, _, _, _, _, _, _, _, _, _, _, _, _, _, _, _], defers := [] } _
          generalize (w2.alloc (.cells #[.int .u8 0, .int .u8 0, .int .u8 0, .int .u8 0, .int .u8 0, .int .u8 0, .int .u8 0, .int .u8 0, .int .u8 0, .int .u8 0, .int .u8 0, .int .u8 0, .int .u8 0, .int .u8 0, .int .u8 0, .int .u8 0] 39)).drew = wA at *
          generalize w2.heap.size = pb at *
          have hBw0 := hB0A
          refine wpAnyH_ready (rs := [1]) (by kernel_rfl) (by simp) ?_
          refine AllReadyH.cons rfl (fun KK hK => ?_) AllReadyH.nil
          go_simp
          refine (DE.out _ H.2.2.1).mono ?_
          rintro e w3 ⟨rfl, hb3⟩
          replace H := UNC.below H hb3
          replace HZ := Row8.below HZ hb3
          have hs3 := Nat.le_trans hBw0 hb3.size
          refine hK.out _ _ H (fun _ => ?_)
          clear hK KK hb3
          change wpAnyH _ _ _ _ _ _ _ { tmps := #[_, _, _, _, _, _, _, _, _, _, _, _, _, _, _, _, _, _, _, _, _, _, _, _, _, _, _, _, _, _, _, _, _, _, _, _], defers := [] } _
          refine wpAnyH_ready (rs := [3]) (by kernel_rfl) (by simp) ?_
          refine AllReadyH.cons rfl (fun KK hK => ?_) AllReadyH.nil
          go_simp
          refine (AD.out _).mono ?_
          rintro e w4 ⟨rfl, hb4⟩
          replace H := UNC.below H hb4
          replace HZ := Row8.below HZ hb4
          have hs4 := Nat.le_trans hs3 hb4.size
          refine hK.out _ _ H (fun _ => ?_)
          clear hK KK hb4
          change wpAnyH _ _ _ _ _ _ _ { tmps := #[_, _, _, _, _, _, _, _, _, _, _, _, _, _, _, _, _, _, _, _, _, _, _, _, _, _, _, _, _, _, _, _, _, _, _, _], defers := [] } _
          have hBw := hs4
          refine wpAnyH_ready (rs := [5]) (by kernel_rfl) (by simp) ?_
          refine AllReadyH.cons rfl (fun KK hK => ?_) AllReadyH.nil
          rw [if_pos (by rfl)]
          refine wp_store_mid 39 (.tmp 11) (.tmp 29) rfl pb 0 (bA 16 (fun j => Gf.dec W m X j ^^^ Y j)) rfl rfl (by rw [bA_size]; exact HZ.there) (by rw [bA_size]; exact Try.sizeSt) (bA_one _ _) ?_
          rw [bA_toList]
          obtain ⟨H', HZ', hz'⟩ := unc_store H HZ hbp (by omega) (by omega) (by omega) (fun k hk => by simp [Value.ownBlock] at hk; omega) (fun j => Gf.dec W m X j ^^^ Y j)
          refine hK.out _ _ H' (fun _ => ?_)
          clear hK KK
          refine wpAnyH_done (by kernel_rfl) ?_ _
          refine NoPanic.normal ?_
          change Exit.then _ _ Exit.normal { tmps := #[_, _, _, _, _, _, _, _, _, _, _, _, _, _, _, _, _, _, _, _, _, _, _, _, _, _, _, _, _, _, _, _, _, _, _, _], defers := [] } _
          generalize (wA.setCells pb 0 (bv 16 (fun j => Gf.dec W m X j ^^^ Y j))) = wF at *
          generalize (bv 16 X).toArray = q1
          generalize (bv 16 Y).toArray = q2
          generalize bA 16 (Gf.dec W m X) = q3
          generalize bA 16 (fun j => Gf.dec W m X j ^^^ Y j) = q4
          go_wp2_with fail
          go_meet
          exact ⟨pb, rfl, HZ', hbp, H', Nat.le_trans hBw hz'⟩
      case rest =>
        obtain ⟨pb, rfl, hrow, hbp, hU, hB07⟩ := hcut
        clear H HU0 hB01 DE AD
        obtain ⟨hX7, hY7, hC7, hO7, hB7⟩ := hU
        have HX7 : Hid (Row8 wc bb 39 16 X) := hX7
        have HY7 : Hid (Row8 wc ab 39 16 Y) := hY7
        have CC7 : Hid (CiphAt wc Cb m W) := hC7
        have HO7 : Hid (wc.ownsRow B0 5 1 (.slice (some ⟨gb, 0, none⟩) (16 * i) gc) (16 * i) OUT) := hO7
        have HB7 : Hid (Below w.heap.size w wc) := hB7
        have HP7 : Hid (Row8 wc pb 39 16 (fun j => Gf.dec W m X j ^^^ Y j)) := hrow
        have HNW : Hid (Code8 wc (some ⟨pb, 0, none⟩) 16 (fun j => Gf.dec W m X j ^^^ Y j)) := code8_of (fun j hj => by rw [Nat.zero_add]; exact World.rowIs.cell hrow hj)
        have hgb7 := hO7.lt gb rfl
        have hbbB : B0 ≤ bb := hB0bb
        clear hX7 hY7 hC7 hO7 hB7 hrow
        go_upto_region 9 with (at_builtin; refine wpList_append_own _ rfl _ _ 22 rfl B0 5 i0 (.int .u8 0) 1 1 Try.underlying22 HI.out.1 HI.out.2.1 HI.out.2.2.1 HI.out.2.2.2 rfl (by decide) (.slice (some ⟨gb, 0, none⟩) (16 * i) gc) (16 * i) OUT rfl HO7.out ⟨pb, 0, none⟩ 16 16 (bv 16 (fun j => Gf.dec W m X j ^^^ Y j)) rfl (by rw [bv_length]) (bv_news HNW.out) (bv_one _ _) (by unfold maxLen; omega) (by omega) hB07 ?_)
        intro v8 w8 hown8 hgrow8 hnil8
        have X8 : OnlyB gb wc w8 := ⟨hgrow8.os, hgrow8.tape, hgrow8.output, hgrow8.size, fun k hk hn => hgrow8.block k hk (by simp [Value.ownBlock]; exact hn)⟩
        have hgbb : gb < bb := Nat.lt_of_lt_of_le hgbr hw1
        have HX8 : Hid (Row8 w8 bb 39 16 X) := HX7.out.onlyB X8 (by omega)
        have HY8 : Hid (Row8 w8 ab 39 16 Y) := HY7.out.onlyB X8 (by omega)
        have CC8 : Hid (CiphAt w8 Cb m W) := CC7.out.onlyBe X8 (by omega)
        have HB8 : Hid (Below w.heap.size w w8) := HB7.out.trans (X8.toBelow (by omega) HB7.out.size)
        have hB8 : B0 ≤ w8.heap.size := Nat.le_trans hB07 X8.size
        have hown8' : w8.ownsRow B0 5 1 v8 (16 * (i + 1)) (bv (16 * (i + 1)) (cbcD W m iv c)) := by
          have e : OUT ++ bv 16 (fun j => Gf.dec W m X j ^^^ Y j) = bv (16 * (i + 1)) (cbcD W m iv c) := by
            rw [← HOUT.out, bv_append, Nat.mul_add]
            refine bv_congr (fun x hx => ?_)
            by_cases e : x < 16 * i
            · rw [if_pos e]
            · rw [if_neg e]
              have := HPl.out (x - 16 * i) (by omega)
              rwa [show 16 * i + (x - 16 * i) = x from by omega] at this
          rw [← e, Nat.mul_add]; exact hown8
        obtain ⟨gb8, gc8, ⟨hgb8, hgc8⟩, rfl, -⟩ := own8_of_own (n := 16 * (i + 1)) hown8' hnil8
        have X9 : OnlyB ab w8.drew (w8.drew.setCells ab 0 (bv 16 X)) := onlyB_setCells _ _ _ (OnlyB.refl _ _)
        have HX9 : Row8 w8.drew bb 39 16 X := HX8.out
        have HY9 : Row8 w8.drew ab 39 16 Y := HY8.out
        have HX10 : Row8 (w8.drew.setCells ab 0 (bv 16 X)) bb 39 16 X := HX9.onlyB X9 (by omega)
        have HY10 : Hid (Row8 (w8.drew.setCells ab 0 (bv 16 X)) ab 39 16 X) := HY9.stored _
        have CC9 : Hid (CiphAt (w8.drew.setCells ab 0 (bv 16 X)) Cb m W) := CiphAt.onlyBe (w := w8.drew) CC8.out X9 hCa
        have HO9 : Hid ((w8.drew.setCells ab 0 (bv 16 X)).ownsRow B0 5 1 (.slice (some ⟨gb8, 0, none⟩) (16 * (i + 1)) gc8) (16 * (i + 1)) (bv (16 * (i + 1)) (cbcD W m iv c))) := ownsRow_ne (w := w8.drew) hown8' X9 (fun k hk => by simp [Value.ownBlock] at hk; omega)
        have HB9 : Hid (Below w.heap.size w (w8.drew.setCells ab 0 (bv 16 X))) := HB8.out.drew.trans (X9.toBelow hwa HB8.out.drew.size)
        have hB9 : B0 ≤ (w8.drew.setCells ab 0 (bv 16 X)).heap.size := Nat.le_trans hB8 X9.size
        clear hown8 hown8' hgrow8 hnil8 X8 X9 HX7 HY7 CC7 HO7 HB7 HP7 HNW HOUT HPl
        by_cases hc16 : cr = 16
        · have hL16 : L - 16 = 0 := by omega
          go_upto_region 9 with fail
          refine wp_region_noPanic ?_
          refine wp_region_held_drew (S := fun w' => Row8 w' bb 39 16 X) (by kernel_rfl) HX9 (fun _ => ?_)
          refine wpAnyH_take (i := 0) (v := .agg (bv 16 X).toArray) rfl (by kernel_rfl) (by kernel_rfl) (by kernel_rfl) (fun _ _ _ h => h) (yieldsIf_load_mid (by rfl) 39 (.tmp 10) rfl bb 0 rfl (bv 16 X) _ (fun w h => h.range) Try.underlying39 rfl (by rw [bv_length]; exact Try.sizeSt)) HX9 ?_
          change wpAnyH _ _ _ _ _ _ _ { tmps := #[_, _, _, _, _, _, _, _, _, _, _, _, _, _, _, _, _, _, _, _, _, _, _, _, _, _, _, _, _, _, _, _, _, _, _, _], defers := [] } _
          refine wpAnyH_take (i := 1) (v := .slice (some ⟨b, o + 16 * i, none⟩) L cr) rfl (by kernel_rfl) (by kernel_rfl) (by kernel_rfl) (fun _ _ _ h => h) (Or.inl ⟨by rfl, ?_⟩) HX9 ?_
          · intro w hSw; go_simp
          change wpAnyH _ _ _ _ _ _ _ { tmps := #[_, _, _, _, _, _, _, _, _, _, _, _, _, _, _, _, _, _, _, _, _, _, _, _, _, _, _, _, _, _, _, _, _, _, _, _], defers := [] } _
          refine wpAnyH_take (i := 2) (v := .slice (some ⟨b, o + 16 * i, none⟩) (L - 16) (cr - 16)) rfl (by kernel_rfl) (by kernel_rfl) (by kernel_rfl) (fun _ _ _ h => h) (Or.inl ⟨by rfl, ?_⟩) HX9 ?_
          · intro w hSw; go_simp
          change wpAnyH _ _ _ _ _ _ _ { tmps := #[_, _, _, _, _, _, _, _, _, _, _, _, _, _, _, _, _, _, _, _, _, _, _, _, _, _, _, _, _, _, _, _, _, _, _, _], defers := [] } _
          refine wpAnyH_ready (rs := [3]) (by kernel_rfl) (by simp) ?_
          refine AllReadyH.cons rfl (fun KK hK => ?_) AllReadyH.nil
          rw [if_pos (by rfl)]
          refine wp_store_mid 39 (.tmp 4) (.tmp 33) rfl ab 0 (bA 16 X) rfl rfl (by rw [bA_size]; exact HY9.there) (by rw [bA_size]; exact Try.sizeSt) (bA_one _ _) ?_
          rw [bA_toList]
          refine hK.out _ _ HX10 (fun _ => ?_)
          clear hK KK
          change wpAnyH _ _ _ _ _ _ _ { tmps := #[_, _, _, _, _, _, _, _, _, _, _, _, _, _, _, _, _, _, _, _, _, _, _, _, _, _, _, _, _, _, _, _, _, _, _, _], defers := [] } _
          refine wpAnyH_ready (rs := [4]) (by kernel_rfl) (by simp) ?_
          refine AllReadyH.cons rfl (fun KK hK => ?_) AllReadyH.nil
          go_simp
          refine hK.out _ _ HX10 (fun _ => ?_)
          clear hK KK
          refine wpAnyH_done (by kernel_rfl) ?_ _
          refine NoPanic.normal ?_
          change Exit.then _ _ Exit.normal { tmps := #[_, _, _, _, _, _, _, _, _, _, _, _, _, _, _, _, _, _, _, _, _, _, _, _, _, _, _, _, _, _, _, _, _, _, _, _], defers := [] } _
          generalize w8.drew.setCells ab 0 (bv 16 X) = w9 at *
          generalize (bv 16 X).toArray = q1
          go_wp2_with fail
          go_step3
          refine ⟨rfl, ⟨Cb, ab, B0, ⟨hCB, haB, hwa, hwC, hCa⟩, i + 1, gb8, gc8, _, _, _, _, _, _, _, _, _, _, _, _, _, _, _, _, _, _, _, _, _, _, _, _, _, _, _, _, _, _, _, _, _, _, _, rfl, by have := HL.out; omega, by omega, ?_, by omega, HO9.out, ?_, CC9.out, HB9.out, hB9⟩, ?_⟩
          · intro h9; have := HL.out; omega
          · rw [HPv.out]; exact HY10.out
          · show _ < L; simp [lenOf]; omega
        · go_upto_region 9 with fail
          refine wp_region_noPanic ?_
          refine wp_region_held_drew (S := fun w' => Row8 w' bb 39 16 X) (by kernel_rfl) HX9 (fun _ => ?_)
          refine wpAnyH_take (i := 0) (v := .agg (bv 16 X).toArray) rfl (by kernel_rfl) (by kernel_rfl) (by kernel_rfl) (fun _ _ _ h => h) (yieldsIf_load_mid (by rfl) 39 (.tmp 10) rfl bb 0 rfl (bv 16 X) _ (fun w h => h.range) Try.underlying39 rfl (by rw [bv_length]; exact Try.sizeSt)) HX9 ?_
          change wpAnyH _ _ _ _ _ _ _ { tmps := #[_, _, _, _, _, _, _, _, _, _, _, _, _, _, _, _, _, _, _, _, _, _, _, _, _, _, _, _, _, _, _, _, _, _, _, _], defers := [] } _
          refine wpAnyH_take (i := 1) (v := .slice (some ⟨b, o + 16 * i, none⟩) L cr) rfl (by kernel_rfl) (by kernel_rfl) (by kernel_rfl) (fun _ _ _ h => h) (Or.inl ⟨by rfl, ?_⟩) HX9 ?_
          · intro w hSw; go_simp
          change wpAnyH _ _ _ _ _ _ _ { tmps := #[_, _, _, _, _, _, _, _, _, _, _, _, _, _, _, _, _, _, _, _, _, _, _, _, _, _, _, _, _, _, _, _, _, _, _, _], defers := [] } _
          refine wpAnyH_take (i := 2) (v := .slice (some ⟨b, o + 16 * i + 16, none⟩) (L - 16) (cr - 16)) rfl (by kernel_rfl) (by kernel_rfl) (by kernel_rfl) (fun _ _ _ h => h) (Or.inl ⟨by rfl, ?_⟩) HX9 ?_
          · intro w hSw; go_simp
          change wpAnyH _ _ _ _ _ _ _ { tmps := #[_, _, _, _, _, _, _, _, _, _, _, _, _, _, _, _, _, _, _, _, _, _, _, _, _, _, _, _, _, _, _, _, _, _, _, _], defers := [] } _
          refine wpAnyH_ready (rs := [3]) (by kernel_rfl) (by simp) ?_
          refine AllReadyH.cons rfl (fun KK hK => ?_) AllReadyH.nil
          rw [if_pos (by rfl)]
          refine wp_store_mid 39 (.tmp 4) (.tmp 33) rfl ab 0 (bA 16 X) rfl rfl (by rw [bA_size]; exact HY9.there) (by rw [bA_size]; exact Try.sizeSt) (bA_one _ _) ?_
          rw [bA_toList]
          refine hK.out _ _ HX10 (fun _ => ?_)
          clear hK KK
          change wpAnyH _ _ _ _ _ _ _ { tmps := #[_, _, _, _, _, _, _, _, _, _, _, _, _, _, _, _, _, _, _, _, _, _, _, _, _, _, _, _, _, _, _, _, _, _, _, _], defers := [] } _
          refine wpAnyH_ready (rs := [4]) (by kernel_rfl) (by simp) ?_
          refine AllReadyH.cons rfl (fun KK hK => ?_) AllReadyH.nil
          go_simp
          refine hK.out _ _ HX10 (fun _ => ?_)
          clear hK KK
          refine wpAnyH_done (by kernel_rfl) ?_ _
          refine NoPanic.normal ?_
          change Exit.then _ _ Exit.normal { tmps := #[_, _, _, _, _, _, _, _, _, _, _, _, _, _, _, _, _, _, _, _, _, _, _, _, _, _, _, _, _, _, _, _, _, _, _, _], defers := [] } _
          generalize w8.drew.setCells ab 0 (bv 16 X) = w9 at *
          generalize (bv 16 X).toArray = q1
          go_wp2_with fail
          go_step3
          refine ⟨rfl, ⟨Cb, ab, B0, ⟨hCB, haB, hwa, hwC, hCa⟩, i + 1, gb8, gc8, _, _, _, _, _, _, _, _, _, _, _, _, _, _, _, _, _, _, _, _, _, _, _, _, _, _, _, _, _, _, _, _, _, _, _, rfl, by have := HL.out; omega, by omega, ?_, by omega, HO9.out, ?_, CC9.out, HB9.out, hB9⟩, ?_⟩
          · intro _; rw [Nat.mul_add, Nat.add_assoc]
          · rw [HPv.out]; exact HY10.out
          · show _ < L; simp [lenOf]; omega
    · obtain rfl : L = 0 := by omega
      have en : 16 * i = n := by omega
      obtain ⟨gb8, gc8, ⟨hgb8, hgc8⟩, e8, ho8⟩ := own8_of_own (n := 16 * i) HO.out (by intro e; cases e)
      cases e8
      have HO2 : Hid (Own8 wr gb n (cbcD W m iv c)) := by show Own8 wr gb n _; rw [← en]; exact ho8
      have HGC : Hid (n ≤ gc) := by show n ≤ gc; omega
      have hgw : w.heap.size ≤ gb := by omega
      have EN : Hid (16 * i = n) := en
      clear HO HR CC hra hL LI LC LV ho8 en hgc8
      go_wp2
      rw [jump_ret]
      refine bodyPost_ret (v := .slice (some ⟨gb, 0, none⟩) n gc) ?_ rfl ⟨⟨gb, gc, ⟨hgw, HGC.out⟩, rfl, HO2.out⟩, HB.out⟩
      rw [← EN.out]
      exact results_tmp Try.results35 _ _ _
  · intro hp
    have Z1 : Hid (Row8 (w.alloc (.cells (bA 16 iv) 39)) w.heap.size 39 16 iv) := Row8.boxedAt rfl _ _ _
    have Bz : Hid (Below w.heap.size w (w.alloc (.cells (bA 16 iv) 39))) := (Below.refl _ _).alloc (Nat.le_refl _) _
    have hsz0 : (w.alloc (.cells (bA 16 iv) 39)).heap.size = w.heap.size + 1 := by simp
    go_upto_region 1 with fail
    generalize w.alloc (.cells (bA 16 iv) 39) = w0 at *
    generalize bA 16 iv = IA at *
    go_upto_region 2 with (first
      | (go_at_call 25; refine (NC.out _).mono ?_; rintro e w1 ⟨rfl, hb⟩)
      | (refine wpList_store_mid rfl 44 (.tmp 7) (.tmp 13) rfl _ 0 CA rfl rfl ?_ S2.out O2.out ?_))
    · rw [HSZ.out]; exact there_big w1 Z _ hZ
    · have R1 : ((w1.alloc (.cells Z 44)).setCells w1.heap.size 0 CA.toList).rangeAt w1.heap.size 0 CA.toList := World.rangeAt_setCells_same _ _ _ _ (by rw [hLen]; exact there_big w1 Z _ hZ)
      have CC : Hid (CiphAt ((w1.alloc (.cells Z 44)).setCells w1.heap.size 0 CA.toList) w1.heap.size m W) := fun k hk => by
        have := R1 k _ (hAt.out k hk)
        rwa [Nat.zero_add] at this
      have hsz := hb.size
      have B01 : Below w0.heap.size w0 ((w1.alloc (.cells Z 44)).setCells w1.heap.size 0 CA.toList) := below_setCells hsz _ _ _ (hb.alloc hsz _)
      have B1 : Hid (Below w.heap.size w ((w1.alloc (.cells Z 44)).setCells w1.heap.size 0 CA.toList)) := Bz.out.trans (B01.mono Bz.out.size)
      have HR1 : Hid (Row8 ((w1.alloc (.cells Z 44)).setCells w1.heap.size 0 CA.toList) w.heap.size 39 16 iv) := Z1.out.below B01
      rw [hsz0] at hsz
      clear R1 hb NC S2 O2 hLen hAt HSZ z0 hZ HC B01 Z1 Bz hsz0
      generalize (w1.alloc (.cells Z 44)).setCells w1.heap.size 0 CA.toList = wz at *
      generalize w1.heap.size = Cb at *
      obtain ⟨wm, hmk, hom, hbm⟩ := mkRoom n (by omega) wz
      have HOm : Hid (wm.ownsRow wz.heap.size 5 1 (.slice (some ⟨wz.heap.size, 0, none⟩) 0 n) 0 []) := hom
      have CCm : Hid (CiphAt wm Cb m W) := CC.out.below hbm
      have HRm : Hid (Row8 wm w.heap.size 39 16 iv) := HR1.out.below hbm
      have HBm : Hid (Below w.heap.size w wm) := B1.out.trans (hbm.mono B1.out.size)
      have hsm := hbm.size
      have hCz := CC.out.lt
      have haz := HR1.out.lt
      clear hom hbm CC HR1 B1
      go_upto_region 3 with fail
      clear hmk
      generalize wz.heap.size = B0 at *
      go_wp2_with fail
      go_step3
      rename_i hKx
      refine hKx _ _ (hp _ _ ⟨Cb, w.heap.size, B0, ⟨hCz, haz, Nat.le_refl _, by omega, by omega⟩, 0, B0, n, _, _, cp, _, _, _, _, _, _, _, _, _, _, _, _, _, _, _, _, _, _, _, _, _, _, _, _, _, _, _, _, _, _, _, _, rfl, by omega, by omega, fun _ => rfl, by omega, HOm.out, HRm.out.congr (fun j _ => rfl), CCm.out, HBm.out, hsm⟩)
end Go.Proofs.Ytbhlgcenfanicaa

/-
  The contract of impl.CbcDecrypt.
-/
namespace Go.Proofs.Ytbhlgcenfanicaa
open Go.ChangeShapes Go.WideShapes Go.ChangeAt Go.RowKit
theorem implDcb_no (k s : ByteArray) (a : Option Addr) (n c : Nat) (code : Int) (hc : code ≠ 0) (hf : ∀ w : World, Calls Try.prog 24 #[.string k, .string s, .int .i64 16, .int .i64 (n : Int), .int .i64 65536] w fun e w' => e = .returned (.int .i64 code) ∧ w = w') (w : World) :
    Calls Try.prog 13 #[.string k, .string s, .slice a n c] w fun e w' => e = .returned (.tuple #[.slice none 0 0, .int .i64 code]) ∧ w = w' := by
  have HF : Hid (∀ w : World, Calls Try.prog 24 #[.string k, .string s, .int .i64 16, .int .i64 (n : Int), .int .i64 65536] w fun e w' => e = .returned (.int .i64 code) ∧ w = w') := hf
  have e1 : (code != 0) = true := by rw [bne_iff_ne]; exact hc
  clear hf
  go_enter Try.func13, Try.ntmps13
  go_wp2_with (go_at_call 24; refine (HF.out _).mono ?_; rintro e w' ⟨rfl, rfl⟩)
  go_ret2
  exact ⟨rfl, rfl⟩
theorem implDcb_part (k s : ByteArray) (a : Option Addr) (n c : Nat) (hk : k.size = 16 ∨ k.size = 32) (hs : s.size = 16) (hn : n ≤ 65536) (h16 : n % 16 ≠ 0) (w : World) :
    Calls Try.prog 13 #[.string k, .string s, .slice a n c] w fun e w' => e = .returned (.tuple #[.slice none 0 0, .int .i64 3]) ∧ w = w' := by
  have HF : Hid (∀ w : World, Calls Try.prog 24 #[.string k, .string s, .int .i64 16, .int .i64 (n : Int), .int .i64 65536] w fun e w' => e = .returned (.int .i64 0) ∧ w = w') := mf_ok k s 16 n 65536 (by omega) hk (by omega) (by omega)
  have e1 : ((n : Int) % 16 != 0) = true := by rw [bne_iff_ne]; omega
  clear hk hs
  go_enter Try.func13, Try.ntmps13
  go_wp2_with (go_at_call 24; refine (HF.out _).mono ?_; rintro e w' ⟨rfl, rfl⟩)
  go_ret2
  exact ⟨rfl, rfl⟩
set_option maxRecDepth 100000 in
set_option maxHeartbeats 2000000 in
theorem implDcb_form (k s : ByteArray) (kn b o n cp : Nat) (c : Nat → Nat) (hkn : kn = 4 ∨ kn = 8) (hk : k.size = kn * 4) (hs : s.size = 16) (hn : n ≤ 65536) (h16 : n % 16 = 0) (hncp : n ≤ cp) (hc : ∀ i, c i < 256) (hu : ¬ UnOK n (cbcD (Gf.ws (strB k) kn (3 * kn + 28)) (kn + 6) (strB s) c)) (w : World) (h : Code8 w (some ⟨b, o, none⟩) n c) :
    Calls Try.prog 13 #[.string k, .string s, .slice (some ⟨b, o, none⟩) n cp] w fun e w' => e = .returned (.tuple #[.slice none 0 0, .int .i64 3]) ∧ Below w.heap.size w w' := by
  have HF : Hid (∀ w : World, Calls Try.prog 24 #[.string k, .string s, .int .i64 16, .int .i64 (n : Int), .int .i64 65536] w fun e w' => e = .returned (.int .i64 0) ∧ w = w') := mf_ok k s 16 n 65536 (by omega) (by omega) (by omega) (by omega)
  have SO : Hid (∀ w : World, Calls Try.prog 33 #[.string s] w fun e w' => e = .returned (.agg (bA 16 (strB s))) ∧ Below w.heap.size w w') := stateOf_le s (by omega)
  have UN : Hid (∀ w : World, Code8 w (some ⟨b, o, none⟩) n c → Calls Try.prog 35 #[.string k, .agg (bA 16 (strB s)), .slice (some ⟨b, o, none⟩) n cp] w fun e w' => RetB w w' e n (cbcD (Gf.ws (strB k) kn (3 * kn + 28)) (kn + 6) (strB s) c) ∧ Below w.heap.size w w') := fun w h => unchained_any k kn b o n cp (strB s) c hkn hk hn h16 hncp (strB_lt s) hc w h
  have lD : ∀ x, cbcD (Gf.ws (strB k) kn (3 * kn + 28)) (kn + 6) (strB s) c x < 256 := cbcD_lt (Gf.ws_lt (strB_lt k) _) (strB_lt s) hc
  generalize cbcD (Gf.ws (strB k) kn (3 * kn + 28)) (kn + 6) (strB s) c = D at *
  generalize bA 16 (strB s) = SA at *
  have US : Hid (∀ (g gc : Nat) (w : World), n ≤ gc → Code8 w (some ⟨g, 0, none⟩) n D → Calls Try.prog 36 #[.slice (some ⟨g, 0, none⟩) n gc] w fun e w' => e = .returned (.tuple #[.int .i64 0, .int .i64 3]) ∧ w = w') := fun g gc w hg h => unsz_any _ n gc D lD hn hg w h 0 3 (.inr ⟨hu, rfl, rfl⟩)
  have e1 : ((n : Int) % 16 != 0) = false := by rw [bne_eq_false_iff_eq]; omega
  have HC : Hid (Code8 w (some ⟨b, o, none⟩) n c) := h
  clear h hc hkn hk hs lD hu
  go_enter Try.func13, Try.ntmps13
  go_wp2_with (go_at_call 24; refine (HF.out _).mono ?_; rintro e w' ⟨rfl, rfl⟩)
  refine (SO.out _).mono ?_
  rintro e w1 ⟨rfl, hb1⟩
  have HB1 : Hid (Below w.heap.size w w1) := hb1
  have HC1 : Hid (Code8 w1 (some ⟨b, o, none⟩) n c) := HC.out.below hb1
  clear hb1 HC SO
  go_wp2_with fail
  refine (UN.out _ HC1.out).mono ?_
  rintro e w2 ⟨⟨g, gc, ⟨hg, hgc⟩, rfl, ho⟩, hb2⟩
  have HB2 : Hid (Below w.heap.size w w2) := HB1.out.trans (hb2.mono HB1.out.size)
  have HO2 : Hid (Own8 w2 g n D) := ho
  clear ho hb2 HB1 HC1 UN
  go_wp2_with fail
  refine (US.out _ _ _ hgc HO2.out.code).mono ?_
  rintro e w3 ⟨rfl, rfl⟩
  go_wp2
  go_ret2
  exact ⟨rfl, HB2.out⟩
set_option maxRecDepth 100000 in
set_option maxHeartbeats 2000000 in
theorem implDcb_yes (k s : ByteArray) (kn b o n cp : Nat) (c : Nat → Nat) (hkn : kn = 4 ∨ kn = 8) (hk : k.size = kn * 4) (hs : s.size = 16) (hn : n ≤ 65536) (h16 : n % 16 = 0) (hncp : n ≤ cp) (hc : ∀ i, c i < 256) (D : Nat → Nat) (hD : D = cbcD (Gf.ws (strB k) kn (3 * kn + 28)) (kn + 6) (strB s) c) (hu : UnOK n D) (w : World) (h : Code8 w (some ⟨b, o, none⟩) n c) :
    Calls Try.prog 13 #[.string k, .string s, .slice (some ⟨b, o, none⟩) n cp] w fun e w' => RetB2 w w' e (n - D (n - 1)) D (.int .i64 0) ∧ Below w.heap.size w w' := by
  have HF : Hid (∀ w : World, Calls Try.prog 24 #[.string k, .string s, .int .i64 16, .int .i64 (n : Int), .int .i64 65536] w fun e w' => e = .returned (.int .i64 0) ∧ w = w') := mf_ok k s 16 n 65536 (by omega) (by omega) (by omega) (by omega)
  have SO : Hid (∀ w : World, Calls Try.prog 33 #[.string s] w fun e w' => e = .returned (.agg (bA 16 (strB s))) ∧ Below w.heap.size w w') := stateOf_le s (by omega)
  have lD : ∀ x, D x < 256 := fun x => by rw [hD]; exact cbcD_lt (Gf.ws_lt (strB_lt k) _) (strB_lt s) hc x
  have UN : Hid (∀ w : World, Code8 w (some ⟨b, o, none⟩) n c → Calls Try.prog 35 #[.string k, .agg (bA 16 (strB s)), .slice (some ⟨b, o, none⟩) n cp] w fun e w' => RetB w w' e n D ∧ Below w.heap.size w w') := fun w h => by rw [hD]; exact unchained_any k kn b o n cp (strB s) c hkn hk hn h16 hncp (strB_lt s) hc w h
  generalize bA 16 (strB s) = SA at *
  have US : Hid (∀ (g gc : Nat) (w : World), n ≤ gc → Code8 w (some ⟨g, 0, none⟩) n D → Calls Try.prog 36 #[.slice (some ⟨g, 0, none⟩) n gc] w fun e w' => e = .returned (.tuple #[.int .i64 ((n - D (n - 1) : Nat) : Int), .int .i64 0]) ∧ w = w') := fun g gc w hg h => unsz_any _ n gc D lD hn hg w h _ 0 (.inl ⟨hu, rfl, rfl⟩)
  have e1 : ((n : Int) % 16 != 0) = false := by rw [bne_eq_false_iff_eq]; omega
  have HC : Hid (Code8 w (some ⟨b, o, none⟩) n c) := h
  have hq : n - D (n - 1) ≤ n := Nat.sub_le _ _
  generalize n - D (n - 1) = q at *
  clear h hc hkn hk hs lD hu hD
  go_enter Try.func13, Try.ntmps13
  go_wp2_with (go_at_call 24; refine (HF.out _).mono ?_; rintro e w' ⟨rfl, rfl⟩)
  refine (SO.out _).mono ?_
  rintro e w1 ⟨rfl, hb1⟩
  have HB1 : Hid (Below w.heap.size w w1) := hb1
  have HC1 : Hid (Code8 w1 (some ⟨b, o, none⟩) n c) := HC.out.below hb1
  have hw1 := hb1.size
  clear hb1 HC SO
  go_wp2_with fail
  refine (UN.out _ HC1.out).mono ?_
  rintro e w2 ⟨⟨g, gc, ⟨hg, hgc⟩, rfl, ho⟩, hb2⟩
  have HB2 : Hid (Below w.heap.size w w2) := HB1.out.trans (hb2.mono HB1.out.size)
  have HO2 : Hid (Own8 w2 g n D) := ho
  clear ho hb2 HB1 HC1 UN
  go_wp2_with fail
  refine (US.out _ _ _ hgc HO2.out.code).mono ?_
  rintro e w3 ⟨rfl, rfl⟩
  have x0 : (0 : Int) ≤ (q : Int) := by omega
  have x1 : (q : Int) ≤ (gc : Int) := by omega
  have HQ : Hid (Own8 w2 g q D) := HO2.out.part hq
  have hgw := Nat.le_trans hw1 hg
  go_wp2
  go_ret2
  exact ⟨⟨g, q, ⟨hgw, Nat.le_refl _⟩, rfl, HQ.out⟩, HB2.out⟩
end Go.Proofs.Ytbhlgcenfanicaa

/-
  The law of blocks decrypted: model, program, and the law's own look at both.
-/
namespace Go.Proofs.Ytbhlgcenfanicaa
open Go.ChangeShapes Go.WideShapes Go.ChangeAt Go.RowKit
theorem four_ints (w : World) (t : TypeId) : Ints (w.alloc (.cells #[.int .i64 14, .int .i64 11, .int .i64 13, .int .i64 9] t)) (some ⟨w.heap.size, 0, none⟩) 4 (fun i => (Gf.backF i : Nat)) := fun i hi => by
  refine ⟨w.heap.size, 0, rfl, ?_⟩
  rw [Nat.zero_add]
  rcases (show i = 0 ∨ i = 1 ∨ i = 2 ∨ i = 3 by omega) with rfl | rfl | rfl | rfl <;> simp [Gf.backF]
set_option maxRecDepth 100000 in
set_option maxHeartbeats 2000000 in
/-- spec.l01Decrypt -/
theorem l01Decrypt_any (pb po ck t m : Nat) (W : Nat → Nat) (hW : ∀ j, W j < 256) (hm : 1 ≤ m) (hm' : m ≤ 14) (s : ByteArray) (hs : s.size = 16) (w : World)
    (hk : Strs w (some ⟨pb, po, none⟩) (m + 1) (fun j => kstr W (j * 16) 16)) (ht : w.rowIs t 3 256 (fun j => .int .i64 (Gf.sub j : Nat))) :
    Calls Try.prog 44 #[.slice (some ⟨pb, po, none⟩) (m + 1) ck, .slice (some ⟨t, 0, none⟩) 256 256, .string s] w fun e w' => e = .returned (.string (kstr (Gf.dec W m (strB s)) 0 16)) ∧ Below w.heap.size w w' := by
  obtain ⟨_, _, hab, hcells⟩ := hk.opened (by omega)
  cases hab
  have HK : Hid (∀ i, i < m + 1 → w.cell? ⟨pb, po + i, none⟩ = some (.string (kstr W (i * 16) 16))) := hcells
  have HW : Hid (∀ j, W j < 256) := hW
  have hpl : pb < w.heap.size := strBlock (hcells 0 (by omega))
  have LD : Hid (∀ i j, j < 16 → Gf.decTo W m (strB s) i j < 256) := Gf.decTo_lt hW (fun j _ => strB_lt s j)
  have BK : Hid (∀ w : World, w.rowIs t 3 256 (fun j => .int .i64 (Gf.sub j : Nat)) → Calls Try.prog 65 #[.slice (some ⟨t, 0, none⟩) 256 256] w fun e w' => (∃ c, w.heap.size ≤ c ∧ e = .returned (.slice (some ⟨c, 0, none⟩) 256 256) ∧ w'.rowIs c 3 256 (fun j => .int .i64 (Gf.unsub j : Nat))) ∧ Below w.heap.size w w') := fun w h => back_any t w h
  have HT : Hid (w.rowIs t 3 256 (fun j => .int .i64 (Gf.sub j : Nat))) := ht
  have ST : Hid (∀ w : World, Calls Try.prog 66 #[.string s] w fun e w' => (∃ b c, w.heap.size ≤ b ∧ e = .returned (.slice (some ⟨b, 0, none⟩) 16 c) ∧ I16 w' b (strB s)) ∧ Below w.heap.size w w') := l01State_any s hs
  have XO : Hid (∀ (i b c : Nat) (f : Nat → Nat) (w : World), (∀ j, j < 16 → f j < 256) → I16 w b f → Calls Try.prog 67 #[.slice (some ⟨b, 0, none⟩) 16 c, .string (kstr W (i * 16) 16)] w fun e w' => e = .returned (.tuple #[]) ∧ I16 w' b (Gf.addK f (Gf.keyAt W i)) ∧ OnlyB b w w') := fun i b c f w hf h =>
    (l01Xor_any b c f hf (kstr W (i * 16) 16) (kstr_size _ _ _) w h).mono fun e w' ⟨he, hi, ho⟩ => ⟨he, hi.congr (fun j hj => by rw [strB_key hW i j hj]; rfl), ho⟩
  clear hk hcells ht hW hs
  go_enter Try.func44, Try.ntmps44
  go_wp2_with fail
  refine (BK.out _ HT.out).mono ?_
  rintro e wb ⟨⟨bt, hbt, rfl, hbr⟩, hBb⟩
  have HBR : Hid (wb.rowIs bt 3 256 (fun j => .int .i64 (Gf.unsub j : Nat))) := hbr
  have hbtl : bt < wb.heap.size := hbr.lt
  have HBB : Hid (Below w.heap.size w wb) := hBb
  have hwb := hBb.size
  clear hbr hBb BK HT
  go_wp2_with fail
  refine (ST.out _).mono ?_
  rintro e w1 ⟨⟨b, c, hb, rfl, hi⟩, hB⟩
  have HI : Hid (I16 w1 b (strB s)) := hi
  have HB : Hid (Below wb.heap.size wb w1) := hB
  clear hi hB ST
  have em : (m : Int) + 1 - 1 = (m : Int) := by omega
  go_wp2
  go_loopw [8, 9] (fun v i wr => ∃ (k L cc : Nat), k ≤ m ∧ i = .int .i64 k ∧ wb.heap.size ≤ L ∧ v = .slice (some ⟨L, 0, none⟩) 16 cc ∧ (k < m → cc = 16) ∧ I16 wr L (if k = m then strB s else Gf.decTo W m (strB s) (m - 1 - k)) ∧ Below wb.heap.size wb wr) (fun _ i _ => (intOf i).toNat)
  case atStart => exact ⟨m, b, c, Nat.le_refl _, numEqK (by omega), hb, rfl, fun h => absurd h (by omega), by rw [if_pos rfl]; exact HI.out, HB.out⟩
  case round =>
    clear HI HB em
    obtain ⟨k, L, cc, hk1, rfl, hL, rfl, hcc, hi, hB⟩ := hrel
    have BCELL : Hid (∀ (w' : World), Below wb.heap.size wb w' → ∀ x, x < 256 → w'.cell? ⟨bt, x, none⟩ = some (.int .i64 (Gf.unsub x : Nat))) := fun w' h x hx => by rw [h.cell (p := ⟨bt, x, none⟩) hbtl]; exact HBR.out.cell hx
    have KCELL : Hid (∀ (w' : World), Below wb.heap.size wb w' → ∀ i, i < m + 1 → w'.cell? ⟨pb, po + i, none⟩ = some (.string (kstr W (i * 16) 16))) := fun w' h i hi => by
      rw [h.cell (p := ⟨pb, po + i, none⟩) (Nat.lt_of_lt_of_le hpl hwb), HBB.out.cell (p := ⟨pb, po + i, none⟩) hpl]; exact HK.out i hi
    by_cases hpos : 0 < k
    · have ck := KCELL.out wr hB k (by omega)
      have HB : Hid (Below wb.heap.size wb wr) := hB
      have x0 : (0 : Int) < (k : Int) := by omega
      have x1 : (k : Int) < (m : Int) + 1 := by omega
      have em : (k : Int) - 1 = ((k - 1 : Nat) : Int) := by omega
      clear hB
      by_cases hkm : k < m
      · have hne : ¬ k = m := by omega
        rw [if_neg hne] at hi
        have hc16 := hcc hkm
        subst hc16
        have HI : Hid (I16 wr L (Gf.decTo W m (strB s) (m - 1 - k))) := hi
        have x2 : (k : Int) < (m : Int) := by omega
        clear hi hcc hne
        go_wp2_with fail
        refine (XO.out k L 16 _ _ (LD.out _) HI.out).mono ?_
        rintro e w3 ⟨rfl, hi3, ho3⟩
        have HI3 : Hid (I16 w3 L (Gf.addK (Gf.decTo W m (strB s) (m - 1 - k)) (Gf.keyAt W k))) := hi3
        have HB3 : Hid (Below wb.heap.size wb w3) := HB.out.trans (ho3.toBelow hL HB.out.size)
        have LA : Hid (∀ j, j < 16 → Gf.addK (Gf.decTo W m (strB s) (m - 1 - k)) (Gf.keyAt W k) j < 256) := fun j hj => Gf.addK_lt (s := Gf.decTo W m (strB s) (m - 1 - k)) (k := Gf.keyAt W k) (LD.out _ j hj) (HW.out _)
        have HI3' : Hid (I16 (w3.alloc (.cells #[.int .i64 14, .int .i64 11, .int .i64 13, .int .i64 9] 3)) L (Gf.addK (Gf.decTo W m (strB s) (m - 1 - k)) (Gf.keyAt W k))) := hi3.below ((Below.refl _ _).alloc (Nat.le_refl _) _)
        have HF3 : Hid (Ints (w3.alloc (.cells #[.int .i64 14, .int .i64 11, .int .i64 13, .int .i64 9] 3)) (some ⟨w3.heap.size, 0, none⟩) 4 (fun i => (Gf.backF i : Nat))) := four_ints w3 _
        have HB3' : Hid (Below wb.heap.size wb (w3.alloc (.cells #[.int .i64 14, .int .i64 11, .int .i64 13, .int .i64 9] 3))) := HB3.out.alloc HB3.out.size _
        clear hi3 ho3 HI HB ck
        go_wp2_with fail
        refine (l01Columns_any L w3.heap.size 0 4 _ LA.out _ HI3'.out HF3.out).mono ?_
        rintro e w4 ⟨⟨L4, c4, hL4, rfl, hi4⟩, hb4⟩
        have HI4 : Hid (I16 w4 L4 (Gf.mix3 (Gf.addK (Gf.decTo W m (strB s) (m - 1 - k)) (Gf.keyAt W k)))) := hi4
        have HB4 : Hid (Below wb.heap.size wb w4) := HB3'.out.trans (hb4.mono HB3'.out.size)
        clear hi4 hb4 HI3 HI3' HF3 HB3 HB3'
        go_wp2_with fail
        refine (l01Unshift_any L4 c4 _ _ HI4.out).mono ?_
        rintro e w5 ⟨⟨L5, hL5, rfl, hi5⟩, hb5⟩
        have HI5 : Hid (I16 w5 L5 (fun j => Gf.mix3 (Gf.addK (Gf.decTo W m (strB s) (m - 1 - k)) (Gf.keyAt W k)) (Gf.iord j))) := hi5
        have HB5 : Hid (Below wb.heap.size wb w5) := HB4.out.trans (hb5.mono HB4.out.size)
        have hL5' : wb.heap.size ≤ L5 := Nat.le_trans HB4.out.size hL5
        clear hi5 hb5 HI4 HB4
        go_wp2_with fail
        refine (l01Swap_any L5 16 bt _ Gf.unsub (fun j hj => Gf.mix3_lt LA.out _ (Gf.iord_lt j)) (by omega) _ HI5.out (BCELL.out _ HB5.out)).mono ?_
        rintro e w6 ⟨rfl, hi6, ho6⟩
        have HI6 : Hid (I16 w6 L5 (if k - 1 = m then strB s else Gf.decTo W m (strB s) (m - 1 - (k - 1)))) := by
          show I16 _ _ _
          rw [if_neg (by omega), show m - 1 - (k - 1) = (m - 1 - k) + 1 from by omega]
          refine hi6.congr (fun j hj => ?_)
          show _ = Gf.unTurn (Gf.mix3 (Gf.addK (Gf.decTo W m (strB s) (m - 1 - k)) (Gf.keyAt W (m - 1 - (m - 1 - k))))) j
          rw [show m - 1 - (m - 1 - k) = k from by omega]
          rfl
        have HB6 : Hid (Below wb.heap.size wb w6) := HB5.out.trans (ho6.toBelow hL5' HB5.out.size)
        clear hi6 ho6 HI5 HB5
        go_wp2
        go_roundw
        case rel => exact ⟨k - 1, L5, 16, by omega, numEqK (by omega), hL5', rfl, fun _ => rfl, HI6.out, HB6.out⟩
        case measure => simp [intOf]; omega
      · have hke : Hid (k = m) := by show k = m; omega
        rw [if_pos hke.out] at hi
        have HI : Hid (I16 wr L (strB s)) := hi
        have x2 : ¬ (k : Int) < (m : Int) := by omega
        clear hi hcc
        go_wp2_with fail
        refine (XO.out k L cc _ _ (fun j _ => strB_lt s j) HI.out).mono ?_
        rintro e w3 ⟨rfl, hi3, ho3⟩
        have HI3 : Hid (I16 w3 L (Gf.addK (strB s) (Gf.keyAt W k))) := hi3
        have HB3 : Hid (Below wb.heap.size wb w3) := HB.out.trans (ho3.toBelow hL HB.out.size)
        have LA : Hid (∀ j, j < 16 → Gf.addK (strB s) (Gf.keyAt W k) j < 256) := fun j _ => Gf.addK_lt (s := strB s) (k := Gf.keyAt W k) (strB_lt s j) (HW.out _)
        clear hi3 ho3 HI HB ck
        go_wp2_with fail
        refine (l01Unshift_any L cc _ _ HI3.out).mono ?_
        rintro e w5 ⟨⟨L5, hL5, rfl, hi5⟩, hb5⟩
        have HI5 : Hid (I16 w5 L5 (fun j => Gf.addK (strB s) (Gf.keyAt W k) (Gf.iord j))) := hi5
        have HB5 : Hid (Below wb.heap.size wb w5) := HB3.out.trans (hb5.mono HB3.out.size)
        have hL5' : wb.heap.size ≤ L5 := Nat.le_trans HB3.out.size hL5
        clear hi5 hb5 HI3 HB3
        go_wp2_with fail
        refine (l01Swap_any L5 16 bt _ Gf.unsub (fun j hj => LA.out _ (Gf.iord_lt j)) (by omega) _ HI5.out (BCELL.out _ HB5.out)).mono ?_
        rintro e w6 ⟨rfl, hi6, ho6⟩
        have HI6 : Hid (I16 w6 L5 (if k - 1 = m then strB s else Gf.decTo W m (strB s) (m - 1 - (k - 1)))) := by
          have e := hke.out
          subst e
          show I16 _ _ _
          rw [if_neg (by omega), show k - 1 - (k - 1) = 0 from by omega]
          exact hi6
        have HB6 : Hid (Below wb.heap.size wb w6) := HB5.out.trans (ho6.toBelow hL5' HB5.out.size)
        clear hi6 ho6 HI5 HB5
        go_wp2
        go_roundw
        case rel => exact ⟨k - 1, L5, 16, by omega, numEqK (by omega), hL5', rfl, fun _ => rfl, HI6.out, HB6.out⟩
        case measure => simp [intOf]; omega
    · obtain rfl : k = 0 := by omega
      rw [if_neg (by omega)] at hi
      have HI : Hid (I16 wr L (Gf.decTo W m (strB s) (m - 1))) := hi
      have HB : Hid (Below wb.heap.size wb wr) := hB
      have ck : wr.cell? ⟨pb, po, none⟩ = some (.string (kstr W (0 * 16) 16)) := KCELL.out wr hB 0 (by omega)
      clear hi hB hcc
      go_wp2_with fail
      refine (XO.out 0 L cc _ _ (LD.out _) HI.out).mono ?_
      rintro e w3 ⟨rfl, hi3, ho3⟩
      have HI3 : Hid (I16 w3 L (Gf.dec W m (strB s))) := hi3
      have HB3 : Hid (Below wb.heap.size wb w3) := HB.out.trans (ho3.toBelow hL HB.out.size)
      clear hi3 ho3 HI HB ck
      go_wp2_with fail
      refine (l01Text_any L cc _ (fun j hj => Gf.dec_lt HW.out (fun j _ => strB_lt s j) j hj) _ HI3.out).mono ?_
      rintro e w4 ⟨rfl, hb4⟩
      have HB4 : Hid (Below w.heap.size w w4) := (HBB.out.trans (HB3.out.mono hwb)).trans (hb4.mono (Nat.le_trans hwb HB3.out.size))
      clear hb4 HI3 HB3
      go_wp2
      go_ret
      exact ⟨rfl, HB4.out⟩
end Go.Proofs.Ytbhlgcenfanicaa

/-
  The model's CbcDecrypt.
-/
namespace Go.Proofs.Ytbhlgcenfanicaa
open Go.ChangeShapes Go.WideShapes Go.ChangeAt Go.RowKit
/-- The block ahead of block i, in the model. -/
def prevS (iv c : Nat → Nat) (i j : Nat) : Nat := if i = 0 then iv j else c (16 * (i - 1) + j)
theorem specDcb_long (k s : ByteArray) (a : Option Addr) (n c : Nat) (f : Nat → Nat) (h : 65536 < k.size ∨ 65536 < s.size ∨ 65536 < n) (w : World) :
    Calls Try.prog 16 #[.string k, .string s, .slice a n c] w fun e w' => RetB2 w w' e 0 f (.int .i64 2) ∧ Below w.heap.size w w' := by
  by_cases h1 : 65536 < k.size
  · have e1 : (65536 : Int) < k.size := by omega
    go_enter Try.func16, Try.ntmps16
    go_wp2
    go_ret2
    exact ⟨RetB2.made w f _, (Below.refl _ _).alloc (Nat.le_refl _) _⟩
  · have e1 : ¬ (65536 : Int) < k.size := by omega
    by_cases h2 : 65536 < s.size
    · have e2 : (65536 : Int) < s.size := by omega
      go_enter Try.func16, Try.ntmps16
      go_wp2
      go_ret2
      exact ⟨RetB2.made w f _, (Below.refl _ _).alloc (Nat.le_refl _) _⟩
    · have e2 : ¬ (65536 : Int) < s.size := by omega
      have e3 : (65536 : Int) < n := by omega
      go_enter Try.func16, Try.ntmps16
      go_wp2
      go_ret2
      exact ⟨RetB2.made w f _, (Below.refl _ _).alloc (Nat.le_refl _) _⟩
theorem specDcb_bad (k s : ByteArray) (a : Option Addr) (n c : Nat) (f : Nat → Nat) (h1 : k.size ≤ 65536) (h2 : s.size ≤ 65536) (h3 : n ≤ 65536) (h : ¬ ((k.size = 16 ∨ k.size = 32) ∧ s.size = 16)) (w : World) :
    Calls Try.prog 16 #[.string k, .string s, .slice a n c] w fun e w' => RetB2 w w' e 0 f (.int .i64 1) ∧ Below w.heap.size w w' := by
  have e1 : ¬ (65536 : Int) < k.size := by omega
  have e2 : ¬ (65536 : Int) < s.size := by omega
  have e3 : ¬ (65536 : Int) < n := by omega
  by_cases hk : k.size = 16 ∨ k.size = 32
  · have e4 : ((s.size : Int) != 16) = true := by rw [bne_iff_ne]; omega
    have KO : Hid (∀ w : World, Calls Try.prog 30 #[.string k] w fun e w' => e = .returned (.bool true) ∧ w = w') := l01Key_yes k hk
    clear h hk
    go_enter Try.func16, Try.ntmps16
    go_wp2_with (go_at_call 30; refine (KO.out _).mono ?_; rintro e w' ⟨rfl, rfl⟩)
    go_ret2
    exact ⟨RetB2.made w f _, (Below.refl _ _).alloc (Nat.le_refl _) _⟩
  · have KO : Hid (∀ w : World, Calls Try.prog 30 #[.string k] w fun e w' => e = .returned (.bool false) ∧ w = w') := l01Key_no k (by omega) (by omega)
    clear h hk
    go_enter Try.func16, Try.ntmps16
    go_wp2_with (go_at_call 30; refine (KO.out _).mono ?_; rintro e w' ⟨rfl, rfl⟩)
    go_ret2
    exact ⟨RetB2.made w f _, (Below.refl _ _).alloc (Nat.le_refl _) _⟩
theorem specDcb_part (k s : ByteArray) (a : Option Addr) (n c : Nat) (f : Nat → Nat) (hk : k.size = 16 ∨ k.size = 32) (hs : s.size = 16) (h3 : n ≤ 65536) (h : n = 0 ∨ n % 16 ≠ 0) (w : World) :
    Calls Try.prog 16 #[.string k, .string s, .slice a n c] w fun e w' => RetB2 w w' e 0 f (.int .i64 3) ∧ Below w.heap.size w w' := by
  have e1 : ¬ (65536 : Int) < k.size := by omega
  have e2 : ¬ (65536 : Int) < s.size := by omega
  have e3 : ¬ (65536 : Int) < n := by omega
  have e4 : ((s.size : Int) != 16) = false := by rw [bne_eq_false_iff_eq]; omega
  have KO : Hid (∀ w : World, Calls Try.prog 30 #[.string k] w fun e w' => e = .returned (.bool true) ∧ w = w') := l01Key_yes k hk
  clear hk hs
  by_cases h0 : n = 0
  · have e5 : ((n : Int) == 0) = true := by rw [beq_iff_eq]; omega
    clear h h0
    go_enter Try.func16, Try.ntmps16
    go_wp2_with (go_at_call 30; refine (KO.out _).mono ?_; rintro e w' ⟨rfl, rfl⟩)
    go_ret2
    exact ⟨RetB2.made w f _, (Below.refl _ _).alloc (Nat.le_refl _) _⟩
  · have e5 : ((n : Int) == 0) = false := by rw [beq_eq_false_iff_ne]; omega
    have e6 : ((n : Int) % 16 != 0) = true := by rw [bne_iff_ne]; omega
    clear h h0
    go_enter Try.func16, Try.ntmps16
    go_wp2_with (go_at_call 30; refine (KO.out _).mono ?_; rintro e w' ⟨rfl, rfl⟩)
    go_ret2
    exact ⟨RetB2.made w f _, (Below.refl _ _).alloc (Nat.le_refl _) _⟩
set_option maxRecDepth 100000 in
set_option maxHeartbeats 4000000 in
theorem specDcb_yes (k s : ByteArray) (kn b o n cp : Nat) (c : Nat → Nat) (hkn : kn = 4 ∨ kn = 8) (hk : k.size = kn * 4) (hs : s.size = 16) (hn : n ≤ 65536) (h16 : n % 16 = 0) (hn0 : 0 < n) (hncp : n ≤ cp) (hc : ∀ i, c i < 256) (D : Nat → Nat) (hD : D = cbcD (Gf.ws (strB k) kn (3 * kn + 28)) (kn + 6) (strB s) c) (sz : Nat) (r : Bool) (hr : (UnOK n D ∧ sz = n - D (n - 1) ∧ r = true) ∨ (¬ UnOK n D ∧ sz = 0 ∧ r = false)) (code : Int) (hcode : code = if r then 0 else 3) (w : World) (h : Code8 w (some ⟨b, o, none⟩) n c) :
    Calls Try.prog 16 #[.string k, .string s, .slice (some ⟨b, o, none⟩) n cp] w fun e w' => RetB2 w w' e sz D (.int .i64 code) ∧ Below w.heap.size w w' := by
  have e1 : ¬ (65536 : Int) < k.size := by omega
  have e2 : ¬ (65536 : Int) < s.size := by omega
  have e3 : ¬ (65536 : Int) < n := by omega
  have e4 : ((s.size : Int) != 16) = false := by rw [bne_eq_false_iff_eq]; omega
  have e5 : ((n : Int) == 0) = false := by rw [beq_eq_false_iff_ne]; omega
  have e6 : ((n : Int) % 16 != 0) = false := by rw [bne_eq_false_iff_eq]; omega
  have KO : Hid (∀ w : World, Calls Try.prog 30 #[.string k] w fun e w' => e = .returned (.bool true) ∧ w = w') := l01Key_yes k (by omega)
  obtain ⟨i0, hi⟩ := info_parts Try.info8
  have HI : Hid (Try.prog.info? 5 = some i0 ∧ i0.zero = some (.int .u8 0) ∧ i0.size = 1 ∧ i0.bytes = 1) := hi
  have TA : Hid (∀ w : World, Calls Try.prog 41 #[] w fun e w' => (∃ b, w.heap.size ≤ b ∧ e = .returned (.slice (some ⟨b, 0, none⟩) 256 256) ∧ w'.rowIs b 3 256 (fun j => .int .i64 (Gf.sub j : Nat))) ∧ Below w.heap.size w w') := table_any
  have KE : Hid (∀ (tb : Nat) (w : World), w.rowIs tb 3 256 (fun j => .int .i64 (Gf.sub j : Nat)) → Calls Try.prog 42 #[.string k, .slice (some ⟨tb, 0, none⟩) 256 256] w fun e w' => (∃ pb po ck, e = .returned (.slice (some ⟨pb, po, none⟩) (kn + 6 + 1) ck) ∧ MK w' pb po tb (kn + 6) (Gf.ws (strB k) kn (3 * kn + 28))) ∧ Below w.heap.size w w') := fun tb w h => mKeys k kn hkn hk tb w h
  have LW : Hid (∀ j, Gf.ws (strB k) kn (3 * kn + 28) j < 256) := Gf.ws_lt (strB_lt k) _
  have lD : ∀ x, D x < 256 := fun x => by rw [hD]; exact cbcD_lt (Gf.ws_lt (strB_lt k) _) (strB_lt s) hc x
  generalize Gf.ws (strB k) kn (3 * kn + 28) = W at *
  obtain ⟨m, hm⟩ : ∃ m, m = kn + 6 := ⟨_, rfl⟩
  have hm1 : 1 ≤ m := by omega
  have hm2 : m ≤ 14 := by omega
  rw [← hm] at KE hD
  have UP : Hid (∀ (g gc : Nat) (w : World), n ≤ gc → Code8 w (some ⟨g, 0, none⟩) n D → Calls Try.prog 45 #[.slice (some ⟨g, 0, none⟩) n gc] w fun e w' => RetB2 w w' e sz D (.bool r) ∧ Below w.heap.size w w') := fun g gc w hg h => l02Unpad_any _ n gc D lD hn hg w h sz r hr
  have HC : Hid (Code8 w (some ⟨b, o, none⟩) n c) := h
  have hbl : b < w.heap.size := h.lt _ hn0 rfl
  have LC : Hid (∀ i, c i < 256) := hc
  have LDD : Hid (∀ x, D x < 256) := lD
  have LV : Hid (∀ i j, prevS (strB s) c i j < 256) := fun i j => by
    show (if i = 0 then strB s j else c (16 * (i - 1) + j)) < 256
    split
    · exact strB_lt s j
    · exact hc _
  have HD : Hid (∀ q j, j < 16 → prevS (strB s) c q j ^^^ Gf.dec W m (fun j => c (16 * q + j)) j = D (16 * q + j)) := fun q j hj => by
    rw [hD]
    unfold cbcD
    rw [show (16 * q + j) / 16 = q from by omega, show (16 * q + j) % 16 = j from by omega, Nat.xor_comm]
    congr 1
    unfold prevS
    by_cases e : q = 0
    · subst e
      rw [if_pos rfl, if_pos (by omega), show 16 * 0 + j = j from by omega]
    · rw [if_neg e, if_neg (by omega), show 16 * (q - 1) + j = 16 * q + j - 16 from by omega]
  have HSs : Hid (s.size = 16) := hs
  have HCo : Hid (code = if r then 0 else 3) := hcode
  obtain ⟨iv, hiv⟩ : ∃ iv, iv = strB s := ⟨_, rfl⟩
  rw [← hiv] at LV HD
  have HIV : Hid (Gf.Same (strB s) (prevS iv c 0)) := fun j _ => by unfold prevS; rw [if_pos rfl, hiv]
  have HS0 : Hid (r = false → sz = 0) := fun e => by
    rcases hr with ⟨_, _, h⟩ | ⟨_, h, _⟩
    · rw [h] at e; cases e
    · exact h
  clear h hc hkn hk hs hm hi hD lD hr hcode hiv
  go_enter Try.func16, Try.ntmps16
  go_wp2_with (go_at_call 30; refine (KO.out _).mono ?_; rintro e w' ⟨rfl, rfl⟩)
  refine (TA.out _).mono ?_
  rintro e w1 ⟨⟨tb, htb, rfl, hrow⟩, hB1⟩
  have HR : Hid (w1.rowIs tb 3 256 (fun j => .int .i64 (Gf.sub j : Nat))) := hrow
  have HB1 : Hid (Below w.heap.size w w1) := hB1
  clear hrow hB1
  go_wp2_with fail
  refine (KE.out tb w1 HR.out).mono ?_
  rintro e w3 ⟨⟨pb, po, ck, rfl, hmk⟩, hB2⟩
  have HM3 : Hid (MK w3 pb po tb m W) := hmk
  have HB3 : Hid (Below w.heap.size w w3) := HB1.out.trans (hB2.mono HB1.out.size)
  have hpt := hmk.lt
  have hw3 := HB3.out.size
  clear hmk hB2 HR HB1 TA KE KO
  have HO4 : Hid ((w3.alloc (.cells #[] 5)).ownsRow w3.heap.size 5 1 (.slice (some ⟨w3.heap.size, 0, none⟩) 0 0) 0 (bv 0 D)) := World.ownsRow_made w3 #[] 0 (Nat.le_refl _) (Nat.zero_le _) (by simp)
  have HM4 : Hid (MK (w3.alloc (.cells #[] 5)) pb po tb m W) := HM3.out.alloc _
  have HB4 : Hid (Below w.heap.size w (w3.alloc (.cells #[] 5))) := HB3.out.alloc hw3 _
  have hw4 : w3.heap.size ≤ (w3.alloc (.cells #[] 5)).heap.size := by simp
  clear HM3 HB3
  go_wp2_with fail
  generalize w3.alloc (.cells #[] 5) = w4 at *
  generalize w3.heap.size = B0 at *
  go_loopw [10, 11, 12] (fun x l i wr => ∃ (q gb gc : Nat) (T : ByteArray), 16 * q ≤ n ∧ i = .int .i64 (16 * (q : Int)) ∧ l = .string T ∧ T.size = 16 ∧ Gf.Same (strB T) (prevS iv c q) ∧ x = .slice (some ⟨gb, 0, none⟩) (16 * q) gc ∧ wr.ownsRow B0 5 1 (.slice (some ⟨gb, 0, none⟩) (16 * q) gc) (16 * q) (bv (16 * q) D) ∧ (MK wr pb po tb m W ∧ Below w.heap.size w wr ∧ B0 ≤ wr.heap.size)) (fun _ _ i _ => n - (intOf i).toNat)
  case atStart => exact ⟨0, B0, 0, s, by omega, rfl, rfl, HSs.out, HIV.out, rfl, HO4.out, HM4.out, HB4.out, hw4⟩
  case round =>
    clear HO4 HM4 HB4 hw4 HIV HSs
    obtain ⟨q, gb, gc, T, hq, rfl, rfl, hT, hTS, rfl, hown, hmk, hb, hsz⟩ := hrel
    have HO : Hid (wr.ownsRow B0 5 1 (.slice (some ⟨gb, 0, none⟩) (16 * q) gc) (16 * q) (bv (16 * q) D)) := hown
    have HM : Hid (MK wr pb po tb m W) := hmk
    have HB : Hid (Below w.heap.size w wr) := hb
    clear hown hmk hb
    by_cases hlt : 16 * q < n
    · have g1 : 16 * (q : Int) < (n : Int) := by omega
      have g0 : (0 : Int) ≤ 16 * (q : Int) := by omega
      have g2 : 16 * (q : Int) + 16 ≤ (cp : Int) := by omega
      have g3 : 16 * (q : Int) ≤ 16 * (q : Int) + 16 := by omega
      have g4 : (16 * (q : Int)).toNat = 16 * q := by omega
      have g5 : (16 * (q : Int) + 16).toNat = 16 * q + 16 := by omega
      have g6 : ¬ cp = 16 * q := by omega
      have g7 : 16 * q + 16 - 16 * q = 16 := by omega
      obtain ⟨X, hX⟩ : ∃ X : Nat → Nat, X = fun j => c (16 * q + j) := ⟨_, rfl⟩
      have lX : ∀ j, X j < 256 := fun j => by rw [hX]; exact LC.out _
      obtain ⟨S, hS⟩ : ∃ S, S = kstr X 0 16 := ⟨_, rfl⟩
      have CVT : Hid (∀ (w' : World) (cap : Nat), Below w.heap.size w w' → (convert 22 9 (.slice (some ⟨b, o + 16 * q, none⟩) 16 cap)).run Try.prog w' = .ok (.string S) w') := fun w' cap hb' => by
        rw [hS]
        refine kstr_of_code (code8_of (fun j hj => ?_))
        rw [hb'.cell (p := ⟨b, o + 16 * q + j, none⟩) hbl, hX, Nat.add_assoc]
        exact HC.out.at (by omega)
      obtain ⟨E, hE⟩ : ∃ E, E = kstr (Gf.dec W m X) 0 16 := ⟨_, rfl⟩
      have ldX : ∀ j, j < 16 → Gf.dec W m X j < 256 := fun j hj => Gf.dec_lt LW.out (fun j _ => lX j) j hj
      have DE : Hid (∀ w : World, MK w pb po tb m W → Calls Try.prog 44 #[.slice (some ⟨pb, po, none⟩) (m + 1) ck, .slice (some ⟨tb, 0, none⟩) 256 256, .string S] w fun e w' => e = .returned (.string E) ∧ Below w.heap.size w w') := fun w h =>
        (l01Decrypt_any pb po ck tb m W LW.out hm1 hm2 S (by rw [hS, kstr_size]) w h.1 h.2).mono fun e w' hh => ⟨by
          rw [hh.1, hE]
          refine congrArg (fun x => Ending.returned (.string x)) (kstr_same (Gf.same_dec (fun j hj => ?_)))
          rw [hS]; exact same_strB (fun j _ => lX j) j hj, hh.2⟩
      have hES : E.size = 16 := by rw [hE, kstr_size]
      have hEB : Gf.Same (strB E) (Gf.dec W m X) := by rw [hE]; exact same_strB ldX
      obtain ⟨R, hR⟩ : ∃ R, R = kstr (fun j => D (16 * q + j)) 0 16 := ⟨_, rfl⟩
      have BO : Hid (∀ (eb ec : Nat) (w : World), Code8 w (some ⟨eb, 0, none⟩) 16 (strB E) → Calls Try.prog 43 #[.string T, .slice (some ⟨eb, 0, none⟩) 16 ec] w fun e w' => e = .returned (.string R) ∧ Below w.heap.size w w') := fun eb ec w h =>
        (l02Both_any T hT eb 0 ec (strB E) (fun j _ => strB_lt E j) w h).mono fun e w' hh => ⟨by
          rw [hh.1, hR]
          refine congrArg (fun x => Ending.returned (.string x)) (kstr_same (fun j hj => ?_))
          show strB T j ^^^ strB E j = D (16 * q + j)
          rw [hTS j hj, hEB j hj, hX]
          exact HD.out q j hj, hh.2⟩
      have HG : Hid (bv (16 * q) D ++ Lib.strCells R = bv (16 * (q + 1)) D) := by
        show bv (16 * q) D ++ Lib.strCells R = _
        rw [strCells_bv, hR, kstr_size, bv_append, Nat.mul_add]
        refine bv_congr (fun i hi => ?_)
        by_cases e : i < 16 * q
        · rw [if_pos e]
        · rw [if_neg e, strB_kstr _ 0 16 _ (by rw [Nat.zero_add]; exact LDD.out _) (by omega), Nat.zero_add, show 16 * q + (i - 16 * q) = i from by omega]
      have HRs : Hid (R.size = 16) := by show R.size = 16; rw [hR, kstr_size]
      have HSz : Hid (S.size = 16) := by show S.size = 16; rw [hS, kstr_size]
      have HTS : Hid (Gf.Same (strB S) (prevS iv c (q + 1))) := fun j hj => by
        rw [hS, same_strB (fun j _ => lX j) j hj, hX]
        unfold prevS
        rw [if_neg (by omega)]
        rfl
      have HQ : Hid (16 * (q : Int) + 16 = 16 * ((q + 1 : Nat) : Int)) := by show 16 * (q : Int) + 16 = _; omega
      have hcv1 := fun cap => CVT.out wr cap HB.out
      clear hX hS hE hEB hR hT hTS lX ldX
      go_wp2_with fail
      refine (DE.out _ HM.out).mono ?_
      rintro e w5 ⟨rfl, hb5⟩
      have HO5 : Hid (w5.ownsRow B0 5 1 (.slice (some ⟨gb, 0, none⟩) (16 * q) gc) (16 * q) (bv (16 * q) D)) := ownsRow_below8 HO.out hb5
      have HM5 : Hid (MK w5 pb po tb m W) := HM.out.below hb5
      have HB5 : Hid (Below w.heap.size w w5) := HB.out.trans (hb5.mono HB.out.size)
      have hsz5 := Nat.le_trans hsz hb5.size
      clear hb5 HO HM HB hsz hcv1 DE
      obtain ⟨wy, ec, hcv2, hWB, hBy, hec⟩ := bytesOf E w5
      rw [hES] at hcv2 hWB
      have HO6 : Hid (wy.ownsRow B0 5 1 (.slice (some ⟨gb, 0, none⟩) (16 * q) gc) (16 * q) (bv (16 * q) D)) := ownsRow_below8 HO5.out hBy
      have HM6 : Hid (MK wy pb po tb m W) := HM5.out.below hBy
      have HB6 : Hid (Below w.heap.size w wy) := HB5.out.trans (hBy.mono HB5.out.size)
      have hsz6 := Nat.le_trans hsz5 hBy.size
      have HE6 : Hid (Code8 wy (some ⟨w5.heap.size, 0, none⟩) 16 (strB E)) := hWB.code
      clear hWB hBy hec HO5 HM5 HB5 hsz5
      go_wp2_with fail
      refine (BO.out _ _ _ HE6.out).mono ?_
      rintro e w7 ⟨rfl, hb7⟩
      have HO7 : Hid (w7.ownsRow B0 5 1 (.slice (some ⟨gb, 0, none⟩) (16 * q) gc) (16 * q) (bv (16 * q) D)) := ownsRow_below8 HO6.out hb7
      have HM7 : Hid (MK w7 pb po tb m W) := HM6.out.below hb7
      have HB7 : Hid (Below w.heap.size w w7) := HB6.out.trans (hb7.mono HB6.out.size)
      have hsz7 := Nat.le_trans hsz6 hb7.size
      clear hb7 HO6 HM6 HB6 hsz6 HE6 BO hcv2
      go_wp2_with (at_builtin; refine Lib.wpList_append_own_string _ rfl _ _ 22 9 rfl B0 5 i0 Try.underlying22 Try.underlying9 HI.out.1 HI.out.2.1 HI.out.2.2.1 HI.out.2.2.2 (.slice (some ⟨gb, 0, none⟩) (16 * q) gc) (16 * q) _ rfl HO7.out R rfl (by rw [HRs.out]; unfold maxLen; omega) (by rw [HRs.out]; omega) hsz7 ?_)
      intro v8 w8 hown8 hgrow8 hnil8
      rw [HRs.out, HG.out] at hown8
      have BG := grown_below HO7.out hgrow8 hsz7
      have HM8 : Hid (MK w8 pb po tb m W) := HM7.out.belowAt BG hpt.1 hpt.2
      have HB8 : Hid (Below w.heap.size w w8) := HB7.out.trans (BG.mono hw3)
      have hsz8 := Nat.le_trans hsz7 BG.size
      obtain ⟨gb8, gc8, ⟨hgb8, hgc8⟩, rfl, -⟩ := own8_of_own (n := 16 * (q + 1)) hown8 hnil8
      have HO8 : Hid (w8.ownsRow B0 5 1 (.slice (some ⟨gb8, 0, none⟩) (16 * (q + 1)) gc8) (16 * (q + 1)) (bv (16 * (q + 1)) D)) := hown8
      have hcv3 := fun cap => CVT.out w8 cap HB8.out
      clear hown8 hgrow8 hnil8 BG HO7 HM7 HB7 HG
      go_wp2
      go_roundw
      case rel => exact ⟨q + 1, gb8, gc8, S, by omega, numEq8 HQ.out, rfl, HSz.out, HTS.out, rfl, HO8.out, HM8.out, HB8.out, hsz8⟩
      case measure => simp [intOf]; omega
    · have g1 : ¬ 16 * (q : Int) < (n : Int) := by omega
      obtain rfl : n = 16 * q := by omega
      obtain ⟨gb7, gc7, ⟨hgb7, hgc7⟩, e7, ho7⟩ := own8_of_own (n := 16 * q) HO.out (by intro e; cases e)
      cases e7
      have HO7 : Hid (Own8 wr gb (16 * q) D) := ho7
      clear ho7 HO HM LW LC LV HD hTS
      go_wp2_with fail
      refine (UP.out _ _ _ hgc7 HO7.out.code).mono ?_
      rintro e w8 ⟨⟨xb, xc, ⟨hxb, hxc⟩, rfl, ho8⟩, hb8⟩
      have HX8 : Hid (Own8 w8 xb sz D) := ho8
      have HB8 : Hid (Below w.heap.size w w8) := HB.out.trans (hb8.mono HB.out.size)
      have hwx : w.heap.size ≤ xb := Nat.le_trans HB.out.size hxb
      have hw8 := HB8.out.size
      clear ho8 hb8 HB UP HO7
      cases r with
      | true =>
        have ec : code = 0 := HCo.out
        subst ec
        go_wp2
        go_ret2
        exact ⟨⟨xb, xc, ⟨hwx, hxc⟩, rfl, HX8.out⟩, HB8.out⟩
      | false =>
        have ec : code = 3 := HCo.out
        subst ec
        have es : sz = 0 := HS0.out rfl
        subst es
        clear HX8
        go_wp2
        go_ret2
        obtain ⟨b3, c3, ⟨hb3, hc3⟩, he3, ho3⟩ := RetB2.made w8 D (.int .i64 3)
        exact ⟨⟨b3, c3, ⟨Nat.le_trans hw8 hb3, hc3⟩, he3, ho3⟩, HB8.out.alloc hw8 _⟩
end Go.Proofs.Ytbhlgcenfanicaa

/-
  The exact law of CbcDecrypt, from contracts of the model's function and the program's that answer alike.
-/
namespace Go.Proofs.Ytbhlgcenfanicaa
open Go.ChangeShapes Go.WideShapes Go.ChangeAt Go.RowKit
set_option maxRecDepth 100000 in
set_option maxHeartbeats 4000000 in
/-- Where both answer alike, whatever memory they are called in, the law holds. -/
theorem lawCbcDecrypt_of (key : ByteArray) (first : ByteArray) (a : Option Addr) (N C n : Nat) (f g : Nat → Nat) (code : Int) (hkey : key.size ≤ 1048576) (hfirst : first.size ≤ 1048576) (hN : N ≤ 1048576) (hn : n ≤ 1048576)
    (hsp : ∀ (b : Nat) (w : World), Code8 w (some ⟨b, 0, none⟩) N f → Calls Try.prog 16 #[.string key, .string first, .slice (some ⟨b, 0, none⟩) N N] w fun e w' => RetI w w' e n g code ∧ Below w.heap.size w w')
    (him : ∀ (b : Nat) (w : World), Code8 w (some ⟨b, 0, none⟩) N f → Calls Try.prog 13 #[.string key, .string first, .slice (some ⟨b, 0, none⟩) N N] w fun e w' => RetI w w' e n g code ∧ Below w.heap.size w w')
    (w : World) (h : Code8 w a N f) :
    Calls Try.prog 5 #[.string key, .string first, .slice a N C] w fun e w' => e = .returned (.bool true) ∧ Below w.heap.size w w' := by
  have SP : Hid (∀ (b : Nat) (w : World), Code8 w (some ⟨b, 0, none⟩) N f → Calls Try.prog 16 #[.string key, .string first, .slice (some ⟨b, 0, none⟩) N N] w fun e w' => RetI w w' e n g code ∧ Below w.heap.size w w') := hsp
  have IM : Hid (∀ (b : Nat) (w : World), Code8 w (some ⟨b, 0, none⟩) N f → Calls Try.prog 13 #[.string key, .string first, .slice (some ⟨b, 0, none⟩) N N] w fun e w' => RetI w w' e n g code ∧ Below w.heap.size w w') := him
  have hlt0 : ∀ x, 0 < N → a = some x → x.block < w.heap.size := h.lt
  have HLT : Hid (∀ x, 0 < N → a = some x → x.block < w.heap.size) := hlt0
  have HA : Hid (Code8 w a N f) := h
  have e1 : ¬ (1048576 : Int) < (N : Int) := by omega
  have ekey : ¬ (1048576 : Int) < (key.size : Int) := by omega
  have efirst : ¬ (1048576 : Int) < (first.size : Int) := by omega
  have hcc : (code != code) = false := by simp
  have hmm : (((n + 1 : Nat) : Int) != ((n + 1 : Nat) : Int)) = false := by simp
  have hmn : ¬ ((n + 1 : Nat) : Int) < 0 := by omega
  have hkn : ¬ ((N + 1 : Nat) : Int) < 0 := by omega
  clear hsp him h hlt0
  go_enter Try.func5, Try.ntmps5
  go_wp2_with fail
  refine (toByteS_any a N C f _ HA.out hN).mono ?_
  rintro e w1 ⟨rfl, ho1, hb1⟩
  have HO1 : Hid (Own8 w1 w.heap.size N f) := ho1
  have HB1 : Hid (Below w.heap.size w w1) := hb1
  clear ho1 hb1
  go_wp2_with fail
  refine (SP.out _ _ HO1.out.code).mono ?_
  rintro e w2 ⟨⟨aw, cw, rfl, hw⟩, hb2⟩
  have HW2 : Hid (Code8 w2 aw n g) := hw.code
  have HA2 : Hid (Code8 w2 a N f) := HA.out.below (HB1.out.trans (hb2.mono HB1.out.size))
  have HB2 : Hid (Below w.heap.size w w2) := HB1.out.trans (hb2.mono HB1.out.size)
  clear hw hb2 HO1 HB1 HA
  go_wp2_with fail
  refine (toByteS_any a N C f _ HA2.out hN).mono ?_
  rintro e w3 ⟨rfl, ho3, hb3⟩
  have HX3 : Hid (Own8 w3 w2.heap.size N f) := ho3
  have HW3 : Hid (Code8 w3 aw n g) := HW2.out.below hb3
  have HWL : Hid (∀ x, 0 < n → aw = some x → x.block < w2.heap.size) := HW2.out.lt
  have HA3 : Hid (Code8 w3 a N f) := HA2.out.below hb3
  have HB3 : Hid (Below w.heap.size w w3) := HB2.out.trans (hb3.mono HB2.out.size)
  have s23 := ho3.lt
  have s02 := HB2.out.size
  clear ho3 hb3 HW2 HA2 HB2
  generalize w2.heap.size = xb at *
  go_wp2_with fail
  refine (IM.out _ _ HX3.out.code).mono ?_
  rintro e w4 ⟨⟨ag, cg, rfl, hg⟩, hb4⟩
  have HG4 : Hid (OwnS w4 w3.heap.size ag n g) := hg
  have HX4 : Hid (Own8 w4 xb N f) := HX3.out.below hb4
  have HW4 : Hid (Code8 w4 aw n g) := HW3.out.below hb4
  have HA4 : Hid (Code8 w4 a N f) := HA3.out.below hb4
  have HB4 : Hid (Below w.heap.size w w4) := HB3.out.trans (hb4.mono HB3.out.size)
  have s34 := hb4.size
  clear hg hb4 HX3 HW3 HA3 HB3
  generalize w3.heap.size = gB at *
  go_wp2_with fail
  refine (eqByteS_yes ag aw n cg cw g _ HG4.out.code HW4.out hn).mono ?_
  rintro e w5 ⟨rfl, q5, rfl⟩
  have HG5 : Hid (OwnS (w4.drewN q5) gB ag n g) := HG4.out.drewN q5
  have HX5 : Hid (Own8 (w4.drewN q5) xb N f) := HX4.out.drewN q5
  have HW5 : Hid (Code8 (w4.drewN q5) aw n g) := HW4.out.drewN q5
  have HA5 : Hid (Code8 (w4.drewN q5) a N f) := HA4.out.drewN q5
  have HB5 : Hid (Below w.heap.size w (w4.drewN q5)) := below_drewN8 HB4.out q5
  have s45 : gB ≤ (w4.drewN q5).heap.size := s34
  clear HG4 HX4 HW4 HA4 HB4 s34
  generalize w4.drewN q5 = w5 at *
  go_wp2_with fail
  refine (toByteS_any a N C f _ HA5.out hN).mono ?_
  rintro e w6 ⟨rfl, ho6, hb6⟩
  have HY6 : Hid (Own8 w6 w5.heap.size N f) := ho6
  have HG6 : Hid (OwnS w6 gB ag n g) := HG5.out.below hb6
  have HX6 : Hid (Own8 w6 xb N f) := HX5.out.below hb6
  have HW6 : Hid (Code8 w6 aw n g) := HW5.out.below hb6
  have HA6 : Hid (Code8 w6 a N f) := HA5.out.below hb6
  have HB6 : Hid (Below w.heap.size w w6) := HB5.out.trans (hb6.mono HB5.out.size)
  have s56 := hb6.size
  clear ho6 hb6 HG5 HX5 HW5 HA5 HB5
  generalize w5.heap.size = yb at *
  go_wp2_with fail
  refine (eqByteS_yes _ _ N N N f _ HX6.out.code HY6.out.code hN).mono ?_
  rintro e w7 ⟨rfl, q7, rfl⟩
  have HG7 : Hid (OwnS (w6.drewN q7) gB ag n g) := HG6.out.drewN q7
  have HX7 : Hid (Own8 (w6.drewN q7) xb N f) := HX6.out.drewN q7
  have HW7 : Hid (Code8 (w6.drewN q7) aw n g) := HW6.out.drewN q7
  have HA7 : Hid (Code8 (w6.drewN q7) a N f) := HA6.out.drewN q7
  have HB7 : Hid (Below w.heap.size w (w6.drewN q7)) := below_drewN8 HB6.out q7
  have s67 : gB ≤ (w6.drewN q7).heap.size := Nat.le_trans s45 s56
  clear HG6 HX6 HW6 HA6 HB6 HY6 s56 s45
  generalize w6.drewN q7 = w7 at *
  go_wp2_with fail
  refine (markOwn xb N N f _ HX7.out hN).mono ?_
  rintro e w8 ⟨rfl, -, ho8⟩
  have BX : Below xb w7 w8 := ho8.toBelow (Nat.le_refl _) (by omega)
  have HG8 : Hid (OwnS w8 gB ag n g) := HG7.out.onlyB ho8 s23
  have HW8 : Hid (Code8 w8 aw n g) := HW7.out.belowO BX HWL.out
  have HA8 : Hid (Code8 w8 a N f) := HA7.out.belowO BX (fun x h0 hx => Nat.lt_of_lt_of_le (HLT.out x h0 hx) s02)
  have HB8 : Hid (Below w.heap.size w w8) := HB7.out.trans (BX.mono s02)
  have s78 : gB ≤ w8.heap.size := Nat.le_trans s67 ho8.size
  clear ho8 BX HG7 HX7 HW7 HA7 HB7 s67
  go_wp2_with fail
  refine (eqByteS_yes ag aw n cg cw g _ HG8.out.code HW8.out hn).mono ?_
  rintro e w9 ⟨rfl, q9, rfl⟩
  have HG9 : Hid (OwnS (w8.drewN q9) gB ag n g) := HG8.out.drewN q9
  have HW9 : Hid (Code8 (w8.drewN q9) aw n g) := HW8.out.drewN q9
  have HA9 : Hid (Code8 (w8.drewN q9) a N f) := HA8.out.drewN q9
  have HB9 : Hid (Below w.heap.size w (w8.drewN q9)) := below_drewN8 HB8.out q9
  have s89 : gB ≤ (w8.drewN q9).heap.size := s78
  clear HG8 HW8 HA8 HB8 s78
  generalize w8.drewN q9 = w9 at *
  go_wp2_with fail
  refine (markS ag gB n cg g _ HG9.out s89 hn).mono ?_
  rintro e wa ⟨rfl, hga, hba⟩
  have HGa : Hid (OwnS wa gB ag n mk8) := hga
  have HWa : Hid (Code8 wa aw n g) := HW9.out.belowO hba (fun x h0 hx => Nat.lt_trans (HWL.out x h0 hx) s23)
  have HAa : Hid (Code8 wa a N f) := HA9.out.belowO hba (fun x h0 hx => Nat.lt_of_lt_of_le (HLT.out x h0 hx) (by omega))
  have HBa : Hid (Below w.heap.size w wa) := HB9.out.trans (hba.mono (by omega))
  clear hga hba HG9 HW9 HA9 HB9 s89
  go_wp2_with fail
  refine (heldByteS_yes ag n cg _ HGa.out.code hn).mono ?_
  rintro e wb ⟨rfl, qb, rfl⟩
  have HGb : Hid (OwnS (wa.drewN qb) gB ag n mk8) := HGa.out.drewN qb
  have HWb : Hid (Code8 (wa.drewN qb) aw n g) := HWa.out.drewN qb
  have HAb : Hid (Code8 (wa.drewN qb) a N f) := HAa.out.drewN qb
  have HBb : Hid (Below w.heap.size w (wa.drewN qb)) := below_drewN8 HBa.out qb
  clear HGa HWa HAa HBa
  generalize wa.drewN qb = wb at *
  go_wp2_with fail
  refine (toByteS_any a N C f _ HAb.out hN).mono ?_
  rintro e wc ⟨rfl, hoc, hbc⟩
  have HZc : Hid (Own8 wc wb.heap.size N f) := hoc
  have HGc : Hid (OwnS wc gB ag n mk8) := HGb.out.below hbc
  have HWc : Hid (Code8 wc aw n g) := HWb.out.below hbc
  have HBc : Hid (Below w.heap.size w wc) := HBb.out.trans (hbc.mono HBb.out.size)
  clear hoc hbc HGb HWb HAb HBb
  generalize wb.heap.size = zb at *
  go_wp2_with fail
  refine (IM.out _ _ HZc.out.code).mono ?_
  rintro e wd ⟨⟨ah, ch, rfl, hh⟩, hbd⟩
  have HHd : Hid (Code8 wd ah n g) := hh.code
  have HGd : Hid (OwnS wd gB ag n mk8) := HGc.out.below hbd
  have HWd : Hid (Code8 wd aw n g) := HWc.out.below hbd
  have HBd : Hid (Below w.heap.size w wd) := HBc.out.trans (hbd.mono HBc.out.size)
  clear hh hbd HZc HGc HWc HBc
  go_wp2_with fail
  refine (eqByteS_yes ah aw n ch cw g _ HHd.out HWd.out hn).mono ?_
  rintro e we ⟨rfl, qe, rfl⟩
  have HGe : Hid (OwnS (wd.drewN qe) gB ag n mk8) := HGd.out.drewN qe
  have HBe : Hid (Below w.heap.size w (wd.drewN qe)) := below_drewN8 HBd.out qe
  clear HHd HGd HWd HBd
  generalize wd.drewN qe = we at *
  go_wp2_with fail
  refine (heldByteS_yes ag n cg _ HGe.out.code hn).mono ?_
  rintro e wf ⟨rfl, qf, rfl⟩
  have HBf : Hid (Below w.heap.size w (we.drewN qf)) := below_drewN8 HBe.out qf
  clear HGe HBe
  generalize we.drewN qf = wf at *
  go_wp2
  go_ret
  exact ⟨rfl, HBf.out⟩
end Go.Proofs.Ytbhlgcenfanicaa

/-
  The exact law of CbcDecrypt.
-/
namespace Go.Proofs.Ytbhlgcenfanicaa
open Go.ChangeShapes Go.WideShapes Go.ChangeAt Go.RowKit
theorem retI_ofD {N : Nat} {args : Array Value} {w : World} {n : Nat} {f : Nat → Nat} {code : Int} (h : Calls Try.prog N args w fun e w' => RetB2 w w' e n f (.int .i64 code) ∧ Below w.heap.size w w') : Calls Try.prog N args w fun e w' => RetI w w' e n f code ∧ Below w.heap.size w w' :=
  h.mono fun _ _ hh => ⟨hh.1.retI, hh.2⟩
theorem retI_nilD {N : Nat} {args : Array Value} {w : World} {f : Nat → Nat} {code : Int} (h : Calls Try.prog N args w fun e w' => e = .returned (.tuple #[.slice none 0 0, .int .i64 code]) ∧ w = w') : Calls Try.prog N args w fun e w' => RetI w w' e 0 f code ∧ Below w.heap.size w w' :=
  h.mono fun _ _ hh => ⟨by rw [hh.1]; exact RetI.nil, by rw [← hh.2]; exact Below.refl _ _⟩
theorem retI_nilB {N : Nat} {args : Array Value} {w : World} {f : Nat → Nat} {code : Int} (h : Calls Try.prog N args w fun e w' => e = .returned (.tuple #[.slice none 0 0, .int .i64 code]) ∧ Below w.heap.size w w') : Calls Try.prog N args w fun e w' => RetI w w' e 0 f code ∧ Below w.heap.size w w' :=
  h.mono fun _ _ hh => ⟨by rw [hh.1]; exact RetI.nil, hh.2⟩
theorem law_cbcDecrypt (k s : ByteArray) (a : Option Addr) (N C : Nat) (zs : List Int) (w : World) (h : IsRow .u8 w a N C zs) :
    Calls Try.prog 5 #[.string k, .string s, .slice a N C] w fun e w' => e = .returned (.bool true) ∧ Below w.heap.size w w' := by
  by_cases h0 : k.size ≤ 1048576 ∧ s.size ≤ 1048576 ∧ N ≤ 1048576
  · obtain ⟨hk0, hs0, hN0⟩ := h0
    obtain ⟨f, hf, hc⟩ := code8_of_row h
    by_cases h1 : 65536 < k.size ∨ 65536 < s.size ∨ 65536 < N
    · exact lawCbcDecrypt_of k s a N C 0 f f 2 hk0 hs0 hN0 (by omega) (fun b w _ => retI_ofD (specDcb_long k s _ N N f h1 w)) (fun b w _ => retI_nilD (implDcb_no k s _ N N 2 (by decide) (mf_long k s 16 N 65536 (by omega)) w)) w hc
    · by_cases h2 : (k.size = 16 ∨ k.size = 32) ∧ s.size = 16
      · by_cases h16 : N % 16 = 0
        · obtain ⟨kn, hkn, hk⟩ : ∃ kn, (kn = 4 ∨ kn = 8) ∧ k.size = kn * 4 := by
            rcases h2.1 with h | h
            · exact ⟨4, .inl rfl, h⟩
            · exact ⟨8, .inr rfl, h⟩
          by_cases hu : UnOK N (cbcD (Gf.ws (strB k) kn (3 * kn + 28)) (kn + 6) (strB s) f)
          · exact lawCbcDecrypt_of k s a N C _ f _ 0 hk0 hs0 hN0 (by omega) (fun b w hw => retI_ofD (specDcb_yes k s kn b 0 N N f hkn hk h2.2 (by omega) h16 hu.1 (Nat.le_refl _) hf _ rfl _ true (.inl ⟨hu, rfl, rfl⟩) 0 rfl w hw)) (fun b w hw => retI_ofD (implDcb_yes k s kn b 0 N N f hkn hk h2.2 (by omega) h16 (Nat.le_refl _) hf _ rfl hu w hw)) w hc
          · by_cases hz : N = 0
            · exact lawCbcDecrypt_of k s a N C 0 f f 3 hk0 hs0 hN0 (by omega) (fun b w _ => retI_ofD (specDcb_part k s _ N N f h2.1 h2.2 (by omega) (.inl hz) w)) (fun b w hw => retI_nilB (implDcb_form k s kn b 0 N N f hkn hk h2.2 (by omega) h16 (Nat.le_refl _) hf hu w hw)) w hc
            · exact lawCbcDecrypt_of k s a N C 0 f _ 3 hk0 hs0 hN0 (by omega) (fun b w hw => retI_ofD (specDcb_yes k s kn b 0 N N f hkn hk h2.2 (by omega) h16 (by omega) (Nat.le_refl _) hf _ rfl 0 false (.inr ⟨hu, rfl, rfl⟩) 3 rfl w hw)) (fun b w hw => retI_nilB (implDcb_form k s kn b 0 N N f hkn hk h2.2 (by omega) h16 (Nat.le_refl _) hf hu w hw)) w hc
        · exact lawCbcDecrypt_of k s a N C 0 f f 3 hk0 hs0 hN0 (by omega) (fun b w _ => retI_ofD (specDcb_part k s _ N N f h2.1 h2.2 (by omega) (.inr h16) w)) (fun b w _ => retI_nilD (implDcb_part k s _ N N h2.1 h2.2 (by omega) h16 w)) w hc
      · exact lawCbcDecrypt_of k s a N C 0 f f 1 hk0 hs0 hN0 (by omega) (fun b w _ => retI_ofD (specDcb_bad k s _ N N f (by omega) (by omega) (by omega) h2 w)) (fun b w _ => retI_nilD (implDcb_no k s _ N N 1 (by decide) (mf_bad k s 16 N 65536 (by omega) (by omega) (by omega) (by omega)) w)) w hc
  · clear h
    by_cases h1 : k.size ≤ 1048576
    · have e1 : ¬ (1048576 : Int) < k.size := by omega
      by_cases h2 : s.size ≤ 1048576
      · have e2 : ¬ (1048576 : Int) < s.size := by omega
        have e3 : (1048576 : Int) < N := by omega
        clear h0
        go_enter Try.func5, Try.ntmps5
        go_wp2
        go_ret
        exact ⟨rfl, Below.refl _ _⟩
      · have e2 : (1048576 : Int) < s.size := by omega
        clear h0
        go_enter Try.func5, Try.ntmps5
        go_wp2
        go_ret
        exact ⟨rfl, Below.refl _ _⟩
    · have e1 : (1048576 : Int) < k.size := by omega
      clear h0
      go_enter Try.func5, Try.ntmps5
      go_wp2
      go_ret
      exact ⟨rfl, Below.refl _ _⟩
end Go.Proofs.Ytbhlgcenfanicaa
