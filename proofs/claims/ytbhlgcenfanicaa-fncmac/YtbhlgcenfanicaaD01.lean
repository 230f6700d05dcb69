/-
  The contract of impl.CbcEncrypt.
-/
import Derived.Test.YtbhlgcenfanicaaModes
import Derived.Test.YtbhlgcenfanicaaStateOf2
import Derived.Test.YtbhlgcenfanicaaModelK
import Derived.Lib.AppendStr
import Derived.Laws.IdiomStrings
import Derived.Test.YtbhlgcenfanicaaModesMath
import Derived.Test.YtbhlgcenfanicaaZeros
import Derived.Test.YtbhlgcenfanicaaSrc
import Derived.Test.YtbhlgcenfanicaaSlices
import Derived.Test.YtbhlgcenfanicaaPadS
namespace Go.Proofs.Ytbhlgcenfanicaa
open Go.ChangeShapes Go.WideShapes Go.ChangeAt Go.RowKit
theorem Own8.stored {w : World} {b M : Nat} {F : Nat → Nat} (h : Own8 w b M F) (o n : Nat) (g : Nat → Nat) : Own8 (w.setCells b o (bv n g)) b M (fun x => if o ≤ x ∧ x < o + n then g (x - o) else F x) := by
  obtain ⟨m, G, hm, hr, hG⟩ := h
  refine ⟨m, _, hm, rowIs_setCells (bv n g) o w G hr, fun i hi => ?_⟩
  rw [bv_length]
  show _ = Value.int .u8 ((if o ≤ i ∧ i < o + n then g (i - o) else F i : Nat) : Int)
  by_cases e : o ≤ i ∧ i < o + n
  · rw [if_pos e, if_pos e, List.getD_eq_getElem?_getD, bv_at (by omega)]; rfl
  · rw [if_neg e, if_neg e]; exact hG i hi
theorem onlyB_setCells {b : Nat} {a : World} (vs : List Value) : ∀ (o : Nat) (w : World), OnlyB b a w → OnlyB b a (w.setCells b o vs) := by
  induction vs with
  | nil => intro o w h; exact h
  | cons v vs ih => intro o w h; exact ih (o + 1) _ (h.setCell o v)
theorem CiphAt.onlyBe {w w' : World} {C m b : Nat} {K : Nat → Nat} (h : CiphAt w C m K) (ho : OnlyB b w w') (hne : C ≠ b) : CiphAt w' C m K := fun k hk => by
  rw [World.cell?_of_block (w := w) (ho.block C h.lt hne)]; exact h k hk
theorem Row8.onlyB {w w' : World} {b c n : Nat} {t : TypeId} {f : Nat → Nat} (h : Row8 w b t n f) (ho : OnlyB c w w') (hne : b ≠ c) : Row8 w' b t n f := World.rowIs.of_block h (ho.block b h.lt hne)
theorem bA_same {f g : Nat → Nat} (h : Gf.Same f g) : bA 16 f = bA 16 g := bA_congr h
theorem implCbc_no (k s : ByteArray) (a : Option Addr) (n c : Nat) (code : Int) (hc : code ≠ 0) (hf : ∀ w : World, Calls Try.prog 24 #[.string k, .string s, .int .i64 16, .int .i64 (n : Int), .int .i64 65520] w fun e w' => e = .returned (.int .i64 code) ∧ w = w') (w : World) :
    Calls Try.prog 11 #[.string k, .string s, .slice a n c] w fun e w' => e = .returned (.tuple #[.slice none 0 0, .int .i64 code]) ∧ w = w' := by
  have HF : Hid (∀ w : World, Calls Try.prog 24 #[.string k, .string s, .int .i64 16, .int .i64 (n : Int), .int .i64 65520] w fun e w' => e = .returned (.int .i64 code) ∧ w = w') := hf
  have e1 : (code != 0) = true := by rw [bne_iff_ne]; exact hc
  clear hf
  go_enter Try.func11, Try.ntmps11
  go_wp2
  go_step3
  go_wp2_with (go_at_call 24; refine (HF.out _).mono ?_; rintro e w' ⟨rfl, rfl⟩)
  rw [Exit.noGoto_ret]
  go_ret2
  exact ⟨rfl, rfl⟩
/-- What holds where a block more begins: i blocks are done. -/
def CbcJ (w0 : World) (Cb m ob M C ab : Nat) (K iv P : Nat → Nat) (a' : Act) (w' : World) : Prop := ∃ (i : Nat) (ra : Option Addr) (L cr : Nat) (u0 u1 u2 u3 u4 u5 u6 u7 u8 u13 u14 u15 u16 u17 u18 u19 u20 u21 u22 u23 u24 u25 u26 u27 u28 u29 u30 u31 u32 u33 u34 u35 u36 u37 u38 u39 u40 u41 u42 u43 u44 u45 u46 : Value), a' = { tmps := #[u0, u1, u2, u3, u4, u5, u6, u7, u8, .pointer (some ⟨Cb, 0, none⟩), .slice (some ⟨ob, 0, none⟩) M C, .pointer (some ⟨ab, 0, none⟩), .slice ra L cr, u13, u14, u15, u16, u17, u18, u19, u20, u21, u22, u23, u24, u25, u26, u27, u28, u29, u30, u31, u32, u33, u34, u35, u36, u37, u38, u39, u40, u41, u42, u43, u44, u45, u46], defers := [] } ∧
  L = M - 16 * i ∧ 16 * i ≤ M ∧ (16 * i < M → ra = some ⟨ob, 16 * i, none⟩) ∧ L ≤ cr ∧ Own8 w' ob M (cbcTo K m iv P i) ∧ Row8 w' ab 39 16 (cbcB K m iv P i) ∧ CiphAt w' Cb m K ∧ Below w0.heap.size w0 w'
set_option maxRecDepth 100000 in
set_option maxHeartbeats 4000000 in
theorem implCbc_yes (k s : ByteArray) (kn b o n c : Nat) (f : Nat → Nat) (hkn : kn = 4 ∨ kn = 8) (hk : k.size = kn * 4) (hs : s.size = 16) (hn : n ≤ 65520) (hf : ∀ i, f i < 256) (w : World) (h : Code8 w (some ⟨b, o, none⟩) n f) :
    Calls Try.prog 11 #[.string k, .string s, .slice (some ⟨b, o, none⟩) n c] w fun e w' => RetB2 w w' e (n + fillN n) (cbcO (Gf.ws (strB k) kn (3 * kn + 28)) (kn + 6) (strB s) (padF n f)) (.int .i64 0) ∧ Below w.heap.size w w' := by
  have MF : Hid (∀ w : World, Calls Try.prog 24 #[.string k, .string s, .int .i64 16, .int .i64 (n : Int), .int .i64 65520] w fun e w' => e = .returned (.int .i64 0) ∧ w = w') := mf_ok k s 16 n 65520 (by omega) (by omega) (by omega) (by omega)
  have NC : Hid (∀ w : World, Calls Try.prog 25 #[.string k] w fun e w' => e = .returned (.agg (cA (kn + 6) (Gf.ws (strB k) kn (3 * kn + 28)))) ∧ Below w.heap.size w w') := newCipher_any k kn hkn hk
  have LW : Hid (∀ j, Gf.ws (strB k) kn (3 * kn + 28) j < 256) := Gf.ws_lt (strB_lt k) _
  generalize Gf.ws (strB k) kn (3 * kn + 28) = W at *
  obtain ⟨m, hm⟩ : ∃ m, m = kn + 6 := ⟨_, rfl⟩
  have hm1 : 1 ≤ m := by omega
  have hm2 : m ≤ 14 := by omega
  rw [← hm] at NC ⊢
  have PD : Hid (∀ w : World, Code8 w (some ⟨b, o, none⟩) n f → Calls Try.prog 32 #[.slice (some ⟨b, o, none⟩) n c] w fun e w' => RetB w w' e (n + fillN n) (padF n f) ∧ Below w.heap.size w w') := fun w h => padded_any b o n c f (by omega) w h
  have SO : Hid (∀ w : World, Calls Try.prog 33 #[.string s] w fun e w' => e = .returned (.agg (bA 16 (strB s))) ∧ Below w.heap.size w w') := stateOf_le s (by omega)
  have LI : Hid (∀ j, strB s j < 256) := strB_lt s
  have LP : Hid (∀ j, padF n f j < 256) := fun j => padF_lt hf j
  have hMm : (n + fillN n) % 16 = 0 := padN_mod n
  have hM2 : n + fillN n ≤ 65536 := by have := (fillN_bd n).2; omega
  generalize padF n f = P at *
  generalize n + fillN n = M at *
  generalize strB s = iv at *
  obtain ⟨Z, z0, hZ, -⟩ := Try.zeroC
  have S2 : Hid ((Try.prog.info? 44).map (·.size) = some (cA m W).size) := by rw [cA_size]; exact Try.sizeC
  have O2 : Hid ((cA m W).all (·.oneCell') = true) := cA_one _ _
  have hLen : (cA m W).toList.length = 769 := cA_len _ _
  have hAt : Hid (∀ k, k < 769 → (cA m W).toList[k]? = some (cf m W k)) := fun k hk => by
    have := cA_at (n := m) (K := W) hk
    rwa [← Array.getElem?_toList] at this
  have HSZ : Hid ((cA m W).size = 769) := cA_size _ _
  generalize cA m W = CA at *
  have HC : Hid (Code8 w (some ⟨b, o, none⟩) n f) := h
  have LB : Hid (∀ i j, cbcB W m iv P i j < 256) := fun i j => cbcB_lt LW.out LI.out LP.out i j
  clear h hf hkn hk hs hm
  go_enter Try.func11, Try.ntmps11
  go_wp2
  refine wp_scope_label 0 (fun a' w' => ∃ Cb ob C ab, (w.heap.size ≤ ob ∧ Cb < ob ∧ ob < ab) ∧ M ≤ C ∧ CbcJ w Cb m ob M C ab W iv P a' w') (fun a' _ => lenOf (a'.tmps.getD 12 undef)) rfl ?_ ?_
  · rintro a' wr ⟨Cb, ob, C, ab, ⟨hob, hCo, hoa⟩, hMC, i, ra, L, cr, u0, u1, u2, u3, u4, u5, u6, u7, u8, u13, u14, u15, u16, u17, u18, u19, u20, u21, u22, u23, u24, u25, u26, u27, u28, u29, u30, u31, u32, u33, u34, u35, u36, u37, u38, u39, u40, u41, u42, u43, u44, u45, u46, rfl, hL, hi, hra, hcr, ho, hr, hC, hB⟩
    have HO : Hid (Own8 wr ob M (cbcTo W m iv P i)) := ho
    have HR : Hid (Row8 wr ab 39 16 (cbcB W m iv P i)) := hr
    have CC : Hid (CiphAt wr Cb m W) := hC
    have HB : Hid (Below w.heap.size w wr) := hB
    clear ho hr hC hB
    clear SO PD HC NC MF S2 O2 hLen hAt HSZ z0 hZ
    by_cases hlt : 16 * i < M
    · have era := hra hlt
      subst era
      have hMi : 16 * i + 16 ≤ M := by omega
      have eL : ((L : Int) == 0) = false := by rw [beq_eq_false_iff_ne]; omega
      have xc : (16 : Int) ≤ (cr : Int) := by omega
      have xL : (16 : Int) ≤ (L : Int) := by omega
      have LF : Hid (∀ x, cbcTo W m iv P i x < 256) := fun x => by
        show cbcTo W m iv P i x < 256
        unfold cbcTo
        split
        · exact LB.out _ _
        · exact LP.out x
      obtain ⟨F2, hF2⟩ : ∃ F2 : Nat → Nat, F2 = fun x => if 16 * i ≤ x ∧ x < 16 * i + 16 then cbcTo W m iv P i x ^^^ cbcB W m iv P i (x - 16 * i) else cbcTo W m iv P i x := ⟨_, rfl⟩
      have AI : Hid (∀ w : World, Own8 w ob M (cbcTo W m iv P i) → Calls Try.prog 27 #[.slice (some ⟨ob, 16 * i, none⟩) 16 16, .agg (bA 16 (cbcB W m iv P i))] w fun e w' => e = .returned (.tuple #[]) ∧ Own8 w' ob M F2 ∧ OnlyB ob w w') := fun w h => by
        rw [hF2]
        exact addInto_any ob (16 * i) 16 16 M _ _ LF.out (fun j _ => LB.out i j) (Nat.le_refl _) hMi w h
      obtain ⟨X, hX⟩ : ∃ X : Nat → Nat, X = fun j => cbcB W m iv P i j ^^^ P (16 * i + j) := ⟨_, rfl⟩
      have hlX : ∀ j, X j < 256 := fun j => by rw [hX]; exact Gf.xor_lt (LB.out i j) (LP.out _)
      have hXS : ∀ j, j < 16 → F2 (16 * i + j) = X j := fun j hj => by
        rw [hF2, hX]
        show (if 16 * i ≤ 16 * i + j ∧ 16 * i + j < 16 * i + 16 then cbcTo W m iv P i (16 * i + j) ^^^ cbcB W m iv P i (16 * i + j - 16 * i) else cbcTo W m iv P i (16 * i + j)) = cbcB W m iv P i j ^^^ P (16 * i + j)
        rw [if_pos (by omega), show 16 * i + j - 16 * i = j from by omega, Nat.xor_comm]
        unfold cbcTo
        rw [if_neg (by omega)]
      obtain ⟨S, hS⟩ : ∃ S, S = kstr (fun j => F2 (16 * i + j)) 0 16 := ⟨_, rfl⟩
      have hSS : Gf.Same (strB S) X := fun j hj => by
        rw [hS, strB_kstr _ 0 16 j (by rw [Nat.zero_add, hXS j hj]; exact hlX j) hj, Nat.zero_add, hXS j hj]
      have SO2 : Hid (∀ w : World, Calls Try.prog 33 #[.string S] w fun e w' => e = .returned (.agg (bA 16 X)) ∧ Below w.heap.size w w') := fun w => by
        have := stateOf_le S (by rw [hS, kstr_size]; exact Nat.le_refl _) w
        rwa [bA_same hSS] at this
      have EX : Hid (Gf.enc W m X = cbcB W m iv P (i + 1)) := by show Gf.enc W m X = _; rw [hX]; rfl
      have EN : Hid (∀ w : World, CiphAt w Cb m W → Calls Try.prog 28 #[.pointer (some ⟨Cb, 0, none⟩), .agg (bA 16 X)] w fun e w' => e = .returned (.agg (bA 16 (cbcB W m iv P (i + 1)))) ∧ Below w.heap.size w w') := fun w h => by
        have := encrypt_any Cb m W X (fun j _ => hlX j) LW.out hm1 hm2 w h
        rwa [EX.out] at this
      have HFin : Hid (∀ x, x < M → (if 16 * i ≤ x ∧ x < 16 * i + 16 then cbcB W m iv P (i + 1) (x - 16 * i) else F2 x) = cbcTo W m iv P (i + 1) x) := fun x hx => by
        unfold cbcTo
        by_cases e : 16 * i ≤ x ∧ x < 16 * i + 16
        · rw [if_pos e, if_pos (by omega)]
          have := cbcO_at W m iv P i (x - 16 * i) (by omega)
          rw [show 16 * i + (x - 16 * i) = x from by omega] at this
          exact this.symm
        · rw [if_neg e, hF2]
          show (if 16 * i ≤ x ∧ x < 16 * i + 16 then _ else cbcTo W m iv P i x) = _
          rw [if_neg e]
          unfold cbcTo
          by_cases e2 : x < 16 * i
          · rw [if_pos e2, if_pos (by omega)]
          · rw [if_neg e2, if_neg (by omega)]
      have HS : Hid (S = kstr (fun j => F2 (16 * i + j)) 0 16) := hS
      have HL : Hid (L - 16 = M - 16 * (i + 1)) := by show L - 16 = _; omega
      generalize hG1 : cbcB W m iv P (i + 1) = G1 at *
      have HG1 : Hid (cbcB W m iv P (i + 1) = G1) := hG1
      clear hG1
      generalize cbcB W m iv P i = G0 at *
      clear hF2 hX hlX hXS hS hSS EX hra hL LF LB LP LI LW
      have eA0 : (bv 16 G0).toArray = bA 16 G0 := rfl
      have SA : Hid ((Try.prog.info? 39).map (·.size) = some (bA 16 G1).size) := by rw [bA_size]; exact Try.sizeSt
      have OA : Hid ((bA 16 G1).all (·.oneCell') = true) := bA_one _ _
      have TL : Hid ((bA 16 G1).toList = bv 16 G1) := bA_toList _ _
      have BS : Hid ((bA 16 G1).size = 16) := bA_size _ _
      generalize bA 16 G1 = GA at *
      go_wp2_with (refine wpList_load_mid rfl 39 (.tmp 11) rfl ab 0 rfl (bv 16 G0) _ HR.out.range Try.underlying39 rfl (by rw [bv_length]; exact Try.sizeSt) ?_)
      clear eA0
      refine (AI.out _ HO.out).mono ?_
      rintro e w1 ⟨rfl, ho1, hb1⟩
      have HO1 : Hid (Own8 w1 ob M F2) := ho1
      have HR1 : Hid (Row8 w1 ab 39 16 G0) := HR.out.onlyB hb1 (by omega)
      have CC1 : Hid (CiphAt w1 Cb m W) := CC.out.onlyBe hb1 (by omega)
      have HB1 : Hid (Below w.heap.size w w1) := HB.out.trans (hb1.toBelow hob HB.out.size)
      have hcv : (convert 22 9 (.slice (some ⟨ob, 16 * i, none⟩) 16 16)).run Try.prog w1 = .ok (.string S) w1 := by
        rw [HS.out]
        exact kstr_of_code (code8_of (fun j hj => ho1.cell (by omega)))
      clear ho1 hb1 HO HR CC HB AI HS
      generalize bA 16 G0 = GA0 at *
      generalize bA 16 X = XA at *
      go_wp2_with fail
      refine (SO2.out _).mono ?_
      rintro e w2 ⟨rfl, hb2⟩
      have HO2 : Hid (Own8 w2 ob M F2) := HO1.out.below hb2
      have HR2 : Hid (Row8 w2 ab 39 16 G0) := HR1.out.below hb2
      have CC2 : Hid (CiphAt w2 Cb m W) := CC1.out.below hb2
      have HB2 : Hid (Below w.heap.size w w2) := HB1.out.trans (hb2.mono HB1.out.size)
      clear hb2 HO1 HR1 CC1 HB1 SO2 hcv
      go_wp2_with fail
      refine (EN.out _ CC2.out).mono ?_
      rintro e w3 ⟨rfl, hb3⟩
      have HO3 : Hid (Own8 w3 ob M F2) := HO2.out.below hb3
      have HR3 : Hid (Row8 w3 ab 39 16 G0) := HR2.out.below hb3
      have CC3 : Hid (CiphAt w3 Cb m W) := CC2.out.below hb3
      have HB3 : Hid (Below w.heap.size w w3) := HB2.out.trans (hb3.mono HB2.out.size)
      clear hb3 HO2 HR2 CC2 HB2 EN
      have X3 : OnlyB ab w3 (w3.setCells ab 0 (bv 16 G1)) := onlyB_setCells _ _ _ (OnlyB.refl _ _)
      have HO4 : Hid (Own8 (w3.setCells ab 0 (bv 16 G1)) ob M F2) := HO3.out.onlyB X3 (by omega)
      have HR4 : Hid (Row8 (w3.setCells ab 0 (bv 16 G1)) ab 39 16 G1) := HR3.out.stored _
      have CC4 : Hid (CiphAt (w3.setCells ab 0 (bv 16 G1)) Cb m W) := CC3.out.onlyBe X3 (by omega)
      have HB4 : Hid (Below w.heap.size w (w3.setCells ab 0 (bv 16 G1))) := HB3.out.trans (X3.toBelow (by omega) HB3.out.size)
      go_upto_region 12 with (refine wpList_store_mid rfl 39 (.tmp 11) (.tmp 41) rfl ab 0 GA rfl rfl (by rw [BS.out]; exact HR3.out.there) SA.out OA.out ?_)
      rw [TL.out]
      clear HO3 HR3 CC3 HB3 X3 SA OA TL BS
      generalize w3.setCells ab 0 (bv 16 G1) = w4 at *
      have X5 : OnlyB ob w4 (w4.setCells ob (16 * i) (bv 16 G1)) := onlyB_setCells _ _ _ (OnlyB.refl _ _)
      have CP : ∀ ty, (Builtin.copy_ #[22, 22] ty #[.slice (some ⟨ob, 16 * i, none⟩) 16 16, .slice (some ⟨ab, 0, none⟩) 16 16]).run Try.prog w4 = .ok (.int .i64 16) (w4.setCells ob (16 * i) (bv 16 G1)) := fun ty => by
        have := run_copy_cells (P := Try.prog) w4 22 22 ty 5 ob (16 * i) 16 16 ⟨ab, 0, none⟩ 16 16 (bv 16 G1) Try.underlying22 size8 (by rw [bv_length]; rfl) (bv_news (code8_of (fun j hj => by rw [Nat.zero_add]; exact HR4.out.cell hj))) (fun j hj => by rw [bv_length] at hj; rw [HO4.out.cell (by omega)]; rfl) (fun j hj => HO4.out.frozen _) (bv_one _ _)
        rw [bv_length] at this
        exact this
      have HO5 : Hid (Own8 (w4.setCells ob (16 * i) (bv 16 G1)) ob M (cbcTo W m iv P (i + 1))) := (HO4.out.stored (16 * i) 16 G1).congr HFin.out
      have HR5 : Hid (Row8 (w4.setCells ob (16 * i) (bv 16 G1)) ab 39 16 G1) := HR4.out.onlyB X5 (by omega)
      have CC5 : Hid (CiphAt (w4.setCells ob (16 * i) (bv 16 G1)) Cb m W) := CC4.out.onlyBe X5 (by omega)
      have HB5 : Hid (Below w.heap.size w (w4.setCells ob (16 * i) (bv 16 G1))) := HB4.out.trans (X5.toBelow hob HB4.out.size)
      generalize w4.setCells ob (16 * i) (bv 16 G1) = w5 at *
      clear X5 HO4 HR4 CC4 HB4 HFin
      have HRa : Hid (∀ (ra : Option Addr), (ra = some ⟨ob, 16 * i + 16, none⟩ ∨ L - 16 = 0) → (16 * (i + 1) < M → ra = some ⟨ob, 16 * (i + 1), none⟩)) := fun ra hra2 hlt2 => by
        rcases hra2 with h | h
        · rw [h, Nat.mul_add]
        · have := HL.out; omega
      go_wp2
      all_goals
        go_step3
        refine ⟨rfl, ⟨Cb, ob, C, ab, ⟨hob, hCo, hoa⟩, hMC, i + 1, _, _, _, _, _, _, _, _, _, _, _, _, _, _, _, _, _, _, _, _, _, _, _, _, _, _, _, _, _, _, _, _, _, _, _, _, _, _, _, _, _, _, _, _, _, _, rfl, HL.out, by omega, HRa.out _ ?_, ?_, HO5.out, ?_, CC5.out, HB5.out⟩, ?_⟩
        · first | exact .inl rfl | (right; omega)
        · omega
        · rw [HG1.out]; exact HR5.out
        · show _ < L; simp [lenOf]; omega
    · have HO2 : Hid (Own8 wr ob M (cbcO W m iv P)) := HO.out.congr (fun x hx => by unfold cbcTo; rw [if_pos (by omega)])
      obtain rfl : L = 0 := by omega
      clear HO HR CC hra hL LB LP LI LW
      go_wp2
      rw [jump_ret]
      exact bodyPost_ret (results_tmp2 Try.results11 _ _ _) rfl ⟨⟨ob, C, ⟨hob, hMC⟩, rfl, HO2.out⟩, HB.out⟩
  · intro hp
    have SAi : Hid ((Try.prog.info? 39).map (·.size) = some (bA 16 iv).size) := by rw [bA_size]; exact Try.sizeSt
    have OAi : Hid ((bA 16 iv).all (·.oneCell') = true) := bA_one _ _
    have TLi : Hid ((bA 16 iv).toList = bv 16 iv) := bA_toList _ _
    have BSi : Hid ((bA 16 iv).size = 16) := bA_size _ _
    generalize bA 16 iv = IA at *
    go_upto_region 5 with (first
      | (go_at_call 24; refine (MF.out _).mono ?_; rintro e w' ⟨rfl, rfl⟩)
      | (go_at_call 25; refine (NC.out _).mono ?_; rintro e w1 ⟨rfl, hb⟩)
      | (refine wpList_store_mid rfl 44 (.tmp 9) (.tmp 23) rfl _ 0 CA rfl rfl ?_ S2.out O2.out ?_))
    · rw [HSZ.out]; exact there_big w1 Z _ hZ
    · have R1 : ((w1.alloc (.cells Z 44)).setCells w1.heap.size 0 CA.toList).rangeAt w1.heap.size 0 CA.toList := World.rangeAt_setCells_same _ _ _ _ (by rw [hLen]; exact there_big w1 Z _ hZ)
      have CC : Hid (CiphAt ((w1.alloc (.cells Z 44)).setCells w1.heap.size 0 CA.toList) w1.heap.size m W) := fun k hk => by
        have := R1 k _ (hAt.out k hk)
        rwa [Nat.zero_add] at this
      have hsz := hb.size
      have B1 : Hid (Below w.heap.size w ((w1.alloc (.cells Z 44)).setCells w1.heap.size 0 CA.toList)) := below_setCells hsz _ _ _ (hb.alloc hsz _)
      have HC1 : Hid (Code8 ((w1.alloc (.cells Z 44)).setCells w1.heap.size 0 CA.toList) (some ⟨b, o, none⟩) n f) := HC.out.below B1.out
      clear R1 hb NC MF S2 O2 hLen hAt HSZ z0 hZ HC
      generalize (w1.alloc (.cells Z 44)).setCells w1.heap.size 0 CA.toList = wz at *
      generalize w1.heap.size = Cb at *
      go_wp2_with fail
      refine (PD.out _ HC1.out).mono ?_
      rintro e w2 ⟨⟨ob, C, ⟨hob, hMC⟩, rfl, ho⟩, hb2⟩
      have CC2 : Hid (CiphAt w2 Cb m W) := CC.out.below hb2
      have hCz := CC.out.lt
      have B2 : Hid (Below w.heap.size w w2) := B1.out.trans (hb2.mono B1.out.size)
      have HO2 : Hid (Own8 w2 ob M P) := ho
      have hob' : w.heap.size ≤ ob := Nat.le_trans B1.out.size hob
      clear hb2 CC B1 ho HC1 PD
      go_wp2_with fail
      refine (SO.out _).mono ?_
      rintro e w3 ⟨rfl, hb3⟩
      have CC3 : Hid (CiphAt w3 Cb m W) := CC2.out.below hb3
      have B3 : Hid (Below w.heap.size w w3) := B2.out.trans (hb3.mono B2.out.size)
      have HO3 : Hid (Own8 w3 ob M P) := HO2.out.below hb3
      have hoa := HO3.out.lt
      clear hb3 CC2 B2 HO2 SO
      have Z3 : Hid (Row8 (w3.alloc (.cells z16 39)) w3.heap.size 39 16 (fun _ => 0)) := Row8.z16At rfl _
      have HO4 : Hid (Own8 (w3.alloc (.cells z16 39)) ob M P) := HO3.out.alloc _
      have B4 : Hid (Below w.heap.size w (w3.alloc (.cells z16 39))) := B3.out.alloc B3.out.size _
      have CC4 : Hid (CiphAt (w3.alloc (.cells z16 39)) Cb m W) := CC3.out.below ((Below.refl _ _).alloc (Nat.le_refl _) _)
      have hw3 := B3.out.size
      clear CC3 HO3 B3
      unfold z16 at Z3 HO4 B4 CC4
      go_wp2_with (refine wpList_store_mid rfl 39 (.tmp 11) (.tmp 27) rfl w3.heap.size 0 IA rfl rfl (by rw [BSi.out]; exact Z3.out.there) SAi.out OAi.out ?_)
      rw [TLi.out]
      generalize w3.alloc (.cells #[.int .u8 0, .int .u8 0, .int .u8 0, .int .u8 0, .int .u8 0, .int .u8 0, .int .u8 0, .int .u8 0, .int .u8 0, .int .u8 0, .int .u8 0, .int .u8 0, .int .u8 0, .int .u8 0, .int .u8 0, .int .u8 0] 39) = w4 at *
      generalize w3.heap.size = ab at *
      have X5 : OnlyB ab w4 (w4.setCells ab 0 (bv 16 iv)) := onlyB_setCells _ _ _ (OnlyB.refl _ _)
      have HO5 : Hid (Own8 (w4.setCells ab 0 (bv 16 iv)) ob M P) := HO4.out.onlyB X5 (by omega)
      have HR5 : Hid (Row8 (w4.setCells ab 0 (bv 16 iv)) ab 39 16 iv) := Z3.out.stored _
      have CC5 : Hid (CiphAt (w4.setCells ab 0 (bv 16 iv)) Cb m W) := CC4.out.onlyBe X5 (by omega)
      have HB5 : Hid (Below w.heap.size w (w4.setCells ab 0 (bv 16 iv))) := B4.out.trans (X5.toBelow (by omega) B4.out.size)
      generalize w4.setCells ab 0 (bv 16 iv) = w5 at *
      go_step3
      rename_i hKx
      refine hKx _ _ (hp _ _ ⟨Cb, ob, C, ab, ⟨hob', Nat.lt_of_lt_of_le hCz hob, hoa⟩, hMC, 0, _, _, C, _, _, _, _, _, _, _, _, _, _, _, _, _, _, _, _, _, _, _, _, _, _, _, _, _, _, _, _, _, _, _, _, _, _, _, _, _, _, _, _, _, _, _, rfl, by omega, by omega, fun _ => rfl, by omega, HO5.out.congr (fun x hx => by unfold cbcTo; rw [if_neg (by omega)]), HR5.out, CC5.out, HB5.out⟩)
end Go.Proofs.Ytbhlgcenfanicaa

/-
  The model's chains: l02Both, l02CbcEncrypt, CbcEncrypt.
-/
namespace Go.Proofs.Ytbhlgcenfanicaa
open Go.ChangeShapes Go.WideShapes Go.ChangeAt Go.RowKit
/-- n bytes from block b's head on, that may be written. -/
def WB (w : World) (b n : Nat) (f : Nat → Nat) : Prop := ∀ r, r < n → w.cell? ⟨b, r, none⟩ = some (.int .u8 (f r : Nat)) ∧ w.frozen? ⟨b, r, none⟩ = false
theorem WB.set {w : World} {b n : Nat} {f : Nat → Nat} (h : WB w b n f) (i v : Nat) : WB (w.setCell ⟨b, i, none⟩ (.int .u8 (v : Nat))) b n (fun r => if r = i then v else f r) := fun r hr => by
  have hr' := h r hr
  refine ⟨?_, by rw [World.frozen?_setCell]; exact hr'.2⟩
  by_cases e : r = i
  · subst e
    simp only [if_true]
    exact World.cell?_setCell_same _ _ _ hr'.1
  · simp only [if_neg e]
    rw [← hr'.1]
    exact World.cell?_setCell_other _ _ _ _ (by intro h; cases h; exact e rfl)
theorem WB.congr {w : World} {b n : Nat} {f g : Nat → Nat} (h : WB w b n f) (e : ∀ r, r < n → f r = g r) : WB w b n g := fun r hr => by rw [← e r hr]; exact h r hr
theorem WB.code {w : World} {b n : Nat} {f : Nat → Nat} (h : WB w b n f) : Code8 w (some ⟨b, 0, none⟩) n f := code8_of (fun i hi => by rw [Nat.zero_add]; exact (h i hi).1)
/-- A text as bytes of its own. -/
theorem bytesOf (s : ByteArray) (w : World) : ∃ wz gc, (convert 9 22 (.string s)).run Try.prog w = .ok (.slice (some ⟨w.heap.size, 0, none⟩) s.size gc) wz ∧ WB wz w.heap.size s.size (strB s) ∧ Below w.heap.size w wz ∧ s.size ≤ gc := by
  refine ⟨_, _, run_bytes_of_string w 9 22 5 s Try.underlying9 Try.underlying22 Try.underlying5, fun r hr => ?_, (Below.refl _ _).drew.alloc (Nat.le_refl _) _, grownCap_ge _ _ _ _⟩
  have hd : r < s.data.size := hr
  have hrow := bytesRow_at s (grownCap w s.size 0 5) r hd
  have hlt : r < (bytesRow s (grownCap w s.size 0 5)).size := by
    rcases Nat.lt_or_ge r (bytesRow s (grownCap w s.size 0 5)).size with h | h
    · exact h
    · rw [Array.getElem?_eq_none h] at hrow; cases hrow
  refine ⟨?_, ?_⟩
  · have e := World.cell?_alloc_mark w.drew (bytesRow s (grownCap w s.size 0 5)) 5 ((bytesRow s (grownCap w s.size 0 5)).size, (bytesRow s (grownCap w s.size 0 5)).size + 1) r
    refine e.trans ?_
    rw [hrow]
    simp [strB, hr, ByteArray.getElem_eq_getElem_data]
  · show (w.drew.alloc (.cells (bytesRow s (grownCap w s.size 0 5)) 5 ((bytesRow s (grownCap w s.size 0 5)).size, (bytesRow s (grownCap w s.size 0 5)).size + 1))).frozen? ⟨w.drew.heap.size, r, none⟩ = false
    rw [World.frozen?_alloc_mark]
    simp
    intro h
    omega
set_option maxRecDepth 100000 in
set_option maxHeartbeats 1000000 in
/-- spec.l02Both: a text of sixteen bytes, and sixteen bytes, summed. -/
theorem l02Both_any (s : ByteArray) (hs : s.size = 16) (b o c : Nat) (f : Nat → Nat) (hf : ∀ i, i < 16 → f i < 256) (w : World) (h : Code8 w (some ⟨b, o, none⟩) 16 f) :
    Calls Try.prog 43 #[.string s, .slice (some ⟨b, o, none⟩) 16 c] w fun e w' => e = .returned (.string (kstr (fun j => strB s j ^^^ f j) 0 16)) ∧ Below w.heap.size w w' := by
  obtain ⟨wz, gc, hcv, hWB, hBz, hgc⟩ := bytesOf s w
  rw [hs] at hcv hWB
  have hb : b < w.heap.size := h.lt _ (by omega) rfl
  have HC : Hid (Code8 w (some ⟨b, o, none⟩) 16 f) := h
  have HW : Hid (WB wz w.heap.size 16 (strB s)) := hWB
  have HBz : Hid (Below w.heap.size w wz) := hBz
  have HF : Hid (∀ i, i < 16 → f i < 256) := hf
  have LS : Hid (∀ j, strB s j < 256) := strB_lt s
  obtain ⟨A, hA⟩ : ∃ A, A = strB s := ⟨_, rfl⟩
  rw [← hA] at HW LS ⊢
  clear h hWB hBz hf hs hA hgc
  go_enter Try.func43, Try.ntmps43
  go_wp2
  go_loopw [6] (fun i wr => ∃ k : Nat, k ≤ 16 ∧ i = .int .i64 k ∧ WB wr w.heap.size 16 (fun j => if j < k then A j ^^^ f j else A j) ∧ Below w.heap.size w wr) (fun i _ => 16 - (intOf i).toNat)
  case atStart => exact ⟨0, by omega, rfl, HW.out.congr (fun j hj => by rw [if_neg (by omega)]), HBz.out⟩
  case round =>
    clear HW HBz hcv
    obtain ⟨k, hk, rfl, hw, hb2⟩ := hrel
    have HW : Hid (WB wr w.heap.size 16 (fun j => if j < k then A j ^^^ f j else A j)) := hw
    have HB : Hid (Below w.heap.size w wr) := hb2
    by_cases hlt : k < 16
    · have c1 := (hw k hlt).1
      simp only [Nat.lt_irrefl, if_false] at c1
      have f1 := (hw k hlt).2
      have c2 : wr.cell? ⟨b, o + k, none⟩ = some (.int .u8 (f k : Nat)) := by rw [hb2.cell (p := ⟨b, o + k, none⟩) hb]; exact HC.out.at hlt
      have ex : bits .xor .u8 (A k : Int) (f k : Int) = ((A k ^^^ f k : Nat) : Int) := u8_xor_nat _ _ (LS.out k) (HF.out k hlt)
      have x0 : (0 : Int) ≤ (k : Int) := by omega
      have x1 : (k : Int) < 16 := by omega
      have HV : Hid (∀ j, j < 16 → (if j = k then A k ^^^ f k else if j < k then A j ^^^ f j else A j) = if j < k + 1 then A j ^^^ f j else A j) := fun j hj => by
        by_cases e : j = k
        · subst e; rw [if_pos rfl, if_pos (by omega)]
        · rw [if_neg e]
          by_cases e2 : j < k
          · rw [if_pos e2, if_pos (by omega)]
          · rw [if_neg e2, if_neg (by omega)]
      have la := LS.out k
      have lf := HF.out k hlt
      obtain ⟨V, hV⟩ : ∃ V, V = A k ^^^ f k := ⟨_, rfl⟩
      rw [← hV] at ex HV
      clear hV hw hb2
      generalize A k = A1 at *
      generalize f k = A2 at *
      go_wp2_with fail
      go_region
      go_wp2
      go_roundw
      case rel =>
        refine ⟨k + 1, by omega, by go_num, (HW.out.set k V).congr HV.out, ?_⟩
        exact (HB.out.setCell (by exact Nat.le_refl _) _).drew
      case measure => simp [intOf]; omega
    · have hcv : (convert 22 9 (.slice (some ⟨w.heap.size, 0, none⟩) 16 gc)).run Try.prog wr = .ok (.string (kstr (fun j => A j ^^^ f j) 0 16)) wr := kstr_of_code (hw.congr (fun j hj => by rw [if_pos (by omega)])).code
      have x1 : ¬ (k : Int) < 16 := by omega
      clear hw hb2 HW
      go_wp2
      go_ret
      exact ⟨rfl, HB.out⟩
theorem strCells_bv (s : ByteArray) : Lib.strCells s = bv s.size (strB s) := (bv_text s s.size rfl).symm
end Go.Proofs.Ytbhlgcenfanicaa

/-
  The model's chains: l02CbcEncrypt, CbcEncrypt.
-/
namespace Go.Proofs.Ytbhlgcenfanicaa
open Go.ChangeShapes Go.WideShapes Go.ChangeAt Go.RowKit
set_option maxRecDepth 100000 in
set_option maxHeartbeats 4000000 in
/-- spec.l02CbcEncrypt -/
theorem l02Cbc_any (k s : ByteArray) (kn b o n c : Nat) (f : Nat → Nat) (hkn : kn = 4 ∨ kn = 8) (hk : k.size = kn * 4) (hs : s.size = 16) (hn : n ≤ 65520) (hf : ∀ i, f i < 256) (w : World) (h : Code8 w (some ⟨b, o, none⟩) n f) :
    Calls Try.prog 34 #[.string k, .string s, .slice (some ⟨b, o, none⟩) n c] w fun e w' => RetB w w' e (n + fillN n) (cbcO (Gf.ws (strB k) kn (3 * kn + 28)) (kn + 6) (strB s) (padF n f)) ∧ Below w.heap.size w w' := by
  obtain ⟨i0, hi⟩ := info_parts Try.info8
  have HI : Hid (Try.prog.info? 5 = some i0 ∧ i0.zero = some (.int .u8 0) ∧ i0.size = 1 ∧ i0.bytes = 1) := hi
  have TA : Hid (∀ w : World, Calls Try.prog 41 #[] w fun e w' => (∃ b, w.heap.size ≤ b ∧ e = .returned (.slice (some ⟨b, 0, none⟩) 256 256) ∧ w'.rowIs b 3 256 (fun j => .int .i64 (Gf.sub j : Nat))) ∧ Below w.heap.size w w') := table_any
  have KE : Hid (∀ (tb : Nat) (w : World), w.rowIs tb 3 256 (fun j => .int .i64 (Gf.sub j : Nat)) → Calls Try.prog 42 #[.string k, .slice (some ⟨tb, 0, none⟩) 256 256] w fun e w' => (∃ pb po ck, e = .returned (.slice (some ⟨pb, po, none⟩) (kn + 6 + 1) ck) ∧ MK w' pb po tb (kn + 6) (Gf.ws (strB k) kn (3 * kn + 28))) ∧ Below w.heap.size w w') := fun tb w h => mKeys k kn hkn hk tb w h
  have LW : Hid (∀ j, Gf.ws (strB k) kn (3 * kn + 28) j < 256) := Gf.ws_lt (strB_lt k) _
  generalize Gf.ws (strB k) kn (3 * kn + 28) = W at *
  obtain ⟨m, hm⟩ : ∃ m, m = kn + 6 := ⟨_, rfl⟩
  have hm1 : 1 ≤ m := by omega
  have hm2 : m ≤ 14 := by omega
  rw [← hm] at KE ⊢
  have PD : Hid (∀ w : World, Code8 w (some ⟨b, o, none⟩) n f → Calls Try.prog 59 #[.slice (some ⟨b, o, none⟩) n c] w fun e w' => RetB w w' e (n + fillN n) (padF n f) ∧ Below w.heap.size w w') := fun w h => l02Pad_any b o n c f (by omega) w h
  have LI : Hid (∀ j, strB s j < 256) := strB_lt s
  have LP : Hid (∀ j, padF n f j < 256) := fun j => padF_lt hf j
  have hMm : (n + fillN n) % 16 = 0 := padN_mod n
  have hM2 : n + fillN n ≤ 65536 := by have := (fillN_bd n).2; omega
  generalize padF n f = P at *
  generalize n + fillN n = M at *
  have HC : Hid (Code8 w (some ⟨b, o, none⟩) n f) := h
  obtain ⟨iv, hiv⟩ : ∃ iv, iv = strB s := ⟨_, rfl⟩
  have HIV : Hid (Gf.Same (strB s) (cbcB W m iv P 0)) := fun j _ => by rw [← hiv]; rfl
  rw [← hiv] at LI ⊢
  have LB : Hid (∀ i j, cbcB W m iv P i j < 256) := fun i j => cbcB_lt LW.out LI.out LP.out i j
  have HSs : Hid (s.size = 16) := hs
  clear h hf hkn hk hs hm hi hiv
  go_enter Try.func34, Try.ntmps34
  go_wp2_with fail
  refine (TA.out _).mono ?_
  rintro e w1 ⟨⟨tb, htb, rfl, hrow⟩, hB1⟩
  have HR : Hid (w1.rowIs tb 3 256 (fun j => .int .i64 (Gf.sub j : Nat))) := hrow
  have HB1 : Hid (Below w.heap.size w w1) := hB1
  clear hrow hB1
  go_wp2_with fail
  refine (KE.out tb w1 HR.out).mono ?_
  rintro e w2 ⟨⟨pb, po, ck, rfl, hmk⟩, hB2⟩
  have HM : Hid (MK w2 pb po tb m W) := hmk
  have HB2 : Hid (Below w.heap.size w w2) := HB1.out.trans (hB2.mono HB1.out.size)
  have HC2 : Hid (Code8 w2 (some ⟨b, o, none⟩) n f) := HC.out.below HB2.out
  clear hmk hB2 HR HB1 HC TA KE
  go_wp2_with fail
  refine (PD.out _ HC2.out).mono ?_
  rintro e w3 ⟨⟨pk, Cp, ⟨hpk, hMC⟩, rfl, ho⟩, hB3⟩
  have HP3 : Hid (Own8 w3 pk M P) := ho
  have HM3 : Hid (MK w3 pb po tb m W) := HM.out.below hB3
  have HB3 : Hid (Below w.heap.size w w3) := HB2.out.trans (hB3.mono HB2.out.size)
  have hpt := HM3.out.lt
  have hpl := ho.lt
  have hw3 := HB3.out.size
  clear ho hB3 HM HB2 HC2 PD
  have HO4 : Hid ((w3.alloc (.cells #[] 5)).ownsRow w3.heap.size 5 1 (.slice (some ⟨w3.heap.size, 0, none⟩) 0 0) 0 (bv 0 (cbcO W m iv P))) := World.ownsRow_made w3 #[] 0 (Nat.le_refl _) (Nat.zero_le _) (by simp)
  have HP4 : Hid (Own8 (w3.alloc (.cells #[] 5)) pk M P) := HP3.out.alloc _
  have HM4 : Hid (MK (w3.alloc (.cells #[] 5)) pb po tb m W) := HM3.out.alloc _
  have HB4 : Hid (Below w.heap.size w (w3.alloc (.cells #[] 5))) := HB3.out.alloc hw3 _
  have hw4 : w3.heap.size ≤ (w3.alloc (.cells #[] 5)).heap.size := by simp
  clear HP3 HM3 HB3
  go_wp2_with fail
  generalize w3.alloc (.cells #[] 5) = w4 at *
  generalize w3.heap.size = B0 at *
  go_loopw [10, 11, 12] (fun x l i wr => ∃ (q gb gc : Nat) (T : ByteArray), 16 * q ≤ M ∧ i = .int .i64 (16 * (q : Int)) ∧ l = .string T ∧ T.size = 16 ∧ Gf.Same (strB T) (cbcB W m iv P q) ∧ x = .slice (some ⟨gb, 0, none⟩) (16 * q) gc ∧ wr.ownsRow B0 5 1 (.slice (some ⟨gb, 0, none⟩) (16 * q) gc) (16 * q) (bv (16 * q) (cbcO W m iv P)) ∧ (Own8 wr pk M P ∧ MK wr pb po tb m W ∧ Below w.heap.size w wr ∧ B0 ≤ wr.heap.size)) (fun _ _ i _ => M - (intOf i).toNat)
  case atStart => exact ⟨0, B0, 0, s, by omega, rfl, rfl, HSs.out, HIV.out, rfl, HO4.out, HP4.out, HM4.out, HB4.out, hw4⟩
  case round =>
    clear HO4 HP4 HM4 HB4 hw4 HIV HSs
    obtain ⟨q, gb, gc, T, hq, rfl, rfl, hT, hTS, rfl, hown, hp, hmk, hb, hsz⟩ := hrel
    have HO : Hid (wr.ownsRow B0 5 1 (.slice (some ⟨gb, 0, none⟩) (16 * q) gc) (16 * q) (bv (16 * q) (cbcO W m iv P))) := hown
    have HP : Hid (Own8 wr pk M P) := hp
    have HM : Hid (MK wr pb po tb m W) := hmk
    have HB : Hid (Below w.heap.size w wr) := hb
    clear hown hp hmk hb
    by_cases hlt : 16 * q < M
    · have g1 : 16 * (q : Int) < (M : Int) := by omega
      have g0 : (0 : Int) ≤ 16 * (q : Int) := by omega
      have g2 : 16 * (q : Int) + 16 ≤ (Cp : Int) := by omega
      have g3 : 16 * (q : Int) ≤ 16 * (q : Int) + 16 := by omega
      have g4 : (16 * (q : Int)).toNat = 16 * q := by omega
      have g5 : (16 * (q : Int) + 16).toNat = 16 * q + 16 := by omega
      have g6 : ¬ Cp = 16 * q := by omega
      have g7 : 16 * q + 16 - 16 * q = 16 := by omega
      obtain ⟨S2, hS2⟩ : ∃ S2, S2 = kstr (fun j => strB T j ^^^ P (16 * q + j)) 0 16 := ⟨_, rfl⟩
      have BO : Hid (∀ w : World, Code8 w (some ⟨pk, 16 * q, none⟩) 16 (fun j => P (16 * q + j)) → Calls Try.prog 43 #[.string T, .slice (some ⟨pk, 16 * q, none⟩) 16 (Cp - 16 * q)] w fun e w' => e = .returned (.string S2) ∧ Below w.heap.size w w') := fun w h => by
        rw [hS2]
        exact l02Both_any T hT pk (16 * q) (Cp - 16 * q) (fun j => P (16 * q + j)) (fun j _ => LP.out _) w h
      have EN : Hid (∀ w : World, MK w pb po tb m W → Calls Try.prog 55 #[.slice (some ⟨pb, po, none⟩) (m + 1) ck, .slice (some ⟨tb, 0, none⟩) 256 256, .string S2] w fun e w' => e = .returned (.string (kstr (cbcB W m iv P (q + 1)) 0 16)) ∧ Below w.heap.size w w') := fun w h =>
        (mEnc pb po ck tb m W LW.out hm1 hm2 S2 (by rw [hS2, kstr_size]) w h).mono fun e w' hh => ⟨by
          rw [hh.1]
          refine congrArg (fun x => Ending.returned (.string x)) (kstr_same (Gf.same_enc (fun j hj => ?_)))
          rw [hS2, strB_kstr _ 0 16 j (by rw [Nat.zero_add]; exact Gf.xor_lt (strB_lt T j) (LP.out _)) hj, Nat.zero_add, hTS j hj], hh.2⟩
      have HG : Hid (bv (16 * q) (cbcO W m iv P) ++ Lib.strCells (kstr (cbcB W m iv P (q + 1)) 0 16) = bv (16 * (q + 1)) (cbcO W m iv P)) := by
        show bv (16 * q) (cbcO W m iv P) ++ Lib.strCells (kstr (cbcB W m iv P (q + 1)) 0 16) = _
        rw [strCells_bv, kstr_size, bv_append, Nat.mul_add]
        refine bv_congr (fun i hi => ?_)
        by_cases e : i < 16 * q
        · rw [if_pos e]
        · rw [if_neg e, strB_kstr _ 0 16 _ (by rw [Nat.zero_add]; exact LB.out _ _) (by omega), Nat.zero_add]
          have := cbcO_at W m iv P q (i - 16 * q) (by omega)
          rw [show 16 * q + (i - 16 * q) = i from by omega] at this
          exact this.symm
      have HS16 : Hid ((kstr (cbcB W m iv P (q + 1)) 0 16).size = 16) := kstr_size _ _ _
      have HTS : Hid (Gf.Same (strB (kstr (cbcB W m iv P (q + 1)) 0 16)) (cbcB W m iv P (q + 1))) := same_strB (fun j _ => LB.out _ _)
      have HCd : Hid (Code8 wr (some ⟨pk, 16 * q, none⟩) 16 (fun j => P (16 * q + j))) := code8_of (fun j hj => HP.out.cell (by omega))
      have HQ : Hid (16 * (q : Int) + 16 = 16 * ((q + 1 : Nat) : Int)) := by show 16 * (q : Int) + 16 = _; omega
      generalize kstr (cbcB W m iv P (q + 1)) 0 16 = E1 at *
      clear hS2 hT hTS
      go_wp2_with fail
      refine (BO.out _ HCd.out).mono ?_
      rintro e w5 ⟨rfl, hb5⟩
      have HO5 : Hid (w5.ownsRow B0 5 1 (.slice (some ⟨gb, 0, none⟩) (16 * q) gc) (16 * q) (bv (16 * q) (cbcO W m iv P))) := ownsRow_below8 HO.out hb5
      have HP5 : Hid (Own8 w5 pk M P) := HP.out.below hb5
      have HM5 : Hid (MK w5 pb po tb m W) := HM.out.below hb5
      have HB5 : Hid (Below w.heap.size w w5) := HB.out.trans (hb5.mono HB.out.size)
      have hsz5 := Nat.le_trans hsz hb5.size
      clear hb5 HO HP HM HB BO HCd hsz
      go_wp2_with fail
      refine (EN.out _ HM5.out).mono ?_
      rintro e w6 ⟨rfl, hb6⟩
      have HO6 : Hid (w6.ownsRow B0 5 1 (.slice (some ⟨gb, 0, none⟩) (16 * q) gc) (16 * q) (bv (16 * q) (cbcO W m iv P))) := ownsRow_below8 HO5.out hb6
      have HP6 : Hid (Own8 w6 pk M P) := HP5.out.below hb6
      have HM6 : Hid (MK w6 pb po tb m W) := HM5.out.below hb6
      have HB6 : Hid (Below w.heap.size w w6) := HB5.out.trans (hb6.mono HB5.out.size)
      have hsz6 := Nat.le_trans hsz5 hb6.size
      clear hb6 HO5 HP5 HM5 HB5 EN hsz5
      go_wp2_with (at_builtin; refine Lib.wpList_append_own_string _ rfl _ _ 22 9 rfl B0 5 i0 Try.underlying22 Try.underlying9 HI.out.1 HI.out.2.1 HI.out.2.2.1 HI.out.2.2.2 (.slice (some ⟨gb, 0, none⟩) (16 * q) gc) (16 * q) _ rfl HO6.out E1 rfl (by rw [HS16.out]; unfold maxLen; omega) (by rw [HS16.out]; omega) hsz6 ?_)
      intro v7 w7 hown7 hgrow7 hnil7
      rw [HS16.out, HG.out] at hown7
      have BG := grown_below HO6.out hgrow7 hsz6
      have HP7 : Hid (Own8 w7 pk M P) := HP6.out.of_block (BG.block pk hpl)
      have HM7 : Hid (MK w7 pb po tb m W) := HM6.out.belowAt BG hpt.1 hpt.2
      have HB7 : Hid (Below w.heap.size w w7) := HB6.out.trans (BG.mono hw3)
      have hsz7 := Nat.le_trans hsz6 BG.size
      obtain ⟨gb7, gc7, ⟨hgb7, hgc7⟩, rfl, -⟩ := own8_of_own (n := 16 * (q + 1)) hown7 hnil7
      have HO7 : Hid (w7.ownsRow B0 5 1 (.slice (some ⟨gb7, 0, none⟩) (16 * (q + 1)) gc7) (16 * (q + 1)) (bv (16 * (q + 1)) (cbcO W m iv P))) := hown7
      clear hown7 hgrow7 hnil7 BG HO6 HP6 HM6 HB6 HG
      go_wp2
      go_roundw
      case rel => exact ⟨q + 1, gb7, gc7, E1, by omega, numEq8 HQ.out, rfl, HS16.out, HTS.out, rfl, HO7.out, HP7.out, HM7.out, HB7.out, hsz7⟩
      case measure => simp [intOf]; omega
    · have g1 : ¬ 16 * (q : Int) < (M : Int) := by omega
      obtain rfl : M = 16 * q := by omega
      obtain ⟨gb7, gc7, ⟨hgb7, hgc7⟩, e7, ho7⟩ := own8_of_own (n := 16 * q) HO.out (by intro e; cases e)
      cases e7
      have HO7 : Hid (Own8 wr gb (16 * q) (cbcO W m iv P)) := ho7
      clear ho7 HO HP HM LB LP LI LW hTS
      go_wp2
      go_ret
      exact ⟨⟨gb, gc, ⟨Nat.le_trans hw3 hgb7, hgc7⟩, rfl, HO7.out⟩, HB.out⟩
theorem specCbc_long (k s : ByteArray) (a : Option Addr) (n c : Nat) (f : Nat → Nat) (h : 65536 < k.size ∨ 65536 < s.size ∨ 65520 < n) (w : World) :
    Calls Try.prog 12 #[.string k, .string s, .slice a n c] w fun e w' => RetB2 w w' e 0 f (.int .i64 2) ∧ Below w.heap.size w w' := by
  by_cases h1 : 65536 < k.size
  · have e1 : (65536 : Int) < k.size := by omega
    go_enter Try.func12, Try.ntmps12
    go_wp2
    go_ret2
    exact ⟨RetB2.made w f _, (Below.refl _ _).alloc (Nat.le_refl _) _⟩
  · have e1 : ¬ (65536 : Int) < k.size := by omega
    by_cases h2 : 65536 < s.size
    · have e2 : (65536 : Int) < s.size := by omega
      go_enter Try.func12, Try.ntmps12
      go_wp2
      go_ret2
      exact ⟨RetB2.made w f _, (Below.refl _ _).alloc (Nat.le_refl _) _⟩
    · have e2 : ¬ (65536 : Int) < s.size := by omega
      have e3 : (65520 : Int) < n := by omega
      go_enter Try.func12, Try.ntmps12
      go_wp2
      go_ret2
      exact ⟨RetB2.made w f _, (Below.refl _ _).alloc (Nat.le_refl _) _⟩
theorem specCbc_bad (k s : ByteArray) (a : Option Addr) (n c : Nat) (f : Nat → Nat) (h1 : k.size ≤ 65536) (h2 : s.size ≤ 65536) (h3 : n ≤ 65520) (h : ¬ ((k.size = 16 ∨ k.size = 32) ∧ s.size = 16)) (w : World) :
    Calls Try.prog 12 #[.string k, .string s, .slice a n c] w fun e w' => RetB2 w w' e 0 f (.int .i64 1) ∧ Below w.heap.size w w' := by
  have e1 : ¬ (65536 : Int) < k.size := by omega
  have e2 : ¬ (65536 : Int) < s.size := by omega
  have e3 : ¬ (65520 : Int) < n := by omega
  by_cases hk : k.size = 16 ∨ k.size = 32
  · have e4 : ((s.size : Int) != 16) = true := by rw [bne_iff_ne]; omega
    have KO : Hid (∀ w : World, Calls Try.prog 30 #[.string k] w fun e w' => e = .returned (.bool true) ∧ w = w') := l01Key_yes k hk
    clear h hk
    go_enter Try.func12, Try.ntmps12
    go_wp2_with (go_at_call 30; refine (KO.out _).mono ?_; rintro e w' ⟨rfl, rfl⟩)
    go_ret2
    exact ⟨RetB2.made w f _, (Below.refl _ _).alloc (Nat.le_refl _) _⟩
  · have KO : Hid (∀ w : World, Calls Try.prog 30 #[.string k] w fun e w' => e = .returned (.bool false) ∧ w = w') := l01Key_no k (by omega) (by omega)
    clear h hk
    go_enter Try.func12, Try.ntmps12
    go_wp2_with (go_at_call 30; refine (KO.out _).mono ?_; rintro e w' ⟨rfl, rfl⟩)
    go_ret2
    exact ⟨RetB2.made w f _, (Below.refl _ _).alloc (Nat.le_refl _) _⟩
theorem specCbc_yes (k s : ByteArray) (kn b o n c : Nat) (f : Nat → Nat) (hkn : kn = 4 ∨ kn = 8) (hk : k.size = kn * 4) (hs : s.size = 16) (hn : n ≤ 65520) (hf : ∀ i, f i < 256) (w : World) (h : Code8 w (some ⟨b, o, none⟩) n f) :
    Calls Try.prog 12 #[.string k, .string s, .slice (some ⟨b, o, none⟩) n c] w fun e w' => RetB2 w w' e (n + fillN n) (cbcO (Gf.ws (strB k) kn (3 * kn + 28)) (kn + 6) (strB s) (padF n f)) (.int .i64 0) ∧ Below w.heap.size w w' := by
  have e1 : ¬ (65536 : Int) < k.size := by omega
  have e2 : ¬ (65536 : Int) < s.size := by omega
  have e3 : ¬ (65520 : Int) < n := by omega
  have e4 : ((s.size : Int) != 16) = false := by rw [bne_eq_false_iff_eq]; omega
  have KO : Hid (∀ w : World, Calls Try.prog 30 #[.string k] w fun e w' => e = .returned (.bool true) ∧ w = w') := l01Key_yes k (by omega)
  have LC : Hid (Calls Try.prog 34 #[.string k, .string s, .slice (some ⟨b, o, none⟩) n c] w fun e w' => RetB w w' e (n + fillN n) (cbcO (Gf.ws (strB k) kn (3 * kn + 28)) (kn + 6) (strB s) (padF n f)) ∧ Below w.heap.size w w') := l02Cbc_any k s kn b o n c f hkn hk hs hn hf w h
  generalize cbcO (Gf.ws (strB k) kn (3 * kn + 28)) (kn + 6) (strB s) (padF n f) = g at *
  generalize n + fillN n = M at *
  clear h hf hkn hk hs
  go_enter Try.func12, Try.ntmps12
  go_wp2_with (go_at_call 30; refine (KO.out _).mono ?_; rintro e w' ⟨rfl, rfl⟩)
  refine LC.out.mono ?_
  rintro e w1 ⟨⟨b2, c2, hb2, rfl, ho⟩, hB⟩
  have B1 : Hid (Below w.heap.size w w1) := hB
  have HO : Hid (Own8 w1 b2 M g) := ho
  clear ho hB
  go_wp2
  go_ret2
  exact ⟨⟨_, _, hb2, rfl, HO.out⟩, B1.out⟩
end Go.Proofs.Ytbhlgcenfanicaa

/-
  CMAC, as plain mathematics.
-/
namespace Go.Proofs.Ytbhlgcenfanicaa
/-- A block doubled. -/
def dblB (s : Nat → Nat) (j : Nat) : Nat := if j = 15 then (s 15 * 2 % 256) ^^^ (if 128 ≤ s 0 then 135 else 0) else (s j * 2 % 256) ||| (s (j + 1) / 128)
theorem or_lt8 {a b : Nat} (ha : a < 256) (hb : b < 256) : a ||| b < 256 := Nat.or_lt_two_pow (n := 8) ha hb
theorem dblB_lt {s : Nat → Nat} (hs : ∀ j, j < 16 → s j < 256) (j : Nat) (hj : j < 16) : dblB s j < 256 := by
  unfold dblB
  split
  · refine Gf.xor_lt (Nat.mod_lt _ (by omega)) ?_
    split
    · omega
    · omega
  · have := hs (j + 1) (by omega)
    exact or_lt8 (Nat.mod_lt _ (by omega)) (by omega)
theorem same_dblB {f g : Nat → Nat} (h : Gf.Same f g) : Gf.Same (dblB f) (dblB g) := fun j hj => by
  unfold dblB
  by_cases e : j = 15
  · rw [if_pos e, if_pos e, h 15 (by omega), h 0 (by omega)]
  · rw [if_neg e, if_neg e, h j hj, h (j + 1) (by omega)]
/-- How many blocks come ahead of the last one. -/
def cmQ (n : Nat) : Nat := (n - 1) / 16
/-- The last block, filled up if it is not whole. -/
def lastS (n : Nat) (b : Nat → Nat) (j : Nat) : Nat := if 16 * cmQ n + j < n then b (16 * cmQ n + j) else if 16 * cmQ n + j = n then 128 else 0
/-- The mask of the last block. -/
def maskB (K : Nat → Nat) (R n : Nat) : Nat → Nat := if n - 16 * cmQ n < 16 then dblB (dblB (Gf.enc K R (fun _ => 0))) else dblB (Gf.enc K R (fun _ => 0))
/-- The code of n bytes. -/
def cmacB (K : Nat → Nat) (R n : Nat) (b : Nat → Nat) : Nat → Nat := Gf.enc K R (fun j => cbcB K R (fun _ => 0) b (cmQ n) j ^^^ (lastS n b j ^^^ maskB K R n j))
theorem lastS_lt {n : Nat} {b : Nat → Nat} (hb : ∀ j, b j < 256) (j : Nat) : lastS n b j < 256 := by
  unfold lastS
  split
  · exact hb _
  · split
    · omega
    · omega
theorem maskB_lt {K : Nat → Nat} {R n : Nat} (hK : ∀ j, K j < 256) (j : Nat) (hj : j < 16) : maskB K R n j < 256 := by
  have h1 : ∀ j, j < 16 → dblB (Gf.enc K R (fun _ => 0)) j < 256 := dblB_lt (fun j _ => Gf.enc_lt hK (fun _ _ => by show (0 : Nat) < 256; omega) j)
  unfold maskB
  split
  · exact dblB_lt h1 j hj
  · exact h1 j hj
end Go.Proofs.Ytbhlgcenfanicaa

/-
  The contract of impl.doubledBlock.
-/
namespace Go.Proofs.Ytbhlgcenfanicaa
open Go.ChangeShapes Go.WideShapes Go.ChangeAt Go.RowKit
theorem u8_or_two (a b : Nat) (hb : b < 256) : bits BinOp.or IntKind.u8 ((a : Int) * 2 % 256) ((b : Int) / 128) = ((a * 2 % 256 ||| b / 128 : Nat) : Int) := by
  have := u8_or_nat (a * 2 % 256) (b / 128) (by omega) (by omega)
  rw [← this]
  congr 1
theorem u8_dbl_last (a b : Nat) (hb : b < 256) : bits BinOp.xor IntKind.u8 ((a : Int) * 2 % 256) ((b : Int) / 128 * 135) = (((a * 2 % 256) ^^^ (if 128 ≤ b then 135 else 0) : Nat) : Int) := by
  have e1 : (a : Int) * 2 % 256 = ((a * 2 % 256 : Nat) : Int) := by omega
  have e2 : (b : Int) / 128 * 135 = ((if 128 ≤ b then 135 else 0 : Nat) : Int) := by split <;> omega
  rw [e1, e2]
  exact u8_xor_nat _ _ (Nat.mod_lt _ (by omega)) (by split <;> omega)
set_option maxRecDepth 100000 in
set_option maxHeartbeats 2000000 in
theorem doubled_any (f : Nat → Nat) (hf : ∀ i, i < 16 → f i < 256) (w : World) :
    Calls Try.prog 38 #[.agg (bA 16 f)] w fun e w' => e = .returned (.agg (bA 16 (dblB f))) ∧ Below w.heap.size w w' := by
  have HF : Hid (∀ i, i < 16 → f i < 256) := hf
  have R0 : Hid (Row8 ((w.alloc (.cells (bA 16 f) 39)).alloc (.cells z16 39)) w.heap.size 39 16 f) := (Row8.boxedAt rfl _ _ _).alloc _
  have Z0 : Hid (Row8 ((w.alloc (.cells (bA 16 f) 39)).alloc (.cells z16 39)) (w.heap.size + 1) 39 16 (fun _ => 0)) := Row8.z16At (by simp) _
  have B0 : Hid (Below w.heap.size w ((w.alloc (.cells (bA 16 f) 39)).alloc (.cells z16 39))) := ((Below.refl _ _).alloc (Nat.le_refl _) _).alloc (by simp) _
  clear hf
  unfold z16 at R0 Z0 B0
  go_enter Try.func38, Try.ntmps38
  go_upto_region 1 with fail
  generalize (w.alloc (.cells (bA 16 f) 39)).alloc (.cells #[.int .u8 0, .int .u8 0, .int .u8 0, .int .u8 0, .int .u8 0, .int .u8 0, .int .u8 0, .int .u8 0, .int .u8 0, .int .u8 0, .int .u8 0, .int .u8 0, .int .u8 0, .int .u8 0, .int .u8 0, .int .u8 0] 39) = wz at *
  generalize bA 16 f = FA at *
  have c0 := World.rowIs.cell R0.out (i := 0) (by omega)
  have l0 := HF.out 0 (by omega)
  obtain ⟨F0, hF0⟩ : ∃ F0, F0 = f 0 := ⟨_, rfl⟩
  rw [← hF0] at c0 l0
  have HF0 : Hid (F0 = f 0) := hF0
  clear hF0
  go_wp2_with fail
  go_loopw [4, 8] (fun _ i wr => ∃ k : Nat, k ≤ 15 ∧ i = .int .i64 k ∧ Row8 wr w.heap.size 39 16 (fun j => if j < k then dblB f j else f j) ∧ Row8 wr (w.heap.size + 1) 39 16 (fun _ => 0) ∧ Below w.heap.size w wr) (fun _ i _ => 15 - (intOf i).toNat)
  case atStart => exact ⟨0, by omega, rfl, R0.out.congr (fun j hj => by rw [if_neg (by omega)]), Z0.out, B0.out⟩
  case round =>
    clear R0 Z0 B0 c0
    obtain ⟨k, hk, rfl, hr, hz, hb⟩ := hrel
    have HR : Hid (Row8 wr w.heap.size 39 16 (fun j => if j < k then dblB f j else f j)) := hr
    have HZ : Hid (Row8 wr (w.heap.size + 1) 39 16 (fun _ => 0)) := hz
    have HB : Hid (Below w.heap.size w wr) := hb
    by_cases hlt : k < 15
    · have c1 := World.rowIs.cell hr (i := k) (by omega)
      simp only [Nat.lt_irrefl, if_false] at c1
      have c2 := World.rowIs.cell hr (i := k + 1) (by omega)
      simp only [show ¬ (k + 1 < k) from by omega, if_false] at c2
      have f1 := World.rowIs.frozen hr k
      have l1 := HF.out k (by omega)
      have l2 := HF.out (k + 1) (by omega)
      have x0 : (0 : Int) ≤ (k : Int) := by omega
      have x1 : (k : Int) < 15 := by omega
      have x2 : (k : Int) < 16 := by omega
      have x3 : (k : Int) + 1 < 16 := by omega
      have x4 : ((k : Int) + 1).toNat = k + 1 := by omega
      obtain ⟨V, hV⟩ : ∃ V, V = (f k * 2 % 256) ||| (f (k + 1) / 128) := ⟨_, rfl⟩
      have ex : bits .or .u8 ((f k : Int) * 2 % 256) ((f (k + 1) : Int) / 128) = ((V : Nat) : Int) := by rw [hV]; exact u8_or_two _ _ l2
      have HV : Hid (∀ j, j < 16 → (if j = k then V else if j < k then dblB f j else f j) = if j < k + 1 then dblB f j else f j) := fun j hj => by
        by_cases e : j = k
        · subst e
          rw [if_pos rfl, if_pos (by omega), hV]
          unfold dblB
          rw [if_neg (by omega)]
        · rw [if_neg e]
          by_cases e2 : j < k
          · rw [if_pos e2, if_pos (by omega)]
          · rw [if_neg e2, if_neg (by omega)]
      clear hV hr hz hb
      generalize f k = A1 at *
      generalize f (k + 1) = A2 at *
      go_wp2_with fail
      go_region
      go_wp2
      go_roundw
      case rel =>
        refine ⟨k + 1, by omega, by go_num, (HR.out.set k V).congr HV.out, HZ.out.other (by show w.heap.size + 1 ≠ w.heap.size; omega) _, ?_⟩
        exact (HB.out.setCell (by exact Nat.le_refl _) _).drew
      case measure => simp [intOf]; omega
    · have ek : k = 15 := by omega
      have hr : Row8 wr w.heap.size 39 16 (fun j => if j < 15 then dblB f j else f j) := by rw [← ek]; exact HR.out
      have x1 : ¬ (k : Int) < 15 := by omega
      have HR : Hid (Row8 wr w.heap.size 39 16 (fun j => if j < 15 then dblB f j else f j)) := hr
      clear ek
      have c1 := World.rowIs.cell hr (i := 15) (by omega)
      simp only [Nat.lt_irrefl, if_false] at c1
      have f1 := World.rowIs.frozen hr 15
      have l1 := HF.out 15 (by omega)
      obtain ⟨V, hV⟩ : ∃ V, V = (f 15 * 2 % 256) ^^^ (if 128 ≤ f 0 then 135 else 0) := ⟨_, rfl⟩
      have ex : bits .xor .u8 ((f 15 : Int) * 2 % 256) ((F0 : Int) / 128 * 135) = ((V : Nat) : Int) := by
        rw [hV, ← HF0.out]; exact u8_dbl_last _ _ l0
      have HRf : Hid (∀ w' : World, Row8 w' w.heap.size 39 16 (fun j => if j = 15 then V else if j < 15 then dblB f j else f j) → Row8 w' w.heap.size 39 16 (dblB f)) := fun w' h => h.congr (fun j hj => by
        by_cases e : j = 15
        · subst e; rw [if_pos rfl, hV]; unfold dblB; rw [if_pos rfl]
        · rw [if_neg e, if_pos (by omega)])
      have HR2 : Hid (Row8 (wr.setCell ⟨w.heap.size, 15, none⟩ (.int .u8 (V : Nat))) w.heap.size 39 16 (dblB f)) := HRf.out _ (HR.out.set 15 V)
      have HZ2 : Hid (Row8 (wr.setCell ⟨w.heap.size, 15, none⟩ (.int .u8 (V : Nat))) (w.heap.size + 1) 39 16 (fun _ => 0)) := HZ.out.other (by show w.heap.size + 1 ≠ w.heap.size; omega) _
      have HB2 : Hid (Below w.heap.size w (wr.setCell ⟨w.heap.size, 15, none⟩ (.int .u8 (V : Nat)))) := HB.out.setCell (by exact Nat.le_refl _) _
      clear hV hr hz hb HR HZ HB HRf
      generalize f 15 = A1 at *
      go_upto_region 8 with fail
      generalize wr.setCell ⟨w.heap.size, 15, none⟩ (.int .u8 (V : Nat)) = ws at *
      generalize hG : dblB f = G at *
      have HG : Hid (dblB f = G) := hG
      clear hG
      refine wp_region_lit ?_
      refine wpList_load_mid rfl 39 (.tmp 1) rfl w.heap.size 0 rfl (bv 16 G) _ HR2.out.range Try.underlying39 rfl (by rw [bv_length]; exact Try.sizeSt) ?_
      refine wpList_store_mid rfl 39 (.tmp 2) (.tmp 31) rfl (w.heap.size + 1) 0 (bA 16 G) rfl rfl (by rw [bA_size]; exact HZ2.out.there) (by rw [bA_size]; exact Try.sizeSt) (bA_one _ _) ?_
      rw [bA_toList]
      have L : Hid ((loadVar 39 ⟨w.heap.size + 1, 0, none⟩).run Try.prog (ws.setCells (w.heap.size + 1) 0 (bv 16 G)) = .ok (.agg (bA 16 G)) (ws.setCells (w.heap.size + 1) 0 (bv 16 G))) := (HZ2.out.stored _).load Try.underlying39 rfl Try.sizeSt
      have B : Hid (Below w.heap.size w (ws.setCells (w.heap.size + 1) 0 (bv 16 G))) := below_setCells (by omega) _ _ _ HB2.out
      have eA : (bv 16 G).toArray = bA 16 G := rfl
      rw [eA]
      generalize ws.setCells (w.heap.size + 1) 0 (bv 16 G) = wf at *
      generalize hA : bA 16 G = AA at *
      have HA : Hid (bA 16 G = AA) := hA
      clear hA eA
      go_wp2
      rw [HG.out, HA.out]
      exact bodyPost_ret (v := .agg AA) (results_cell_one (b := w.heap.size + 1) (o := 0) Try.results38 _ _ _ rfl L.out) rfl ⟨rfl, B.out⟩
end Go.Proofs.Ytbhlgcenfanicaa

/-
  The contract of impl.lastBlock.
-/
namespace Go.Proofs.Ytbhlgcenfanicaa
open Go.ChangeShapes Go.WideShapes Go.ChangeAt Go.RowKit
/-- r bytes filled up to a block. -/
def fillB (r : Nat) (f : Nat → Nat) (j : Nat) : Nat := if j < r then f j else if j = r then 128 else 0
theorem fillB_lt {r : Nat} {f : Nat → Nat} (hf : ∀ i, f i < 256) (j : Nat) : fillB r f j < 256 := by
  unfold fillB
  split
  · exact hf j
  · split <;> omega
set_option maxRecDepth 100000 in
set_option maxHeartbeats 2000000 in
/-- The end of lastBlock: both states summed into the result. -/
theorem lastBlock_any (b o r c : Nat) (f g : Nat → Nat) (hf : ∀ i, f i < 256) (hg : ∀ i, i < 16 → g i < 256) (hr : r ≤ 16) (w : World) (h : Code8 w (some ⟨b, o, none⟩) r f) :
    Calls Try.prog 39 #[.slice (some ⟨b, o, none⟩) r c, .agg (bA 16 g)] w fun e w' => e = .returned (.agg (bA 16 (fun j => fillB r f j ^^^ (if r < 16 then dblB g else g) j))) ∧ Below w.heap.size w w' := by
  have DB : Hid (∀ w : World, Calls Try.prog 38 #[.agg (bA 16 g)] w fun e w' => e = .returned (.agg (bA 16 (dblB g))) ∧ Below w.heap.size w w') := doubled_any g hg
  have AD : Hid (∀ w : World, Calls Try.prog 37 #[.agg (bA 16 (fillB r f)), .agg (bA 16 (if r < 16 then dblB g else g))] w fun e w' => e = .returned (.agg (bA 16 (fun j => fillB r f j ^^^ (if r < 16 then dblB g else g) j))) ∧ Below w.heap.size w w') := added_any _ _ (fun j _ => fillB_lt hf j) (fun j hj => by
    split
    · exact dblB_lt hg j hj
    · exact hg j hj)
  have W0 : ((w.alloc (.cells (bA 16 g) 39)).alloc (.cells z16 39)).alloc (.cells z16 39) = ((w.alloc (.cells (bA 16 g) 39)).alloc (.cells z16 39)).alloc (.cells z16 39) := rfl
  clear W0
  have M0 : Hid (Row8 (((w.alloc (.cells (bA 16 g) 39)).alloc (.cells z16 39)).alloc (.cells z16 39)) w.heap.size 39 16 g) := ((Row8.boxedAt rfl _ _ _).alloc _).alloc _
  have E0 : Hid (Row8 (((w.alloc (.cells (bA 16 g) 39)).alloc (.cells z16 39)).alloc (.cells z16 39)) (w.heap.size + 1) 39 16 (fun _ => 0)) := (Row8.z16At (by simp) _).alloc _
  have S0 : Hid (Row8 (((w.alloc (.cells (bA 16 g) 39)).alloc (.cells z16 39)).alloc (.cells z16 39)) (w.heap.size + 1 + 1) 39 16 (fun _ => 0)) := Row8.z16At (by simp) _
  have B0 : Hid (Below w.heap.size w (((w.alloc (.cells (bA 16 g) 39)).alloc (.cells z16 39)).alloc (.cells z16 39))) := (((Below.refl _ _).alloc (Nat.le_refl _) _).alloc (by simp) _).alloc (by simp; omega) _
  have HC0 : Hid (Code8 (((w.alloc (.cells (bA 16 g) 39)).alloc (.cells z16 39)).alloc (.cells z16 39)) (some ⟨b, o, none⟩) r f) := h.below (Below.mono B0.out (Nat.le_refl _))
  clear h hf hg
  unfold z16 at M0 E0 S0 B0 HC0
  go_enter Try.func39, Try.ntmps39
  go_upto_region 2 with fail
  generalize ((w.alloc (.cells (bA 16 g) 39)).alloc (.cells #[.int .u8 0, .int .u8 0, .int .u8 0, .int .u8 0, .int .u8 0, .int .u8 0, .int .u8 0, .int .u8 0, .int .u8 0, .int .u8 0, .int .u8 0, .int .u8 0, .int .u8 0, .int .u8 0, .int .u8 0, .int .u8 0] 39)).alloc (.cells #[.int .u8 0, .int .u8 0, .int .u8 0, .int .u8 0, .int .u8 0, .int .u8 0, .int .u8 0, .int .u8 0, .int .u8 0, .int .u8 0, .int .u8 0, .int .u8 0, .int .u8 0, .int .u8 0, .int .u8 0, .int .u8 0] 39) = wz at *
  have CP : ∀ ty, (Builtin.copy_ #[22, 22] ty #[.slice (some ⟨w.heap.size + 1 + 1, 0, none⟩) 16 16, .slice (some ⟨b, o, none⟩) r c]).run Try.prog wz = .ok (goInt r) (wz.setCells (w.heap.size + 1 + 1) 0 (bv r f)) := fun ty => by
    have := run_copy_cells (P := Try.prog) wz 22 22 ty 5 (w.heap.size + 1 + 1) 0 16 16 ⟨b, o, none⟩ r c (bv r f) Try.underlying22 size8 (by rw [bv_length]; show r = min r 16; omega) (bv_news HC0.out) (fun j hj => by rw [bv_length] at hj; exact (S0.out.there j (by omega)).1) (fun j hj => by rw [bv_length] at hj; exact (S0.out.there j (by omega)).2) (bv_one _ _)
    rw [bv_length] at this
    exact this
  have X1 : OnlyB (w.heap.size + 1 + 1) wz (wz.setCells (w.heap.size + 1 + 1) 0 (bv r f)) := onlyB_setCells _ _ _ (OnlyB.refl _ _)
  have M1 : Hid (Row8 (wz.setCells (w.heap.size + 1 + 1) 0 (bv r f)) w.heap.size 39 16 g) := M0.out.onlyB X1 (by omega)
  have E1 : Hid (Row8 (wz.setCells (w.heap.size + 1 + 1) 0 (bv r f)) (w.heap.size + 1) 39 16 (fun _ => 0)) := E0.out.onlyB X1 (by omega)
  have S1 : Hid (Row8 (wz.setCells (w.heap.size + 1 + 1) 0 (bv r f)) (w.heap.size + 1 + 1) 39 16 (fun j => if j < r then f j else 0)) := (rowIs_setCells (bv r f) 0 wz _ S0.out).congr (fun i hi => by
    rw [bv_length]
    show _ = Value.int .u8 ((if i < r then f i else 0 : Nat) : Int)
    by_cases h : i < r
    · rw [if_pos (by omega), Nat.sub_zero, List.getD_eq_getElem?_getD, bv_at h, if_pos h]; rfl
    · rw [if_neg (by omega), if_neg h])
  have B1 : Hid (Below w.heap.size w (wz.setCells (w.heap.size + 1 + 1) 0 (bv r f))) := B0.out.trans (X1.toBelow (by omega) B0.out.size)
  generalize wz.setCells (w.heap.size + 1 + 1) 0 (bv r f) = w1 at *
  clear X1 M0 E0 S0 B0 HC0
  generalize hG : bA 16 g = GA at *
  have HG : Hid (bA 16 g = GA) := hG
  clear hG
  go_upto_region 3 with fail
  clear CP
  generalize hLF : fillB r f = LF at *
  have HLF : Hid (fillB r f = LF) := hLF
  by_cases h16 : r < 16
  · have xr : (r : Int) < 16 := by omega
    have x0 : (0 : Int) ≤ (r : Int) := by omega
    have c1 := World.rowIs.cell S1.out (i := r) h16
    have f1 := World.rowIs.frozen S1.out r
    have S2 : Hid (Row8 (w1.setCell ⟨w.heap.size + 1 + 1, r, none⟩ (.int .u8 128)) (w.heap.size + 1 + 1) 39 16 LF) := (Row8.set S1.out r 128).congr (fun j hj => by
      rw [← hLF]; unfold fillB
      by_cases e : j = r
      · subst e; rw [if_pos rfl, if_neg (by omega), if_pos rfl]
      · rw [if_neg e]
        by_cases e2 : j < r
        · rw [if_pos e2, if_pos e2]
        · rw [if_neg e2, if_neg e2, if_neg e])
    have M2 : Hid (Row8 (w1.setCell ⟨w.heap.size + 1 + 1, r, none⟩ (.int .u8 128)) w.heap.size 39 16 g) := M1.out.other (by show w.heap.size ≠ w.heap.size + 1 + 1; omega) _
    have E2 : Hid (Row8 (w1.setCell ⟨w.heap.size + 1 + 1, r, none⟩ (.int .u8 128)) (w.heap.size + 1) 39 16 (fun _ => 0)) := E1.out.other (by show w.heap.size + 1 ≠ w.heap.size + 1 + 1; omega) _
    have B2 : Hid (Below w.heap.size w (w1.setCell ⟨w.heap.size + 1 + 1, r, none⟩ (.int .u8 128))) := B1.out.setCell (by show w.heap.size ≤ w.heap.size + 1 + 1; omega) _
    rw [show (if r < 16 then dblB g else g) = dblB g from if_pos h16] at AD
    generalize hMF : dblB g = MF at *
    have HMF : Hid (dblB g = MF) := hMF
    clear hMF
    clear hLF S1 M1 E1 B1
    go_upto_region 5 with fail
    generalize w1.setCell ⟨w.heap.size + 1 + 1, r, none⟩ (.int .u8 128) = w2 at *
    clear c1 f1
    have eG : (bv 16 g).toArray = GA := HG.out
    have SA : Hid ((Try.prog.info? 39).map (·.size) = some (bA 16 MF).size) := by rw [bA_size]; exact Try.sizeSt
    have OA : Hid ((bA 16 MF).all (·.oneCell') = true) := bA_one _ _
    have TL : Hid ((bA 16 MF).toList = bv 16 MF) := bA_toList _ _
    have BS : Hid ((bA 16 MF).size = 16) := bA_size _ _
    generalize hMA : bA 16 MF = MA at *
    have HMA : Hid (bA 16 MF = MA) := hMA
    clear hMA
    go_wp2_with (refine wpList_load_mid rfl 39 (.tmp 3) rfl w.heap.size 0 rfl (bv 16 g) _ M2.out.range Try.underlying39 rfl (by rw [bv_length]; exact Try.sizeSt) ?_)
    clear eG
    refine (DB.out _).mono ?_
    rintro e w3 ⟨rfl, hb3⟩
    have S3 : Hid (Row8 w3 (w.heap.size + 1 + 1) 39 16 LF) := S2.out.below hb3
    have M3 : Hid (Row8 w3 w.heap.size 39 16 g) := M2.out.below hb3
    have E3 : Hid (Row8 w3 (w.heap.size + 1) 39 16 (fun _ => 0)) := E2.out.below hb3
    have B3 : Hid (Below w.heap.size w w3) := B2.out.trans (hb3.mono B2.out.size)
    have X4 : OnlyB w.heap.size w3 (w3.setCells w.heap.size 0 (bv 16 MF)) := onlyB_setCells _ _ _ (OnlyB.refl _ _)
    have SF : Hid (Row8 (w3.setCells w.heap.size 0 (bv 16 MF)) (w.heap.size + 1 + 1) 39 16 LF) := S3.out.onlyB X4 (by omega)
    have EF : Hid (Row8 (w3.setCells w.heap.size 0 (bv 16 MF)) (w.heap.size + 1) 39 16 (fun _ => 0)) := E3.out.onlyB X4 (by omega)
    have MFr : Hid (Row8 (w3.setCells w.heap.size 0 (bv 16 MF)) w.heap.size 39 16 MF) := M3.out.stored _
    have BF : Hid (Below w.heap.size w (w3.setCells w.heap.size 0 (bv 16 MF))) := B3.out.trans (X4.toBelow (Nat.le_refl _) B3.out.size)
    clear hb3 S2 M2 E2 B2 DB
    go_upto_region 6 with (refine wpList_store_mid rfl 39 (.tmp 3) (.tmp 16) rfl w.heap.size 0 MA rfl rfl (by rw [BS.out]; exact M3.out.there) SA.out OA.out ?_)
    rw [TL.out]
    generalize w3.setCells w.heap.size 0 (bv 16 MF) = w4 at *
    clear S3 M3 E3 B3 X4 SA OA TL BS
    generalize hLA : bA 16 LF = LA at *
    have HLA : Hid (bA 16 LF = LA) := hLA
    clear hLA
    have SAf : Hid ((Try.prog.info? 39).map (·.size) = some (bA 16 (fun j => LF j ^^^ MF j)).size) := by rw [bA_size]; exact Try.sizeSt
    have OAf : Hid ((bA 16 (fun j => LF j ^^^ MF j)).all (·.oneCell') = true) := bA_one _ _
    have TLf : Hid ((bA 16 (fun j => LF j ^^^ MF j)).toList = bv 16 (fun j => LF j ^^^ MF j)) := bA_toList _ _
    have BSf : Hid ((bA 16 (fun j => LF j ^^^ MF j)).size = 16) := bA_size _ _
    have eL : (bv 16 LF).toArray = LA := HLA.out
    have eM : (bv 16 MF).toArray = MA := HMA.out
    generalize hQ : bA 16 (fun j => LF j ^^^ MF j) = Q at *
    have HQ : Hid (bA 16 (fun j => LF j ^^^ MF j) = Q) := hQ
    clear hQ
    go_wp2_with (first
      | (refine wpList_load_mid rfl 39 (.tmp 5) rfl (w.heap.size + 1 + 1) 0 rfl (bv 16 LF) _ SF.out.range Try.underlying39 rfl (by rw [bv_length]; exact Try.sizeSt) ?_)
      | (refine wpList_load_mid rfl 39 (.tmp 3) rfl w.heap.size 0 rfl (bv 16 MF) _ MFr.out.range Try.underlying39 rfl (by rw [bv_length]; exact Try.sizeSt) ?_))
    clear eL eM
    refine (AD.out _).mono ?_
    rintro e w9 ⟨rfl, hb9⟩
    have E9 : Hid (Row8 w9 (w.heap.size + 1) 39 16 (fun _ => 0)) := EF.out.below hb9
    have B9 : Hid (Below w.heap.size w w9) := BF.out.trans (hb9.mono BF.out.size)
    have L9 : Hid ((loadVar 39 ⟨w.heap.size + 1, 0, none⟩).run Try.prog (w9.setCells (w.heap.size + 1) 0 (bv 16 (fun j => LF j ^^^ MF j))) = .ok (.agg Q) (w9.setCells (w.heap.size + 1) 0 (bv 16 (fun j => LF j ^^^ MF j)))) := by
      have := (E9.out.stored (fun j => LF j ^^^ MF j)).load Try.underlying39 rfl Try.sizeSt
      rwa [HQ.out] at this
    have Bf : Hid (Below w.heap.size w (w9.setCells (w.heap.size + 1) 0 (bv 16 (fun j => LF j ^^^ MF j)))) := below_setCells (by omega) _ _ _ B9.out
    clear hb9 BF EF SF MFr
    go_wp2_with (refine wpList_store_mid rfl 39 (.tmp 4) (.tmp 19) rfl (w.heap.size + 1) 0 Q rfl rfl (by rw [BSf.out]; exact E9.out.there) SAf.out OAf.out ?_; rw [TLf.out]; generalize w9.setCells (w.heap.size + 1) 0 (bv 16 (fun j => LF j ^^^ MF j)) = wf at *)
    rw [HMF.out, HLF.out, HQ.out]
    exact bodyPost_ret (v := .agg Q) (results_cell_one (b := w.heap.size + 1) (o := 0) Try.results39 _ _ _ rfl L9.out) rfl ⟨rfl, Bf.out⟩
  · have xr : ¬ (r : Int) < 16 := by omega
    have SF : Hid (Row8 w1 (w.heap.size + 1 + 1) 39 16 LF) := S1.out.congr (fun j hj => by rw [← hLF]; unfold fillB; rw [if_pos (by omega), if_pos (by omega)])
    rw [show (if r < 16 then dblB g else g) = g from if_neg h16] at AD
    obtain ⟨MF, hMF⟩ : ∃ MF, MF = g := ⟨_, rfl⟩
    have HMF : Hid (g = MF) := hMF.symm
    have EF : Hid (Row8 w1 (w.heap.size + 1) 39 16 (fun _ => 0)) := E1.out
    have MFr : Hid (Row8 w1 w.heap.size 39 16 MF) := by show Row8 w1 _ _ 16 MF; rw [hMF]; exact M1.out
    have BF : Hid (Below w.heap.size w w1) := B1.out
    rw [← hMF] at AD
    clear hLF S1 M1 E1 B1 DB HG hMF
    generalize hMA : bA 16 MF = MA at *
    have HMA : Hid (bA 16 MF = MA) := hMA
    clear hMA
    generalize hLA : bA 16 LF = LA at *
    have HLA : Hid (bA 16 LF = LA) := hLA
    clear hLA
    have SAf : Hid ((Try.prog.info? 39).map (·.size) = some (bA 16 (fun j => LF j ^^^ MF j)).size) := by rw [bA_size]; exact Try.sizeSt
    have OAf : Hid ((bA 16 (fun j => LF j ^^^ MF j)).all (·.oneCell') = true) := bA_one _ _
    have TLf : Hid ((bA 16 (fun j => LF j ^^^ MF j)).toList = bv 16 (fun j => LF j ^^^ MF j)) := bA_toList _ _
    have BSf : Hid ((bA 16 (fun j => LF j ^^^ MF j)).size = 16) := bA_size _ _
    have eL : (bv 16 LF).toArray = LA := HLA.out
    have eM : (bv 16 MF).toArray = MA := HMA.out
    generalize hQ : bA 16 (fun j => LF j ^^^ MF j) = Q at *
    have HQ : Hid (bA 16 (fun j => LF j ^^^ MF j) = Q) := hQ
    clear hQ
    go_wp2_with (first
      | (refine wpList_load_mid rfl 39 (.tmp 5) rfl (w.heap.size + 1 + 1) 0 rfl (bv 16 LF) _ SF.out.range Try.underlying39 rfl (by rw [bv_length]; exact Try.sizeSt) ?_)
      | (refine wpList_load_mid rfl 39 (.tmp 3) rfl w.heap.size 0 rfl (bv 16 MF) _ MFr.out.range Try.underlying39 rfl (by rw [bv_length]; exact Try.sizeSt) ?_))
    clear eL eM
    refine (AD.out _).mono ?_
    rintro e w9 ⟨rfl, hb9⟩
    have E9 : Hid (Row8 w9 (w.heap.size + 1) 39 16 (fun _ => 0)) := EF.out.below hb9
    have B9 : Hid (Below w.heap.size w w9) := BF.out.trans (hb9.mono BF.out.size)
    have L9 : Hid ((loadVar 39 ⟨w.heap.size + 1, 0, none⟩).run Try.prog (w9.setCells (w.heap.size + 1) 0 (bv 16 (fun j => LF j ^^^ MF j))) = .ok (.agg Q) (w9.setCells (w.heap.size + 1) 0 (bv 16 (fun j => LF j ^^^ MF j)))) := by
      have := (E9.out.stored (fun j => LF j ^^^ MF j)).load Try.underlying39 rfl Try.sizeSt
      rwa [HQ.out] at this
    have Bf : Hid (Below w.heap.size w (w9.setCells (w.heap.size + 1) 0 (bv 16 (fun j => LF j ^^^ MF j)))) := below_setCells (by omega) _ _ _ B9.out
    clear hb9 BF EF SF MFr
    go_wp2_with (refine wpList_store_mid rfl 39 (.tmp 4) (.tmp 19) rfl (w.heap.size + 1) 0 Q rfl rfl (by rw [BSf.out]; exact E9.out.there) SAf.out OAf.out ?_; rw [TLf.out]; generalize w9.setCells (w.heap.size + 1) 0 (bv 16 (fun j => LF j ^^^ MF j)) = wf at *)
    rw [HMF.out, HLF.out, HQ.out]
    exact bodyPost_ret (v := .agg Q) (results_cell_one (b := w.heap.size + 1) (o := 0) Try.results39 _ _ _ rfl L9.out) rfl ⟨rfl, Bf.out⟩
end Go.Proofs.Ytbhlgcenfanicaa

/-
  The contract of impl.Cmac.
-/
namespace Go.Proofs.Ytbhlgcenfanicaa
open Go.ChangeShapes Go.WideShapes Go.ChangeAt Go.RowKit
/-- What Cmac's steps keep. -/
def CMS (w0 : World) (Cb m sb kb : Nat) (K G D : Nat → Nat) (w' : World) : Prop := Row8 w' sb 39 16 G ∧ Row8 w' kb 39 16 D ∧ CiphAt w' Cb m K ∧ Below w0.heap.size w0 w'
theorem CMS.below {w0 w' w'' : World} {Cb m sb kb : Nat} {K G D : Nat → Nat} (h : CMS w0 Cb m sb kb K G D w') (hb : Below w'.heap.size w' w'') : CMS w0 Cb m sb kb K G D w'' :=
  ⟨h.1.below hb, h.2.1.below hb, h.2.2.1.below hb, h.2.2.2.trans (hb.mono h.2.2.2.size)⟩
theorem CMS.drew {w0 w' : World} {Cb m sb kb : Nat} {K G D : Nat → Nat} (h : CMS w0 Cb m sb kb K G D w') : CMS w0 Cb m sb kb K G D w'.drew := ⟨h.1, h.2.1, h.2.2.1, h.2.2.2.drew⟩
theorem CMS.store {w0 w' : World} {Cb m sb kb : Nat} {K G D : Nat → Nat} (h : CMS w0 Cb m sb kb K G D w') (h1 : Cb ≠ sb) (h2 : w0.heap.size ≤ sb) (G1 : Nat → Nat) :
    (CiphAt (w'.setCells sb 0 (bv 16 G1)) Cb m K ∧ Below w0.heap.size w0 (w'.setCells sb 0 (bv 16 G1))) ∧ Row8 (w'.setCells sb 0 (bv 16 G1)) sb 39 16 G1 := by
  have X1 : OnlyB sb w' (w'.setCells sb 0 (bv 16 G1)) := onlyB_setCells _ _ _ (OnlyB.refl _ _)
  exact ⟨⟨h.2.2.1.onlyBe X1 (by omega), h.2.2.2.trans (X1.toBelow h2 h.2.2.2.size)⟩, h.1.stored G1⟩
theorem CMS.store2 {w0 w' : World} {Cb m sb kb : Nat} {K G D : Nat → Nat} (h : CMS w0 Cb m sb kb K G D w') (h1 : Cb ≠ sb) (h3 : kb ≠ sb) (h2 : w0.heap.size ≤ sb) (G1 : Nat → Nat) :
    CMS w0 Cb m sb kb K G1 D (w'.setCells sb 0 (bv 16 G1)) := by
  have X1 : OnlyB sb w' (w'.setCells sb 0 (bv 16 G1)) := onlyB_setCells _ _ _ (OnlyB.refl _ _)
  exact ⟨h.1.stored G1, h.2.1.onlyB X1 (by omega), h.2.2.1.onlyBe X1 (by omega), h.2.2.2.trans (X1.toBelow h2 h.2.2.2.size)⟩
theorem implCm_no (k : ByteArray) (a : Option Addr) (n c : Nat) (code : Int) (hc : code ≠ 0) (hf : ∀ w : World, Calls Try.prog 24 #[.string k, .string ⟨#[]⟩, .int .i64 0, .int .i64 (n : Int), .int .i64 65536] w fun e w' => e = .returned (.int .i64 code) ∧ w = w') (w : World) :
    Calls Try.prog 14 #[.string k, .slice a n c] w fun e w' => e = .returned (.tuple #[.string ⟨#[]⟩, .int .i64 code]) ∧ w = w' := by
  have HF : Hid (∀ w : World, Calls Try.prog 24 #[.string k, .string ⟨#[]⟩, .int .i64 0, .int .i64 (n : Int), .int .i64 65536] w fun e w' => e = .returned (.int .i64 code) ∧ w = w') := hf
  have e1 : (code != 0) = true := by rw [bne_iff_ne]; exact hc
  clear hf
  go_enter Try.func14, Try.ntmps14
  go_wp2
  go_step3
  go_wp2_with (go_at_call 24; refine (HF.out _).mono ?_; rintro e w' ⟨rfl, rfl⟩)
  rw [Exit.noGoto_ret]
  go_ret2
  exact ⟨rfl, rfl⟩
/-- What holds where a block more begins: i blocks are done. -/
def CmJ (w0 : World) (Cb m sb n : Nat) (K c : Nat → Nat) (b o : Nat) (a' : Act) (w' : World) : Prop := ∃ (i L cr : Nat) (u0 u1 u2 u3 u4 u5 u6 u10 u11 u12 u13 u14 u15 u16 u17 u18 u19 u20 u21 u22 u23 u24 u25 u26 u27 u28 u29 u30 u31 u32 u33 u34 u35 u36 u37 u38 u39 u40 u41 u42 u43 : Value), a' = { tmps := #[u0, u1, u2, u3, u4, u5, u6, .pointer (some ⟨Cb, 0, none⟩), .pointer (some ⟨sb, 0, none⟩), .slice (some ⟨b, o + 16 * i, none⟩) L cr, u10, u11, u12, u13, u14, u15, u16, u17, u18, u19, u20, u21, u22, u23, u24, u25, u26, u27, u28, u29, u30, u31, u32, u33, u34, u35, u36, u37, u38, u39, u40, u41, u42, u43], defers := [] } ∧
  L = n - 16 * i ∧ (i = 0 ∨ 16 * i < n) ∧ L ≤ cr ∧ Row8 w' sb 39 16 (cbcB K m (fun _ => 0) c i) ∧ CiphAt w' Cb m K ∧ Below w0.heap.size w0 w'
set_option maxRecDepth 100000 in
set_option maxHeartbeats 4000000 in
theorem implCm_yes (k : ByteArray) (kn b o n cp : Nat) (c : Nat → Nat) (hkn : kn = 4 ∨ kn = 8) (hk : k.size = kn * 4) (hn : n ≤ 65536) (hncp : n ≤ cp) (hc : ∀ i, c i < 256) (w : World) (h : Code8 w (some ⟨b, o, none⟩) n c) :
    Calls Try.prog 14 #[.string k, .slice (some ⟨b, o, none⟩) n cp] w fun e w' => e = .returned (.tuple #[.string (kstr (cmacB (Gf.ws (strB k) kn (3 * kn + 28)) (kn + 6) n c) 0 16), .int .i64 0]) ∧ Below w.heap.size w w' := by
  have MF : Hid (∀ w : World, Calls Try.prog 24 #[.string k, .string ⟨#[]⟩, .int .i64 0, .int .i64 (n : Int), .int .i64 65536] w fun e w' => e = .returned (.int .i64 0) ∧ w = w') := mf_ok k ⟨#[]⟩ 0 n 65536 (by omega) (by omega) rfl (by omega)
  have NC : Hid (∀ w : World, Calls Try.prog 25 #[.string k] w fun e w' => e = .returned (.agg (cA (kn + 6) (Gf.ws (strB k) kn (3 * kn + 28)))) ∧ Below w.heap.size w w') := newCipher_any k kn hkn hk
  have LW : Hid (∀ j, Gf.ws (strB k) kn (3 * kn + 28) j < 256) := Gf.ws_lt (strB_lt k) _
  generalize Gf.ws (strB k) kn (3 * kn + 28) = W at *
  obtain ⟨m, hm⟩ : ∃ m, m = kn + 6 := ⟨_, rfl⟩
  have hm1 : 1 ≤ m := by omega
  have hm2 : m ≤ 14 := by omega
  rw [← hm] at NC ⊢
  have LC : Hid (∀ j, c j < 256) := hc
  have LB : Hid (∀ i j, cbcB W m (fun _ => 0) c i j < 256) := fun i j => cbcB_lt LW.out (fun _ => by show (0 : Nat) < 256; omega) hc i j
  obtain ⟨TAG, hTAG⟩ : ∃ T, T = cmacB W m n c := ⟨_, rfl⟩
  rw [← hTAG]
  have HTAG : Hid (TAG = cmacB W m n c) := hTAG
  obtain ⟨Z, z0, hZ, -⟩ := Try.zeroC
  have S2 : Hid ((Try.prog.info? 44).map (·.size) = some (cA m W).size) := by rw [cA_size]; exact Try.sizeC
  have O2 : Hid ((cA m W).all (·.oneCell') = true) := cA_one _ _
  have hLen : (cA m W).toList.length = 769 := cA_len _ _
  have hAt : Hid (∀ k, k < 769 → (cA m W).toList[k]? = some (cf m W k)) := fun k hk => by
    have := cA_at (n := m) (K := W) hk
    rwa [← Array.getElem?_toList] at this
  have HSZ : Hid ((cA m W).size = 769) := cA_size _ _
  generalize cA m W = CA at *
  have HC : Hid (Code8 w (some ⟨b, o, none⟩) n c) := h
  clear h hc hkn hk hm hTAG
  go_enter Try.func14, Try.ntmps14
  go_wp2
  refine wp_scope_label 0 (fun a' w' => ∃ Cb sb, (Cb < sb ∧ w.heap.size ≤ Cb) ∧ CmJ w Cb m sb n W c b o a' w') (fun a' _ => lenOf (a'.tmps.getD 9 undef)) rfl ?_ ?_
  · rintro a' wr ⟨Cb, sb, ⟨hCs, hwC⟩, i, L, cr, u0, u1, u2, u3, u4, u5, u6, u10, u11, u12, u13, u14, u15, u16, u17, u18, u19, u20, u21, u22, u23, u24, u25, u26, u27, u28, u29, u30, u31, u32, u33, u34, u35, u36, u37, u38, u39, u40, u41, u42, u43, rfl, hL, hi, hcr, hr, hC, hB⟩
    have HR : Hid (Row8 wr sb 39 16 (cbcB W m (fun _ => 0) c i)) := hr
    have CC : Hid (CiphAt wr Cb m W) := hC
    have HB : Hid (Below w.heap.size w wr) := hB
    clear hr hC hB
    clear NC MF S2 O2 hLen hAt HSZ z0 hZ
    by_cases hlt : 16 < L
    · have hb : b < w.heap.size := HC.out.lt _ (by omega) rfl
      have eL : (16 : Int) < (L : Int) := by omega
      have xc : (16 : Int) ≤ (cr : Int) := by omega
      have xL : (16 : Int) ≤ (L : Int) := by omega
      have ncr : ¬ cr = 16 := by omega
      obtain ⟨X, hX⟩ : ∃ X : Nat → Nat, X = fun j => c (16 * i + j) := ⟨_, rfl⟩
      have lX : ∀ j, X j < 256 := fun j => by rw [hX]; exact LC.out _
      obtain ⟨S, hS⟩ : ∃ S, S = kstr X 0 16 := ⟨_, rfl⟩
      have hcv : Hid (∀ wq, Below w.heap.size w wq → (convert 22 9 (.slice (some ⟨b, o + 16 * i, none⟩) 16 16)).run Try.prog wq = .ok (.string S) wq) := fun wq hq => by
        rw [hS]
        refine kstr_of_code (code8_of (fun j hj => ?_))
        rw [hq.cell (p := ⟨b, o + 16 * i + j, none⟩) hb, hX, Nat.add_assoc]
        exact HC.out.at (by omega)
      have SO : Hid (∀ w : World, Calls Try.prog 33 #[.string S] w fun e w' => e = .returned (.agg (bA 16 X)) ∧ Below w.heap.size w w') := fun w => by
        have := stateOf_le S (by rw [hS, kstr_size]; exact Nat.le_refl _) w
        rwa [hS, bA_same (same_strB (fun j _ => lX j)), ← hS] at this
      have AD : Hid (∀ w : World, Calls Try.prog 37 #[.agg (bv 16 (cbcB W m (fun _ => 0) c i)).toArray, .agg (bA 16 X)] w fun e w' => e = .returned (.agg (bA 16 (fun j => cbcB W m (fun _ => 0) c i j ^^^ X j))) ∧ Below w.heap.size w w') := added_any _ _ (fun j _ => LB.out i j) (fun j _ => lX j)
      have EN : Hid (∀ w : World, CiphAt w Cb m W → Calls Try.prog 28 #[.pointer (some ⟨Cb, 0, none⟩), .agg (bA 16 (fun j => cbcB W m (fun _ => 0) c i j ^^^ X j))] w fun e w' => e = .returned (.agg (bA 16 (cbcB W m (fun _ => 0) c (i + 1)))) ∧ Below w.heap.size w w') := fun w h => by
        have := encrypt_any Cb m W (fun j => cbcB W m (fun _ => 0) c i j ^^^ X j) (fun j _ => Gf.xor_lt (LB.out i j) (lX j)) LW.out hm1 hm2 w h
        rw [hX] at this ⊢
        exact this
      have HL : Hid (L - 16 = n - 16 * (i + 1)) := by show L - 16 = _; omega
      generalize hG1 : cbcB W m (fun _ => 0) c (i + 1) = G1 at *
      have HG1 : Hid (cbcB W m (fun _ => 0) c (i + 1) = G1) := hG1
      generalize cbcB W m (fun _ => 0) c i = G at *
      generalize bA 16 (fun j => G j ^^^ X j) = GX at *
      generalize bA 16 X = XA at *
      clear hX hS lX hG1 hL
      go_upto_region 8 with fail
      have H : CMS w Cb m sb sb W G G wr.drew := ⟨HR.out, HR.out, CC.out, HB.out.drew⟩
      refine wp_region_noPanic ?_
      refine wp_region_held_drew (S := fun w' => CiphAt w' Cb m W ∧ Below w.heap.size w w') (by kernel_rfl) H.2.2 (fun _ => ?_)
      refine wpAnyH_take (i := 1) (v := .slice (some ⟨b, o + 16 * i, none⟩) L cr) rfl (by kernel_rfl) (by kernel_rfl) (by kernel_rfl) (fun _ _ _ h => h) (Or.inl ⟨by rfl, ?_⟩) H.2.2 ?_
      · intro w hSw; go_simp
      change wpAnyH _ _ _ _ _ _ _ { tmps := #[_, _, _, _, _, _, _, _, _, _, _, _, _, _, _, _, _, _, _, _, _, _, _, _, _, _, _, _, _, _, _, _, _, _, _, _, _, _, _, _, _, _, _, _], defers := [] } _
      refine wpAnyH_take (i := 2) (v := .slice (some ⟨b, o + 16 * i, none⟩) 16 16) rfl (by kernel_rfl) (by kernel_rfl) (by kernel_rfl) (fun _ _ _ h => h) (Or.inl ⟨by rfl, ?_⟩) H.2.2 ?_
      · intro w hSw; go_simp
      change wpAnyH _ _ _ _ _ _ _ { tmps := #[_, _, _, _, _, _, _, _, _, _, _, _, _, _, _, _, _, _, _, _, _, _, _, _, _, _, _, _, _, _, _, _, _, _, _, _, _, _, _, _, _, _, _, _], defers := [] } _
      refine wpAnyH_take (i := 3) (v := .string S) rfl (by kernel_rfl) (by kernel_rfl) (by kernel_rfl) (fun _ _ _ h => h) (Or.inl ⟨by rfl, ?_⟩) H.2.2 ?_
      · intro wq hSw; have hq := hcv.out wq hSw.2; go_simp
      change wpAnyH _ _ _ _ _ _ _ { tmps := #[_, _, _, _, _, _, _, _, _, _, _, _, _, _, _, _, _, _, _, _, _, _, _, _, _, _, _, _, _, _, _, _, _, _, _, _, _, _, _, _, _, _, _, _], defers := [] } _
      refine wpAnyH_ready (rs := [0, 4]) (by kernel_rfl) (by simp) ?_
      refine AllReadyH.cons rfl (fun KK hK => ?_) (AllReadyH.cons rfl (fun KK hK => ?_) AllReadyH.nil)
      · rw [if_pos (by rfl)]
        refine wp_load_mid 39 (.tmp 8) rfl sb 0 rfl (bv 16 G) _ H.1.range Try.underlying39 rfl (by rw [bv_length]; exact Try.sizeSt) ?_
        refine hK.out _ _ H.2.2 (fun _ => ?_)
        clear hK KK
        change wpAnyH _ _ _ _ _ _ _ { tmps := #[_, _, _, _, _, _, _, _, _, _, _, _, _, _, _, _, _, _, _, _, _, _, _, _, _, _, _, _, _, _, _, _, _, _, _, _, _, _, _, _, _, _, _, _], defers := [] } _
        refine wpAnyH_ready (rs := [4]) (by kernel_rfl) (by simp) ?_
        refine AllReadyH.cons rfl (fun KK hK => ?_) AllReadyH.nil
        go_simp
        refine (SO.out _).mono ?_
        rintro e w1 ⟨rfl, hb⟩
        replace H := CMS.below H hb
        refine hK.out _ _ H.2.2 (fun _ => ?_)
        clear hK KK hb
        change wpAnyH _ _ _ _ _ _ _ { tmps := #[_, _, _, _, _, _, _, _, _, _, _, _, _, _, _, _, _, _, _, _, _, _, _, _, _, _, _, _, _, _, _, _, _, _, _, _, _, _, _, _, _, _, _, _], defers := [] } _
        refine wpAnyH_ready (rs := [5]) (by kernel_rfl) (by simp) ?_
        refine AllReadyH.cons rfl (fun KK hK => ?_) AllReadyH.nil
        go_simp
        refine (AD.out _).mono ?_
        rintro e w2 ⟨rfl, hb⟩
        replace H := CMS.below H hb
        refine hK.out _ _ H.2.2 (fun _ => ?_)
        clear hK KK hb
        change wpAnyH _ _ _ _ _ _ _ { tmps := #[_, _, _, _, _, _, _, _, _, _, _, _, _, _, _, _, _, _, _, _, _, _, _, _, _, _, _, _, _, _, _, _, _, _, _, _, _, _, _, _, _, _, _, _], defers := [] } _
        refine wpAnyH_ready (rs := [6]) (by kernel_rfl) (by simp) ?_
        refine AllReadyH.cons rfl (fun KK hK => ?_) AllReadyH.nil
        go_simp
        refine (EN.out _ H.2.2.1).mono ?_
        rintro e w3 ⟨rfl, hb⟩
        replace H := CMS.below H hb
        refine hK.out _ _ H.2.2 (fun _ => ?_)
        clear hK KK hb
        change wpAnyH _ _ _ _ _ _ _ { tmps := #[_, _, _, _, _, _, _, _, _, _, _, _, _, _, _, _, _, _, _, _, _, _, _, _, _, _, _, _, _, _, _, _, _, _, _, _, _, _, _, _, _, _, _, _], defers := [] } _
        refine wpAnyH_ready (rs := [7]) (by kernel_rfl) (by simp) ?_
        refine AllReadyH.cons rfl (fun KK hK => ?_) AllReadyH.nil
        rw [if_pos (by rfl)]
        refine wp_store_mid 39 (.tmp 8) (.tmp 30) rfl sb 0 (bA 16 G1) rfl rfl (by rw [bA_size]; exact H.1.there) (by rw [bA_size]; exact Try.sizeSt) (bA_one _ _) ?_
        rw [bA_toList]
        have H9 := CMS.store H (by omega) (by omega) G1
        refine hK.out _ _ H9.1 (fun _ => ?_)
        clear hK KK H
        refine wpAnyH_done (by kernel_rfl) ?_ _
        refine NoPanic.normal ?_
        change Exit.then _ _ Exit.normal { tmps := #[_, _, _, _, _, _, _, _, _, _, _, _, _, _, _, _, _, _, _, _, _, _, _, _, _, _, _, _, _, _, _, _, _, _, _, _, _, _, _, _, _, _, _, _], defers := [] } _
        have CC9 : Hid (CiphAt _ _ _ _) := H9.1.1
        have HB9 : Hid (Below _ _ _) := H9.1.2
        have HR9 : Hid (Row8 _ _ _ _ _) := H9.2
        clear H9
        generalize (w3.setCells sb 0 (bv 16 G1)) = w9 at *
        generalize (bv 16 G).toArray = q1
        generalize bA 16 G1 = q2
        go_wp2_with fail
        go_step3
        rw [show o + 16 * i + 16 = o + 16 * (i + 1) from by omega]
        refine ⟨rfl, ⟨Cb, sb, ⟨hCs, hwC⟩, i + 1, L - 16, cr - 16, _, _, _, _, _, _, _, _, _, _, _, _, _, _, _, _, _, _, _, _, _, _, _, _, _, _, _, _, _, _, _, _, _, _, _, _, _, _, _, _, _, rfl, HL.out, by have := HL.out; omega, by omega, ?_, CC9.out, HB9.out⟩, ?_⟩
        · rw [HG1.out]; exact HR9.out
        · show _ < L; simp [lenOf]; omega
      · go_simp
        refine (SO.out _).mono ?_
        rintro e w1 ⟨rfl, hb⟩
        replace H := CMS.below H hb
        refine hK.out _ _ H.2.2 (fun _ => ?_)
        clear hK KK hb
        change wpAnyH _ _ _ _ _ _ _ { tmps := #[_, _, _, _, _, _, _, _, _, _, _, _, _, _, _, _, _, _, _, _, _, _, _, _, _, _, _, _, _, _, _, _, _, _, _, _, _, _, _, _, _, _, _, _], defers := [] } _
        refine wpAnyH_ready (rs := [0]) (by kernel_rfl) (by simp) ?_
        refine AllReadyH.cons rfl (fun KK hK => ?_) AllReadyH.nil
        rw [if_pos (by rfl)]
        refine wp_load_mid 39 (.tmp 8) rfl sb 0 rfl (bv 16 G) _ H.1.range Try.underlying39 rfl (by rw [bv_length]; exact Try.sizeSt) ?_
        refine hK.out _ _ H.2.2 (fun _ => ?_)
        clear hK KK
        change wpAnyH _ _ _ _ _ _ _ { tmps := #[_, _, _, _, _, _, _, _, _, _, _, _, _, _, _, _, _, _, _, _, _, _, _, _, _, _, _, _, _, _, _, _, _, _, _, _, _, _, _, _, _, _, _, _], defers := [] } _
        refine wpAnyH_ready (rs := [5]) (by kernel_rfl) (by simp) ?_
        refine AllReadyH.cons rfl (fun KK hK => ?_) AllReadyH.nil
        go_simp
        refine (AD.out _).mono ?_
        rintro e w2 ⟨rfl, hb⟩
        replace H := CMS.below H hb
        refine hK.out _ _ H.2.2 (fun _ => ?_)
        clear hK KK hb
        change wpAnyH _ _ _ _ _ _ _ { tmps := #[_, _, _, _, _, _, _, _, _, _, _, _, _, _, _, _, _, _, _, _, _, _, _, _, _, _, _, _, _, _, _, _, _, _, _, _, _, _, _, _, _, _, _, _], defers := [] } _
        refine wpAnyH_ready (rs := [6]) (by kernel_rfl) (by simp) ?_
        refine AllReadyH.cons rfl (fun KK hK => ?_) AllReadyH.nil
        go_simp
        refine (EN.out _ H.2.2.1).mono ?_
        rintro e w3 ⟨rfl, hb⟩
        replace H := CMS.below H hb
        refine hK.out _ _ H.2.2 (fun _ => ?_)
        clear hK KK hb
        change wpAnyH _ _ _ _ _ _ _ { tmps := #[_, _, _, _, _, _, _, _, _, _, _, _, _, _, _, _, _, _, _, _, _, _, _, _, _, _, _, _, _, _, _, _, _, _, _, _, _, _, _, _, _, _, _, _], defers := [] } _
        refine wpAnyH_ready (rs := [7]) (by kernel_rfl) (by simp) ?_
        refine AllReadyH.cons rfl (fun KK hK => ?_) AllReadyH.nil
        rw [if_pos (by rfl)]
        refine wp_store_mid 39 (.tmp 8) (.tmp 30) rfl sb 0 (bA 16 G1) rfl rfl (by rw [bA_size]; exact H.1.there) (by rw [bA_size]; exact Try.sizeSt) (bA_one _ _) ?_
        rw [bA_toList]
        have H9 := CMS.store H (by omega) (by omega) G1
        refine hK.out _ _ H9.1 (fun _ => ?_)
        clear hK KK H
        refine wpAnyH_done (by kernel_rfl) ?_ _
        refine NoPanic.normal ?_
        change Exit.then _ _ Exit.normal { tmps := #[_, _, _, _, _, _, _, _, _, _, _, _, _, _, _, _, _, _, _, _, _, _, _, _, _, _, _, _, _, _, _, _, _, _, _, _, _, _, _, _, _, _, _, _], defers := [] } _
        have CC9 : Hid (CiphAt _ _ _ _) := H9.1.1
        have HB9 : Hid (Below _ _ _) := H9.1.2
        have HR9 : Hid (Row8 _ _ _ _ _) := H9.2
        clear H9
        generalize (w3.setCells sb 0 (bv 16 G1)) = w9 at *
        generalize (bv 16 G).toArray = q1
        generalize bA 16 G1 = q2
        go_wp2_with fail
        go_step3
        rw [show o + 16 * i + 16 = o + 16 * (i + 1) from by omega]
        refine ⟨rfl, ⟨Cb, sb, ⟨hCs, hwC⟩, i + 1, L - 16, cr - 16, _, _, _, _, _, _, _, _, _, _, _, _, _, _, _, _, _, _, _, _, _, _, _, _, _, _, _, _, _, _, _, _, _, _, _, _, _, _, _, _, _, rfl, HL.out, by have := HL.out; omega, by omega, ?_, CC9.out, HB9.out⟩, ?_⟩
        · rw [HG1.out]; exact HR9.out
        · show _ < L; simp [lenOf]; omega
    · have eL : ¬ (16 : Int) < (L : Int) := by omega
      have hq : i = cmQ n := by unfold cmQ; omega
      obtain ⟨X, hX⟩ : ∃ X : Nat → Nat, X = fun j => c (16 * i + j) := ⟨_, rfl⟩
      have lX : ∀ j, X j < 256 := fun j => by rw [hX]; exact LC.out _
      obtain ⟨E0, hE0⟩ : ∃ E : Nat → Nat, E = Gf.enc W m (fun _ => 0) := ⟨_, rfl⟩
      have lE : ∀ j, j < 16 → E0 j < 256 := fun j _ => by rw [hE0]; exact Gf.enc_lt LW.out (fun _ _ => by show (0 : Nat) < 256; omega) j
      obtain ⟨D, hD⟩ : ∃ D : Nat → Nat, D = dblB E0 := ⟨_, rfl⟩
      have lD : ∀ j, j < 16 → D j < 256 := fun j hj => by rw [hD]; exact dblB_lt lE j hj
      obtain ⟨Y, hY⟩ : ∃ Y : Nat → Nat, Y = fun j => fillB L X j ^^^ (if L < 16 then dblB D else D) j := ⟨_, rfl⟩
      have lY : ∀ j, j < 16 → Y j < 256 := fun j hj => by
        rw [hY]
        refine Gf.xor_lt (fillB_lt lX j) ?_
        split
        · exact dblB_lt lD j hj
        · exact lD j hj
      have hT : Gf.enc W m (fun j => cbcB W m (fun _ => 0) c i j ^^^ Y j) = TAG := by
        rw [HTAG.out]
        unfold cmacB
        rw [← hq]
        congr 1
        funext j
        congr 1
        rw [hY]
        unfold lastS maskB fillB
        rw [← hq, ← hL, ← hE0, ← hD, hX]
        dsimp only
        congr 1
        by_cases h1 : j < L
        · rw [if_pos h1, if_pos (show 16 * i + j < n by omega)]
        · rw [if_neg h1, if_neg (show ¬ 16 * i + j < n by omega)]
          by_cases h2 : j = L
          · rw [if_pos h2, if_pos (show 16 * i + j = n by omega)]
          · rw [if_neg h2, if_neg (show ¬ 16 * i + j = n by omega)]
      have EZ : Hid (∀ w : World, CiphAt w Cb m W → Calls Try.prog 28 #[.pointer (some ⟨Cb, 0, none⟩), .agg (bA 16 (fun _ => 0))] w fun e w' => e = .returned (.agg (bA 16 E0)) ∧ Below w.heap.size w w') := fun w h => by
        have := encrypt_any Cb m W (fun _ => 0) (fun j _ => by show (0 : Nat) < 256; omega) LW.out hm1 hm2 w h
        rw [hE0]
        exact this
      have DB : Hid (∀ w : World, Calls Try.prog 38 #[.agg (bA 16 E0)] w fun e w' => e = .returned (.agg (bA 16 D)) ∧ Below w.heap.size w w') := by
        rw [hD]; exact doubled_any E0 lE
      have LS : Hid (∀ wq : World, Below w.heap.size w wq → Calls Try.prog 39 #[.slice (some ⟨b, o + 16 * i, none⟩) L cr, .agg (bA 16 D)] wq fun e w' => e = .returned (.agg (bA 16 Y)) ∧ Below wq.heap.size wq w') := fun wq hq => by
        rw [hY]
        refine lastBlock_any b (o + 16 * i) L cr X D lX lD (by omega) wq (code8_of (fun j hj => ?_))
        have hb : b < w.heap.size := HC.out.lt _ (by omega) rfl
        rw [hq.cell (p := ⟨b, o + 16 * i + j, none⟩) hb, hX, Nat.add_assoc]
        exact HC.out.at (by omega)
      have AD : Hid (∀ w : World, Calls Try.prog 37 #[.agg (bv 16 (cbcB W m (fun _ => 0) c i)).toArray, .agg (bA 16 Y)] w fun e w' => e = .returned (.agg (bA 16 (fun j => cbcB W m (fun _ => 0) c i j ^^^ Y j))) ∧ Below w.heap.size w w') := added_any _ _ (fun j _ => LB.out i j) lY
      have EN : Hid (∀ w : World, CiphAt w Cb m W → Calls Try.prog 28 #[.pointer (some ⟨Cb, 0, none⟩), .agg (bA 16 (fun j => cbcB W m (fun _ => 0) c i j ^^^ Y j))] w fun e w' => e = .returned (.agg (bA 16 TAG)) ∧ Below w.heap.size w w') := fun w h => by
        have := encrypt_any Cb m W (fun j => cbcB W m (fun _ => 0) c i j ^^^ Y j) (fun j hj => Gf.xor_lt (LB.out i j) (lY j hj)) LW.out hm1 hm2 w h
        rwa [hT] at this
      generalize cbcB W m (fun _ => 0) c i = G at *
      generalize bA 16 (fun j => G j ^^^ Y j) = GX at *
      generalize bA 16 Y = YA at *
      clear hT hY lY hX lX hE0 hD lD lE HTAG hq hL hi LB
      have ez : bA 16 (fun _ => 0) = #[.int .u8 0, .int .u8 0, .int .u8 0, .int .u8 0, .int .u8 0, .int .u8 0, .int .u8 0, .int .u8 0, .int .u8 0, .int .u8 0, .int .u8 0, .int .u8 0, .int .u8 0, .int .u8 0, .int .u8 0, .int .u8 0] := by kernel_rfl
      rw [ez] at EZ
      clear ez
      have SD : Hid ((Try.prog.info? 39).map (·.size) = some (bA 16 D).size) := by rw [bA_size]; exact Try.sizeSt
      have OD : Hid ((bA 16 D).all (·.oneCell') = true) := bA_one _ _
      have TD : Hid ((bA 16 D).toList = bv 16 D) := bA_toList _ _
      have ND : Hid ((bA 16 D).size = 16) := bA_size _ _
      have AD' : Hid ((bv 16 D).toArray = bA 16 D) := by
        show (bv 16 D).toArray = bA 16 D
        rw [← TD.out]
      generalize bA 16 E0 = EA at *
      generalize bA 16 D = DA at *
      go_wp2_with fail
      refine (EZ.out _ CC.out).mono ?_
      rintro e w1 ⟨rfl, hb1⟩
      have CC1 : Hid (CiphAt w1 Cb m W) := CC.out.below hb1
      have HB1 : Hid (Below w.heap.size w w1) := HB.out.trans (hb1.mono HB.out.size)
      have HR1 : Hid (Row8 w1 sb 39 16 G) := HR.out.below hb1
      clear CC HB HR hb1 EZ
      go_wp2_with fail
      refine (DB.out _).mono ?_
      rintro e w2 ⟨rfl, hb2⟩
      have CC2 : CiphAt (w2.alloc (.cells #[.int .u8 0, .int .u8 0, .int .u8 0, .int .u8 0, .int .u8 0, .int .u8 0, .int .u8 0, .int .u8 0, .int .u8 0, .int .u8 0, .int .u8 0, .int .u8 0, .int .u8 0, .int .u8 0, .int .u8 0, .int .u8 0] 39)) Cb m W := (CC1.out.below hb2).below ((Below.refl _ _).alloc (Nat.le_refl _) _)
      have HB2 : Below w.heap.size w (w2.alloc (.cells #[.int .u8 0, .int .u8 0, .int .u8 0, .int .u8 0, .int .u8 0, .int .u8 0, .int .u8 0, .int .u8 0, .int .u8 0, .int .u8 0, .int .u8 0, .int .u8 0, .int .u8 0, .int .u8 0, .int .u8 0, .int .u8 0] 39)) := (HB1.out.trans (hb2.mono HB1.out.size)).alloc (Nat.le_trans HB1.out.size hb2.size) _
      have HR2 : Row8 (w2.alloc (.cells #[.int .u8 0, .int .u8 0, .int .u8 0, .int .u8 0, .int .u8 0, .int .u8 0, .int .u8 0, .int .u8 0, .int .u8 0, .int .u8 0, .int .u8 0, .int .u8 0, .int .u8 0, .int .u8 0, .int .u8 0, .int .u8 0] 39)) sb 39 16 G := (HR1.out.below hb2).below ((Below.refl _ _).alloc (Nat.le_refl _) _)
      have HK2 : Row8 (w2.alloc (.cells #[.int .u8 0, .int .u8 0, .int .u8 0, .int .u8 0, .int .u8 0, .int .u8 0, .int .u8 0, .int .u8 0, .int .u8 0, .int .u8 0, .int .u8 0, .int .u8 0, .int .u8 0, .int .u8 0, .int .u8 0, .int .u8 0] 39)) w2.heap.size 39 16 (fun _ => 0) := Row8.z16At (w := w2) rfl _
      have hsk : sb < w2.heap.size := (HR1.out.below hb2).lt
      have X1 : OnlyB w2.heap.size (w2.alloc (.cells #[.int .u8 0, .int .u8 0, .int .u8 0, .int .u8 0, .int .u8 0, .int .u8 0, .int .u8 0, .int .u8 0, .int .u8 0, .int .u8 0, .int .u8 0, .int .u8 0, .int .u8 0, .int .u8 0, .int .u8 0, .int .u8 0] 39)) ((w2.alloc (.cells #[.int .u8 0, .int .u8 0, .int .u8 0, .int .u8 0, .int .u8 0, .int .u8 0, .int .u8 0, .int .u8 0, .int .u8 0, .int .u8 0, .int .u8 0, .int .u8 0, .int .u8 0, .int .u8 0, .int .u8 0, .int .u8 0] 39)).setCells w2.heap.size 0 (bv 16 D)) := onlyB_setCells _ _ _ (OnlyB.refl _ _)
      have H3 : CMS w Cb m sb w2.heap.size W G D ((w2.alloc (.cells #[.int .u8 0, .int .u8 0, .int .u8 0, .int .u8 0, .int .u8 0, .int .u8 0, .int .u8 0, .int .u8 0, .int .u8 0, .int .u8 0, .int .u8 0, .int .u8 0, .int .u8 0, .int .u8 0, .int .u8 0, .int .u8 0] 39)).setCells w2.heap.size 0 (bv 16 D)) := ⟨HR2.onlyB X1 (by omega), HK2.stored D, CC2.onlyBe X1 (by omega), HB2.trans (X1.toBelow (by omega) HB2.size)⟩
      have HT2 : Hid (World.there (w2.alloc (.cells #[.int .u8 0, .int .u8 0, .int .u8 0, .int .u8 0, .int .u8 0, .int .u8 0, .int .u8 0, .int .u8 0, .int .u8 0, .int .u8 0, .int .u8 0, .int .u8 0, .int .u8 0, .int .u8 0, .int .u8 0, .int .u8 0] 39)) w2.heap.size 0 DA.size) := by
        show World.there _ _ _ _
        rw [ND.out]; exact HK2.there
      have HH : Hid (CMS w Cb m sb w2.heap.size W G D ((w2.alloc (.cells #[.int .u8 0, .int .u8 0, .int .u8 0, .int .u8 0, .int .u8 0, .int .u8 0, .int .u8 0, .int .u8 0, .int .u8 0, .int .u8 0, .int .u8 0, .int .u8 0, .int .u8 0, .int .u8 0, .int .u8 0, .int .u8 0] 39)).setCells w2.heap.size 0 (bv 16 D))) := H3
      clear CC1 HB1 HR1 CC2 HB2 HR2 HK2 X1 H3 DB hb2
      go_upto_region 11 with (refine wpList_store_mid rfl 39 (.tmp 10) (.tmp 35) rfl _ 0 DA rfl rfl HT2.out SD.out OD.out ?_; rw [TD.out]; generalize hwf : (w2.alloc (.cells #[.int .u8 0, .int .u8 0, .int .u8 0, .int .u8 0, .int .u8 0, .int .u8 0, .int .u8 0, .int .u8 0, .int .u8 0, .int .u8 0, .int .u8 0, .int .u8 0, .int .u8 0, .int .u8 0, .int .u8 0, .int .u8 0] 39)).setCells w2.heap.size 0 (bv 16 D) = wf at *)
      clear hwf
      generalize w2.heap.size = kb at *
      have H : CMS w Cb m sb kb W G D wf.drew := CMS.drew HH.out
      refine wp_region_noPanic ?_
      refine wp_region_held_drew (S := fun w' => Row8 w' kb 39 16 D ∧ CiphAt w' Cb m W ∧ Below w.heap.size w w') (by kernel_rfl) H.2 (fun _ => ?_)
      refine wpAnyH_take (i := 1) (v := .slice (some ⟨b, o + 16 * i, none⟩) L cr) rfl (by kernel_rfl) (by kernel_rfl) (by kernel_rfl) (fun _ _ _ h => h) (Or.inl ⟨by rfl, ?_⟩) H.2 ?_
      · intro w hSw; go_simp
      change wpAnyH _ _ _ _ _ _ _ { tmps := #[_, _, _, _, _, _, _, _, _, _, _, _, _, _, _, _, _, _, _, _, _, _, _, _, _, _, _, _, _, _, _, _, _, _, _, _, _, _, _, _, _, _, _, _], defers := [] } _
      refine wpAnyH_take (i := 2) (v := .agg (bv 16 D).toArray) rfl (by kernel_rfl) (by kernel_rfl) (by kernel_rfl) (fun _ _ _ h => h) (yieldsIf_load_mid (by rfl) 39 (.tmp 10) rfl kb 0 rfl (bv 16 D) _ (fun w h => h.1.range) Try.underlying39 rfl (by rw [bv_length]; exact Try.sizeSt)) H.2 ?_
      change wpAnyH _ _ _ _ _ _ _ { tmps := #[_, _, _, _, _, _, _, _, _, _, _, _, _, _, _, _, _, _, _, _, _, _, _, _, _, _, _, _, _, _, _, _, _, _, _, _, _, _, _, _, _, _, _, _], defers := [] } _
      rw [AD'.out]
      refine wpAnyH_ready (rs := [0, 3]) (by kernel_rfl) (by simp) ?_
      refine AllReadyH.cons rfl (fun KK hK => ?_) (AllReadyH.cons rfl (fun KK hK => ?_) AllReadyH.nil)
      · rw [if_pos (by rfl)]
        refine wp_load_mid 39 (.tmp 8) rfl sb 0 rfl (bv 16 G) _ H.1.range Try.underlying39 rfl (by rw [bv_length]; exact Try.sizeSt) ?_
        refine hK.out _ _ H.2 (fun _ => ?_)
        clear hK KK
        change wpAnyH _ _ _ _ _ _ _ { tmps := #[_, _, _, _, _, _, _, _, _, _, _, _, _, _, _, _, _, _, _, _, _, _, _, _, _, _, _, _, _, _, _, _, _, _, _, _, _, _, _, _, _, _, _, _], defers := [] } _
        refine wpAnyH_ready (rs := [3]) (by kernel_rfl) (by simp) ?_
        refine AllReadyH.cons rfl (fun KK hK => ?_) AllReadyH.nil
        go_simp
        refine (LS.out _ H.2.2.2).mono ?_
        rintro e w4 ⟨rfl, hb⟩
        replace H := CMS.below H hb
        refine hK.out _ _ H.2 (fun _ => ?_)
        clear hK KK hb
        change wpAnyH _ _ _ _ _ _ _ { tmps := #[_, _, _, _, _, _, _, _, _, _, _, _, _, _, _, _, _, _, _, _, _, _, _, _, _, _, _, _, _, _, _, _, _, _, _, _, _, _, _, _, _, _, _, _], defers := [] } _
        refine wpAnyH_ready (rs := [4]) (by kernel_rfl) (by simp) ?_
        refine AllReadyH.cons rfl (fun KK hK => ?_) AllReadyH.nil
        go_simp
        refine (AD.out _).mono ?_
        rintro e w5 ⟨rfl, hb⟩
        replace H := CMS.below H hb
        refine hK.out _ _ H.2 (fun _ => ?_)
        clear hK KK hb
        change wpAnyH _ _ _ _ _ _ _ { tmps := #[_, _, _, _, _, _, _, _, _, _, _, _, _, _, _, _, _, _, _, _, _, _, _, _, _, _, _, _, _, _, _, _, _, _, _, _, _, _, _, _, _, _, _, _], defers := [] } _
        refine wpAnyH_ready (rs := [5]) (by kernel_rfl) (by simp) ?_
        refine AllReadyH.cons rfl (fun KK hK => ?_) AllReadyH.nil
        go_simp
        refine (EN.out _ H.2.2.1).mono ?_
        rintro e w6 ⟨rfl, hb⟩
        replace H := CMS.below H hb
        refine hK.out _ _ H.2 (fun _ => ?_)
        clear hK KK hb
        change wpAnyH _ _ _ _ _ _ _ { tmps := #[_, _, _, _, _, _, _, _, _, _, _, _, _, _, _, _, _, _, _, _, _, _, _, _, _, _, _, _, _, _, _, _, _, _, _, _, _, _, _, _, _, _, _, _], defers := [] } _
        refine wpAnyH_ready (rs := [6]) (by kernel_rfl) (by simp) ?_
        refine AllReadyH.cons rfl (fun KK hK => ?_) AllReadyH.nil
        rw [if_pos (by rfl)]
        refine wp_store_mid 39 (.tmp 8) (.tmp 41) rfl sb 0 (bA 16 TAG) rfl rfl (by rw [bA_size]; exact H.1.there) (by rw [bA_size]; exact Try.sizeSt) (bA_one _ _) ?_
        rw [bA_toList]
        replace H := CMS.store2 H (by omega) (by omega) (by omega) TAG
        refine hK.out _ _ H.2 (fun _ => ?_)
        clear hK KK
        refine wpAnyH_done (by kernel_rfl) ?_ _
        refine NoPanic.normal ?_
        change Exit.then _ _ Exit.normal { tmps := #[_, _, _, _, _, _, _, _, _, _, _, _, _, _, _, _, _, _, _, _, _, _, _, _, _, _, _, _, _, _, _, _, _, _, _, _, _, _, _, _, _, _, _, _], defers := [] } _
        have hcv : (convert 22 9 (.slice (some ⟨sb, 0, none⟩) 16 16)).run Try.prog (w6.setCells sb 0 (bv 16 TAG)) = .ok (.string (kstr TAG 0 16)) (w6.setCells sb 0 (bv 16 TAG)) := kstr_of_code (code8_of (fun j hj => by rw [Nat.zero_add]; exact World.rowIs.cell H.1 hj))
        have HB9 : Hid (Below _ _ _) := H.2.2.2
        clear H
        generalize (w6.setCells sb 0 (bv 16 TAG)) = w9 at *
        generalize hTS : kstr TAG 0 16 = TS at hcv
        have HTS : Hid (kstr TAG 0 16 = TS) := hTS
        clear hTS
        generalize (bv 16 G).toArray = q1
        generalize bA 16 TAG = q2
        go_wp2
        rw [jump_ret]
        refine bodyPost_ret (results_tmp2 Try.results14 _ _ _) rfl ⟨?_, HB9.out⟩
        rw [HTS.out]; rfl
      · go_simp
        refine (LS.out _ H.2.2.2).mono ?_
        rintro e w4 ⟨rfl, hb⟩
        replace H := CMS.below H hb
        refine hK.out _ _ H.2 (fun _ => ?_)
        clear hK KK hb
        change wpAnyH _ _ _ _ _ _ _ { tmps := #[_, _, _, _, _, _, _, _, _, _, _, _, _, _, _, _, _, _, _, _, _, _, _, _, _, _, _, _, _, _, _, _, _, _, _, _, _, _, _, _, _, _, _, _], defers := [] } _
        refine wpAnyH_ready (rs := [0]) (by kernel_rfl) (by simp) ?_
        refine AllReadyH.cons rfl (fun KK hK => ?_) AllReadyH.nil
        rw [if_pos (by rfl)]
        refine wp_load_mid 39 (.tmp 8) rfl sb 0 rfl (bv 16 G) _ H.1.range Try.underlying39 rfl (by rw [bv_length]; exact Try.sizeSt) ?_
        refine hK.out _ _ H.2 (fun _ => ?_)
        clear hK KK
        change wpAnyH _ _ _ _ _ _ _ { tmps := #[_, _, _, _, _, _, _, _, _, _, _, _, _, _, _, _, _, _, _, _, _, _, _, _, _, _, _, _, _, _, _, _, _, _, _, _, _, _, _, _, _, _, _, _], defers := [] } _
        refine wpAnyH_ready (rs := [4]) (by kernel_rfl) (by simp) ?_
        refine AllReadyH.cons rfl (fun KK hK => ?_) AllReadyH.nil
        go_simp
        refine (AD.out _).mono ?_
        rintro e w5 ⟨rfl, hb⟩
        replace H := CMS.below H hb
        refine hK.out _ _ H.2 (fun _ => ?_)
        clear hK KK hb
        change wpAnyH _ _ _ _ _ _ _ { tmps := #[_, _, _, _, _, _, _, _, _, _, _, _, _, _, _, _, _, _, _, _, _, _, _, _, _, _, _, _, _, _, _, _, _, _, _, _, _, _, _, _, _, _, _, _], defers := [] } _
        refine wpAnyH_ready (rs := [5]) (by kernel_rfl) (by simp) ?_
        refine AllReadyH.cons rfl (fun KK hK => ?_) AllReadyH.nil
        go_simp
        refine (EN.out _ H.2.2.1).mono ?_
        rintro e w6 ⟨rfl, hb⟩
        replace H := CMS.below H hb
        refine hK.out _ _ H.2 (fun _ => ?_)
        clear hK KK hb
        change wpAnyH _ _ _ _ _ _ _ { tmps := #[_, _, _, _, _, _, _, _, _, _, _, _, _, _, _, _, _, _, _, _, _, _, _, _, _, _, _, _, _, _, _, _, _, _, _, _, _, _, _, _, _, _, _, _], defers := [] } _
        refine wpAnyH_ready (rs := [6]) (by kernel_rfl) (by simp) ?_
        refine AllReadyH.cons rfl (fun KK hK => ?_) AllReadyH.nil
        rw [if_pos (by rfl)]
        refine wp_store_mid 39 (.tmp 8) (.tmp 41) rfl sb 0 (bA 16 TAG) rfl rfl (by rw [bA_size]; exact H.1.there) (by rw [bA_size]; exact Try.sizeSt) (bA_one _ _) ?_
        rw [bA_toList]
        replace H := CMS.store2 H (by omega) (by omega) (by omega) TAG
        refine hK.out _ _ H.2 (fun _ => ?_)
        clear hK KK
        refine wpAnyH_done (by kernel_rfl) ?_ _
        refine NoPanic.normal ?_
        change Exit.then _ _ Exit.normal { tmps := #[_, _, _, _, _, _, _, _, _, _, _, _, _, _, _, _, _, _, _, _, _, _, _, _, _, _, _, _, _, _, _, _, _, _, _, _, _, _, _, _, _, _, _, _], defers := [] } _
        have hcv : (convert 22 9 (.slice (some ⟨sb, 0, none⟩) 16 16)).run Try.prog (w6.setCells sb 0 (bv 16 TAG)) = .ok (.string (kstr TAG 0 16)) (w6.setCells sb 0 (bv 16 TAG)) := kstr_of_code (code8_of (fun j hj => by rw [Nat.zero_add]; exact World.rowIs.cell H.1 hj))
        have HB9 : Hid (Below _ _ _) := H.2.2.2
        clear H
        generalize (w6.setCells sb 0 (bv 16 TAG)) = w9 at *
        generalize hTS : kstr TAG 0 16 = TS at hcv
        have HTS : Hid (kstr TAG 0 16 = TS) := hTS
        clear hTS
        generalize (bv 16 G).toArray = q1
        generalize bA 16 TAG = q2
        go_wp2
        rw [jump_ret]
        refine bodyPost_ret (results_tmp2 Try.results14 _ _ _) rfl ⟨?_, HB9.out⟩
        rw [HTS.out]; rfl
  · intro hp
    go_upto_region 5 with (first
      | (go_at_call 24; refine (MF.out _).mono ?_; rintro e w' ⟨rfl, rfl⟩)
      | (go_at_call 25; refine (NC.out _).mono ?_; rintro e w1 ⟨rfl, hb⟩)
      | (refine wpList_store_mid rfl 44 (.tmp 7) (.tmp 19) rfl _ 0 CA rfl rfl ?_ S2.out O2.out ?_))
    · rw [HSZ.out]; exact there_big w1 Z _ hZ
    · have R1 : ((w1.alloc (.cells Z 44)).setCells w1.heap.size 0 CA.toList).rangeAt w1.heap.size 0 CA.toList := World.rangeAt_setCells_same _ _ _ _ (by rw [hLen]; exact there_big w1 Z _ hZ)
      have CC : Hid (CiphAt ((w1.alloc (.cells Z 44)).setCells w1.heap.size 0 CA.toList) w1.heap.size m W) := fun k hk => by
        have := R1 k _ (hAt.out k hk)
        rwa [Nat.zero_add] at this
      have hsz := hb.size
      have B1 : Hid (Below w.heap.size w ((w1.alloc (.cells Z 44)).setCells w1.heap.size 0 CA.toList)) := below_setCells hsz _ _ _ (hb.alloc hsz _)
      clear R1 hb NC MF S2 O2 hLen hAt HSZ z0 hZ HC
      generalize (w1.alloc (.cells Z 44)).setCells w1.heap.size 0 CA.toList = wz at *
      generalize w1.heap.size = Cb at *
      have CCm : Hid (CiphAt (wz.alloc (.cells #[.int .u8 0, .int .u8 0, .int .u8 0, .int .u8 0, .int .u8 0, .int .u8 0, .int .u8 0, .int .u8 0, .int .u8 0, .int .u8 0, .int .u8 0, .int .u8 0, .int .u8 0, .int .u8 0, .int .u8 0, .int .u8 0] 39)) Cb m W) := CC.out.below ((Below.refl _ _).alloc (Nat.le_refl _) _)
      have HRm : Hid (Row8 (wz.alloc (.cells #[.int .u8 0, .int .u8 0, .int .u8 0, .int .u8 0, .int .u8 0, .int .u8 0, .int .u8 0, .int .u8 0, .int .u8 0, .int .u8 0, .int .u8 0, .int .u8 0, .int .u8 0, .int .u8 0, .int .u8 0, .int .u8 0] 39)) wz.heap.size 39 16 (fun _ => 0)) := Row8.z16At (w := wz) rfl _
      have HBm : Hid (Below w.heap.size w (wz.alloc (.cells #[.int .u8 0, .int .u8 0, .int .u8 0, .int .u8 0, .int .u8 0, .int .u8 0, .int .u8 0, .int .u8 0, .int .u8 0, .int .u8 0, .int .u8 0, .int .u8 0, .int .u8 0, .int .u8 0, .int .u8 0, .int .u8 0] 39))) := B1.out.alloc B1.out.size _
      have hCz : Cb < wz.heap.size := CC.out.lt
      clear CC B1
      go_upto_region 6 with fail
      generalize wz.alloc (.cells #[.int .u8 0, .int .u8 0, .int .u8 0, .int .u8 0, .int .u8 0, .int .u8 0, .int .u8 0, .int .u8 0, .int .u8 0, .int .u8 0, .int .u8 0, .int .u8 0, .int .u8 0, .int .u8 0, .int .u8 0, .int .u8 0] 39) = wm at *
      generalize wz.heap.size = sb at *
      go_wp2_with fail
      go_step3
      rename_i hKx
      refine hKx _ _ (hp _ _ ⟨Cb, sb, ⟨hCz, hsz⟩, 0, n, cp, _, _, _, _, _, _, _, _, _, _, _, _, _, _, _, _, _, _, _, _, _, _, _, _, _, _, _, _, _, _, _, _, _, _, _, _, _, _, _, _, _, rfl, by omega, by omega, by omega, HRm.out.congr (fun j _ => rfl), CCm.out, HBm.out⟩)
end Go.Proofs.Ytbhlgcenfanicaa

/-
  The contract of spec.l02Twice.
-/
namespace Go.Proofs.Ytbhlgcenfanicaa
open Go.ChangeShapes Go.WideShapes Go.ChangeAt Go.RowKit
/-- Doubled, but for the byte that is lost. -/
def dbl1 (s : Nat → Nat) (j : Nat) : Nat := if j = 15 then s 15 * 2 % 256 else (s j * 2 % 256) ||| (s (j + 1) / 128)
set_option maxRecDepth 100000 in
set_option maxHeartbeats 2000000 in
theorem l02Twice_any (s : ByteArray) (hs : s.size = 16) (w : World) :
    Calls Try.prog 61 #[.string s] w fun e w' => e = .returned (.string (kstr (dblB (strB s)) 0 16)) ∧ Below w.heap.size w w' := by
  obtain ⟨wz, gc, hcv, hWB, hBz, hgc⟩ := bytesOf s w
  rw [hs] at hcv hWB
  have HW : Hid (WB wz w.heap.size 16 (strB s)) := hWB
  have HBz : Hid (Below w.heap.size w wz) := hBz
  have LS : Hid (∀ j, strB s j < 256) := strB_lt s
  have ES : Hid (∀ k (h : k < s.size), (s[k].toNat : Int) = (strB s k : Nat)) := fun k h => strB_eq s k h
  have es0 := strB_eq s 0 (by omega)
  obtain ⟨A, hA⟩ : ∃ A, A = strB s := ⟨_, rfl⟩
  rw [← hA] at HW LS ES es0 ⊢
  have la0 := LS.out 0
  obtain ⟨A0, hA0⟩ : ∃ A0, A0 = A 0 := ⟨_, rfl⟩
  rw [← hA0] at es0 la0
  have HA0 : Hid (A0 = A 0) := hA0
  clear hWB hBz hgc hA hA0
  go_enter Try.func61, Try.ntmps61
  go_wp2
  go_loopw [5] (fun i wr => ∃ k : Nat, k ≤ 16 ∧ i = .int .i64 k ∧ WB wr w.heap.size 16 (fun j => if j < k then dbl1 A j else A j) ∧ Below w.heap.size w wr) (fun i _ => 16 - (intOf i).toNat)
  case atStart => exact ⟨0, by omega, rfl, HW.out.congr (fun j hj => by rw [if_neg (by omega)]), HBz.out⟩
  case round =>
    clear HW HBz hcv
    obtain ⟨k, hk, rfl, hw, hb2⟩ := hrel
    have HW : Hid (WB wr w.heap.size 16 (fun j => if j < k then dbl1 A j else A j)) := hw
    have HB : Hid (Below w.heap.size w wr) := hb2
    have x0 : (0 : Int) ≤ (k : Int) := by omega
    by_cases hlt : k < 15
    · have c1 := (hw k (by omega)).1
      simp only [Nat.lt_irrefl, if_false] at c1
      have f1 := (hw k (by omega)).2
      have e1 := ES.out k (by omega)
      have e2 := ES.out (k + 1) (by omega)
      have l1 := LS.out k
      have l2 := LS.out (k + 1)
      have x1 : (k : Int) < 15 := by omega
      have x2 : (k : Int) < 16 := by omega
      have x3 : (k : Int) + 1 < 16 := by omega
      have x4 : ((k : Int) + 1).toNat = k + 1 := by omega
      obtain ⟨V, hV⟩ : ∃ V, V = (A k * 2 % 256) ||| (A (k + 1) / 128) := ⟨_, rfl⟩
      have ex : bits .or .u8 ((A k : Int) * 2 % 256) ((A (k + 1) : Int) / 128) = ((V : Nat) : Int) := by rw [hV]; exact u8_or_two _ _ l2
      have HV : Hid (∀ q j, j < 16 → (if j = k then V else if j = k then q else if j < k then dbl1 A j else A j) = if j < k + 1 then dbl1 A j else A j) := fun q j hj => by
        by_cases e : j = k
        · subst e
          rw [if_pos rfl, if_pos (by omega), hV]
          unfold dbl1
          rw [if_neg (by omega)]
        · rw [if_neg e, if_neg e]
          by_cases e2 : j < k
          · rw [if_pos e2, if_pos (by omega)]
          · rw [if_neg e2, if_neg (by omega)]
      clear hV hw hb2
      generalize A k = A1 at *
      generalize A (k + 1) = A2 at *
      have ev : ((A1 * 2 % 256 : Nat) : Int) = (A1 : Int) * 2 % 256 := by omega
      have hw1 := HW.out.set k (A1 * 2 % 256)
      rw [ev] at hw1
      have c2 := (hw1 k (by omega)).1
      simp only [if_true] at c2
      rw [ev] at c2
      have f2 := (hw1 k (by omega)).2
      have HW1 : Hid (WB (wr.setCell ⟨w.heap.size, k, none⟩ (.int .u8 ((A1 : Int) * 2 % 256))) w.heap.size 16 (fun r => if r = k then A1 * 2 % 256 else if r < k then dbl1 A r else A r)) := hw1
      have HB1 : Hid (Below w.heap.size w (wr.setCell ⟨w.heap.size, k, none⟩ (.int .u8 ((A1 : Int) * 2 % 256)))) := HB.out.setCell (by exact Nat.le_refl _) _
      clear ev hw1 HW HB
      go_wp2_with fail
      generalize wr.setCell ⟨w.heap.size, k, none⟩ (.int .u8 ((A1 : Int) * 2 % 256)) = wq at *
      clear c1 f1
      go_region
      go_wp2
      go_roundw
      case rel =>
        refine ⟨k + 1, by omega, by go_num, (HW1.out.set k V).congr (HV.out _), ?_⟩
        exact (HB1.out.setCell (by exact Nat.le_refl _) _).drew
      case measure => simp [intOf]; omega
    · by_cases h15 : k = 15
      · have c1 := (hw k (by omega)).1
        simp only [Nat.lt_irrefl, if_false] at c1
        have f1 := (hw k (by omega)).2
        have hks : k < s.size := by omega
        have e1 := ES.out k hks
        have l1 := LS.out k
        have x1 : ¬ (k : Int) < 15 := by omega
        have x2 : (k : Int) < 16 := by omega
        have ev : ((A k * 2 % 256 : Nat) : Int) = (A k : Int) * 2 % 256 := by omega
        have hw1 := HW.out.set k (A k * 2 % 256)
        rw [ev] at hw1
        have HW1 : Hid (WB (wr.setCell ⟨w.heap.size, k, none⟩ (.int .u8 ((A k : Int) * 2 % 256))) w.heap.size 16 (fun j => if j < k + 1 then dbl1 A j else A j)) := hw1.congr (fun j hj => by
          by_cases e : j = k
          · rw [if_pos e, if_pos (by omega), e]
            unfold dbl1
            rw [if_pos h15, h15]
          · rw [if_neg e, if_pos (by omega), if_pos (by omega)])
        have HB1 : Hid (Below w.heap.size w (wr.setCell ⟨w.heap.size, k, none⟩ (.int .u8 ((A k : Int) * 2 % 256)))) := HB.out.setCell (by exact Nat.le_refl _) _
        clear ev hw1 HW HB hw hb2 h15
        generalize A k = A1 at *
        go_wp2_with fail
        go_roundw
        case rel => exact ⟨k + 1, by omega, by go_num, HW1.out, HB1.out⟩
        case measure => simp [intOf]; omega
      · have hk16 : k = 16 := by omega
        have x1 : ¬ (k : Int) < 16 := by omega
        have hw2 : WB wr w.heap.size 16 (dbl1 A) := hw.congr (fun j hj => by rw [if_pos (by omega)])
        have HW2 : Hid (WB wr w.heap.size 16 (dbl1 A)) := hw2
        have la := LS.out 15
        clear HW hw hb2 h15 hlt hk hk16
        by_cases hl : 128 ≤ A0
        · have y1 : (A0 : Int) / 128 = 1 := by omega
          have c1 := (hw2 15 (by omega)).1
          have f1 := (hw2 15 (by omega)).2
          obtain ⟨V, hV⟩ : ∃ V, V = dbl1 A 15 ^^^ 135 := ⟨_, rfl⟩
          have ld : dbl1 A 15 < 256 := by unfold dbl1; rw [if_pos rfl]; omega
          have ex : bits .xor .u8 (dbl1 A 15 : Int) 135 = ((V : Nat) : Int) := by rw [hV]; exact u8_xor_nat _ 135 ld (by omega)
          have HW3 : WB (wr.setCell ⟨w.heap.size, 15, none⟩ (.int .u8 (V : Nat))) w.heap.size 16 (dblB A) := (HW2.out.set 15 V).congr (fun j hj => by
            unfold dblB
            rw [← HA0.out, if_pos hl]
            by_cases e : j = 15
            · rw [if_pos e, if_pos e, hV]; unfold dbl1; rw [if_pos rfl]
            · rw [if_neg e, if_neg e]; unfold dbl1; rw [if_neg e])
          have hcv : (convert 22 9 (.slice (some ⟨w.heap.size, 0, none⟩) 16 gc)).run Try.prog (wr.setCell ⟨w.heap.size, 15, none⟩ (.int .u8 (V : Nat))) = .ok (.string (kstr (dblB A) 0 16)) (wr.setCell ⟨w.heap.size, 15, none⟩ (.int .u8 (V : Nat))) := kstr_of_code HW3.code
          have HB3 : Hid (Below w.heap.size w (wr.setCell ⟨w.heap.size, 15, none⟩ (.int .u8 (V : Nat)))) := HB.out.setCell (by exact Nat.le_refl _) _
          clear HW3 hw2 HW2 hV
          generalize dbl1 A 15 = D1 at *
          go_wp2
          go_ret
          exact ⟨rfl, HB3.out⟩
        · have y1 : ¬ (A0 : Int) / 128 = 1 := by omega
          have hcv : (convert 22 9 (.slice (some ⟨w.heap.size, 0, none⟩) 16 gc)).run Try.prog wr = .ok (.string (kstr (dblB A) 0 16)) wr := kstr_of_code (hw2.congr (fun j hj => by
            unfold dblB
            rw [← HA0.out, if_neg hl]
            by_cases e : j = 15
            · rw [if_pos e, e]; unfold dbl1; rw [if_pos rfl, Nat.xor_zero]
            · rw [if_neg e]; unfold dbl1; rw [if_neg e])).code
          clear hw2 HW2
          go_wp2
          go_ret
          exact ⟨rfl, HB.out⟩
end Go.Proofs.Ytbhlgcenfanicaa

/-
  The model's Cmac: l02Cmac.
-/
namespace Go.Proofs.Ytbhlgcenfanicaa
open Go.ChangeShapes Go.WideShapes Go.ChangeAt Go.RowKit
theorem mk16 (w : World) : ∃ w', (Instr.makeSlice 22 (.int .i64 16) (.int .i64 16)).run Try.prog w = .ok (.slice (some ⟨w.heap.size, 0, none⟩) 16 16) w' ∧ (convert 22 9 (.slice (some ⟨w.heap.size, 0, none⟩) 16 16)).run Try.prog w' = .ok (.string (kstr (fun _ => 0) 0 16)) w' ∧ Below w.heap.size w w' := by
  obtain ⟨i0, hi, hz, hs, hb⟩ := info_parts Try.info8
  have hr := run_make (P := Try.prog) w 22 5 i0 (.int .u8 0) Try.underlying22 hi hz .i64 .i64 16 16 (by omega) (by omega) (by rw [hb]; omega) (by omega)
  rw [hs, show madeCells (Value.cells (.int .u8 0)) ((16 : Int).toNat * 1) = z16 from by kernel_rfl] at hr
  exact ⟨_, hr, kstr_of_code (code8_of (fun j hj => by rw [Nat.zero_add]; exact World.rowIs.cell (Row8.z16At (w := w) rfl 5) hj)), (Below.refl _ _).alloc (Nat.le_refl _) _⟩
/-- The tag out of the last block and its mask. -/
theorem cm_tag {W f R M : Nat → Nat} {m n : Nat} {T S3 S4 : ByteArray} (hT : Gf.Same (strB T) (cbcB W m (fun _ => 0) f (cmQ n))) (hR : ∀ j, j < 16 → R j = lastS n f j) (hM : ∀ j, j < 16 → M j = maskB W m n j) (lR : ∀ j, j < 16 → R j < 256) (lM : ∀ j, j < 16 → M j < 256)
    (h3 : S3 = kstr (fun j => strB T j ^^^ R j) 0 16) (h4 : S4 = kstr (fun j => strB S3 j ^^^ M j) 0 16) : kstr (Gf.enc W m (strB S4)) 0 16 = kstr (cmacB W m n f) 0 16 := by
  refine kstr_same (Gf.same_enc (fun j hj => ?_))
  have e3 : strB S3 j = strB T j ^^^ R j := by
    rw [h3, strB_kstr _ 0 16 j (by rw [Nat.zero_add]; exact Gf.xor_lt (strB_lt T j) (lR j hj)) hj, Nat.zero_add]
  rw [h4, strB_kstr _ 0 16 j (by rw [Nat.zero_add]; exact Gf.xor_lt (strB_lt S3 j) (lM j hj)) hj, Nat.zero_add, e3, hT j hj, hR j hj, hM j hj, Nat.xor_assoc]
set_option maxRecDepth 100000 in
set_option maxHeartbeats 4000000 in
/-- spec.l02Cmac -/
theorem l02Cmac_any (k : ByteArray) (kn b o n c : Nat) (f : Nat → Nat) (hkn : kn = 4 ∨ kn = 8) (hk : k.size = kn * 4) (hn : n ≤ 65536) (hnc : n ≤ c) (hf : ∀ i, f i < 256) (w : World) (h : Code8 w (some ⟨b, o, none⟩) n f) :
    Calls Try.prog 40 #[.string k, .slice (some ⟨b, o, none⟩) n c] w fun e w' => e = .returned (.string (kstr (cmacB (Gf.ws (strB k) kn (3 * kn + 28)) (kn + 6) n f) 0 16)) ∧ Below w.heap.size w w' := by
  obtain ⟨i0, hi⟩ := info_parts Try.info8
  have HI : Hid (Try.prog.info? 5 = some i0 ∧ i0.zero = some (.int .u8 0) ∧ i0.size = 1 ∧ i0.bytes = 1) := hi
  have TA : Hid (∀ w : World, Calls Try.prog 41 #[] w fun e w' => (∃ b, w.heap.size ≤ b ∧ e = .returned (.slice (some ⟨b, 0, none⟩) 256 256) ∧ w'.rowIs b 3 256 (fun j => .int .i64 (Gf.sub j : Nat))) ∧ Below w.heap.size w w') := table_any
  have KE : Hid (∀ (tb : Nat) (w : World), w.rowIs tb 3 256 (fun j => .int .i64 (Gf.sub j : Nat)) → Calls Try.prog 42 #[.string k, .slice (some ⟨tb, 0, none⟩) 256 256] w fun e w' => (∃ pb po ck, e = .returned (.slice (some ⟨pb, po, none⟩) (kn + 6 + 1) ck) ∧ MK w' pb po tb (kn + 6) (Gf.ws (strB k) kn (3 * kn + 28))) ∧ Below w.heap.size w w') := fun tb w h => mKeys k kn hkn hk tb w h
  have LW : Hid (∀ j, Gf.ws (strB k) kn (3 * kn + 28) j < 256) := Gf.ws_lt (strB_lt k) _
  generalize Gf.ws (strB k) kn (3 * kn + 28) = W at *
  obtain ⟨m, hm⟩ : ∃ m, m = kn + 6 := ⟨_, rfl⟩
  have hm1 : 1 ≤ m := by omega
  have hm2 : m ≤ 14 := by omega
  rw [← hm] at KE ⊢
  have HC : Hid (Code8 w (some ⟨b, o, none⟩) n f) := h
  have LF : Hid (∀ j, f j < 256) := hf
  have LB : Hid (∀ i j, cbcB W m (fun _ => 0) f i j < 256) := fun i j => cbcB_lt LW.out (fun _ => by show (0 : Nat) < 256; omega) hf i j
  obtain ⟨E0, hE0⟩ : ∃ E : Nat → Nat, E = Gf.enc W m (fun _ => 0) := ⟨_, rfl⟩
  have lE : ∀ j, j < 16 → E0 j < 256 := fun j _ => by rw [hE0]; exact Gf.enc_lt LW.out (fun _ _ => by show (0 : Nat) < 256; omega) j
  obtain ⟨D, hD⟩ : ∃ D : Nat → Nat, D = dblB E0 := ⟨_, rfl⟩
  have lD : ∀ j, j < 16 → D j < 256 := fun j hj => by rw [hD]; exact dblB_lt lE j hj
  obtain ⟨SD, hSD⟩ : ∃ S, S = kstr D 0 16 := ⟨_, rfl⟩
  obtain ⟨SE, hSE⟩ : ∃ S, S = kstr E0 0 16 := ⟨_, rfl⟩
  have TW : Hid (∀ w : World, Calls Try.prog 61 #[.string SE] w fun e w' => e = .returned (.string SD) ∧ Below w.heap.size w w') := fun w => by
    have := l02Twice_any SE (by rw [hSE, kstr_size]) w
    rw [hSD, hD]
    rwa [kstr_same (same_dblB (by rw [hSE]; exact same_strB (fun j hj => lE j hj)))] at this
  obtain ⟨SZ, hSZ⟩ : ∃ S, S = kstr (fun _ => 0) 0 16 := ⟨_, rfl⟩
  have EZ : Hid (∀ (pb po ck tb : Nat) (w : World), MK w pb po tb m W → Calls Try.prog 55 #[.slice (some ⟨pb, po, none⟩) (m + 1) ck, .slice (some ⟨tb, 0, none⟩) 256 256, .string SZ] w fun e w' => e = .returned (.string SE) ∧ Below w.heap.size w w') := fun pb po ck tb w h =>
    (mEnc pb po ck tb m W LW.out hm1 hm2 SZ (by rw [hSZ, kstr_size]) w h).mono fun e w' hh => ⟨by
      rw [hh.1, hSE, hE0]
      refine congrArg (fun x => Ending.returned (.string x)) (kstr_same (Gf.same_enc ?_))
      rw [hSZ]
      exact same_strB (fun _ _ => by show (0 : Nat) < 256; omega), hh.2⟩
  have HZS : Hid (SZ.size = 16) := by show SZ.size = 16; rw [hSZ, kstr_size]
  have HZB : Hid (Gf.Same (strB SZ) (cbcB W m (fun _ => 0) f 0)) := by
    show Gf.Same (strB SZ) (fun _ => 0)
    rw [hSZ]; exact same_strB (fun _ _ => by show (0 : Nat) < 256; omega)
  have HSZ : Hid (SZ = kstr (fun _ => 0) 0 16) := hSZ
  have HSD : Hid (SD = kstr D 0 16) := hSD
  have HDD : Hid (D = dblB (Gf.enc W m (fun _ => 0))) := by show D = _; rw [hD, hE0]
  have HLD : Hid (∀ j, j < 16 → D j < 256) := lD
  have HQ0 : Hid ((n + 15) / 16 = cmQ n + 1 ∨ (n = 0 ∧ cmQ n = 0)) := by
    show (n + 15) / 16 = cmQ n + 1 ∨ (n = 0 ∧ cmQ n = 0)
    unfold cmQ; omega
  clear h hf hkn hk hm hi hSZ hSD hSE hD hE0 lD lE
  go_enter Try.func40, Try.ntmps40
  go_wp2_with fail
  refine (TA.out _).mono ?_
  rintro e w1 ⟨⟨tb, htb, rfl, hrow⟩, hB1⟩
  have HR : Hid (w1.rowIs tb 3 256 (fun j => .int .i64 (Gf.sub j : Nat))) := hrow
  have HB1 : Hid (Below w.heap.size w w1) := hB1
  clear hrow hB1
  go_wp2_with fail
  refine (KE.out tb w1 HR.out).mono ?_
  rintro e w2 ⟨⟨pb, po, ck, rfl, hmk⟩, hB2⟩
  have HM : Hid (MK w2 pb po tb m W) := hmk
  have HB2 : Hid (Below w.heap.size w w2) := HB1.out.trans (hB2.mono HB1.out.size)
  clear hmk hB2 HR HB1 TA KE
  obtain ⟨wa, hma, hca, hba⟩ := mk16 w2
  rw [← HSZ.out] at hca
  have HMa : Hid (MK wa pb po tb m W) := HM.out.below hba
  have HBa : Hid (Below w.heap.size w wa) := HB2.out.trans (hba.mono HB2.out.size)
  clear HM HB2 hba
  go_wp2_with fail
  refine (EZ.out _ _ _ _ _ HMa.out).mono ?_
  rintro e w3 ⟨rfl, hb3⟩
  have HM3 : Hid (MK w3 pb po tb m W) := HMa.out.below hb3
  have HB3 : Hid (Below w.heap.size w w3) := HBa.out.trans (hb3.mono HBa.out.size)
  clear HMa HBa hb3 EZ hma hca
  go_wp2_with fail
  refine (TW.out _).mono ?_
  rintro e w4 ⟨rfl, hb4⟩
  obtain ⟨w5, hm5, hc5, hb5⟩ := mk16 w4
  rw [← HSZ.out] at hc5
  have HM5 : Hid (MK w5 pb po tb m W) := (HM3.out.below hb4).below hb5
  have HB5 : Hid (Below w.heap.size w w5) := (HB3.out.trans (hb4.mono HB3.out.size)).trans (hb5.mono (HB3.out.trans (hb4.mono HB3.out.size)).size)
  clear HM3 HB3 hb4 hb5 TW
  go_upto_region 5 with fail
  clear hm5 hc5
  obtain ⟨q, hq⟩ : ∃ q, q = cmQ n := ⟨_, rfl⟩
  have HQ : Hid (q = cmQ n) := hq
  obtain ⟨d, hd⟩ : ∃ d, d = (n + 15) / 16 := ⟨_, rfl⟩
  have d1 : IntKind.i64.wrap ((n : Int) + 15) = (n : Int) + 15 := IntWalk.i64_in _ ⟨by omega, by omega⟩
  have d2 : ((n : Int) + 15) / 16 = (d : Int) := by omega
  have d3 : ((n : Int) + 15).tdiv 16 = (d : Int) := by rw [Int.tdiv_eq_ediv_of_nonneg (by omega)]; exact d2
  have d4 : (if (1 : Int) < (d : Int) then (d : Int) else 1) = (q : Int) + 1 := by
    have := HQ0.out
    split <;> omega
  have d5 : IntKind.i64.wrap (d : Int) = (d : Int) := IntWalk.i64_in _ ⟨by omega, by omega⟩
  clear hq hd
  go_upto_region 6 with fail
  have hqn : 16 * q ≤ n := by have := HQ.out; unfold cmQ at this; omega
  have hqm : n ≤ 16 * q + 16 := by have := HQ.out; unfold cmQ at this; omega
  have HQN : Hid (∀ r, r < q → 16 * r + 16 < n) := fun r hr => by have := HQ.out; unfold cmQ at this; omega
  clear d1 d2 d3 d4 d5 HQ0
  go_wp2_with fail
  go_loopw [8, 10] (fun l i wr => ∃ (r : Nat) (T : ByteArray), r ≤ q ∧ i = .int .i64 (r : Int) ∧ l = .string T ∧ T.size = 16 ∧ Gf.Same (strB T) (cbcB W m (fun _ => 0) f r) ∧ MK wr pb po tb m W ∧ Below w.heap.size w wr) (fun _ i _ => q - (intOf i).toNat)
  case atStart => exact ⟨0, SZ, by omega, rfl, rfl, HZS.out, HZB.out, HM5.out, HB5.out⟩
  case round =>
    clear HM5 HB5 HZS HZB
    obtain ⟨r, T, hr, rfl, rfl, hT, hTS, hmk, hb⟩ := hrel
    have HM : Hid (MK wr pb po tb m W) := hmk
    have HB : Hid (Below w.heap.size w wr) := hb
    clear hmk hb
    by_cases hlt : r < q
    · have hrn := HQN.out r hlt
      have hbw : b < w.heap.size := HC.out.lt _ (by omega) rfl
      have g1 : (r : Int) < (q : Int) := by omega
      have g0 : (0 : Int) ≤ 16 * (r : Int) := by omega
      have g2 : 16 * (r : Int) + 16 ≤ (c : Int) := by omega
      have g3 : 16 * (r : Int) ≤ 16 * (r : Int) + 16 := by omega
      have g4 : (16 * (r : Int)).toNat = 16 * r := by omega
      have g5 : (16 * (r : Int) + 16).toNat = 16 * r + 16 := by omega
      have g6 : ¬ c = 16 * r := by omega
      have g7 : 16 * r + 16 - 16 * r = 16 := by omega
      obtain ⟨S2, hS2⟩ : ∃ S2, S2 = kstr (fun j => strB T j ^^^ f (16 * r + j)) 0 16 := ⟨_, rfl⟩
      have HCd : Hid (Code8 wr (some ⟨b, o + 16 * r, none⟩) 16 (fun j => f (16 * r + j))) := code8_of (fun j hj => by
        rw [HB.out.cell (p := ⟨b, o + 16 * r + j, none⟩) hbw, Nat.add_assoc]
        exact HC.out.at (by omega))
      have BO : Hid (∀ w : World, Code8 w (some ⟨b, o + 16 * r, none⟩) 16 (fun j => f (16 * r + j)) → Calls Try.prog 43 #[.string T, .slice (some ⟨b, o + 16 * r, none⟩) 16 (c - 16 * r)] w fun e w' => e = .returned (.string S2) ∧ Below w.heap.size w w') := fun w h => by
        rw [hS2]
        exact l02Both_any T hT b (o + 16 * r) (c - 16 * r) (fun j => f (16 * r + j)) (fun j _ => LF.out _) w h
      have EN : Hid (∀ w : World, MK w pb po tb m W → Calls Try.prog 55 #[.slice (some ⟨pb, po, none⟩) (m + 1) ck, .slice (some ⟨tb, 0, none⟩) 256 256, .string S2] w fun e w' => e = .returned (.string (kstr (cbcB W m (fun _ => 0) f (r + 1)) 0 16)) ∧ Below w.heap.size w w') := fun w h =>
        (mEnc pb po ck tb m W LW.out hm1 hm2 S2 (by rw [hS2, kstr_size]) w h).mono fun e w' hh => ⟨by
          rw [hh.1]
          refine congrArg (fun x => Ending.returned (.string x)) (kstr_same (Gf.same_enc (fun j hj => ?_)))
          rw [hS2, strB_kstr _ 0 16 j (by rw [Nat.zero_add]; exact Gf.xor_lt (strB_lt T j) (LF.out _)) hj, Nat.zero_add, hTS j hj], hh.2⟩
      have HS16 : Hid ((kstr (cbcB W m (fun _ => 0) f (r + 1)) 0 16).size = 16) := kstr_size _ _ _
      have HTS : Hid (Gf.Same (strB (kstr (cbcB W m (fun _ => 0) f (r + 1)) 0 16)) (cbcB W m (fun _ => 0) f (r + 1))) := same_strB (fun j _ => LB.out _ _)
      generalize kstr (cbcB W m (fun _ => 0) f (r + 1)) 0 16 = E1 at *
      clear hS2 hT hTS
      go_wp2_with fail
      refine (BO.out _ HCd.out).mono ?_
      rintro e w6 ⟨rfl, hb6⟩
      have HM6 : Hid (MK w6 pb po tb m W) := HM.out.below hb6
      have HB6 : Hid (Below w.heap.size w w6) := HB.out.trans (hb6.mono HB.out.size)
      clear hb6 HM HB BO HCd
      go_wp2_with fail
      refine (EN.out _ HM6.out).mono ?_
      rintro e w7 ⟨rfl, hb7⟩
      have HM7 : Hid (MK w7 pb po tb m W) := HM6.out.below hb7
      have HB7 : Hid (Below w.heap.size w w7) := HB6.out.trans (hb7.mono HB6.out.size)
      clear hb7 HM6 HB6 EN
      go_wp2_with fail
      go_roundw
      case rel => exact ⟨r + 1, E1, by omega, by go_num, rfl, HS16.out, HTS.out, HM7.out, HB7.out⟩
      case measure => simp [intOf]; omega
    · obtain rfl : r = q := by omega
      have HLast : Hid (∀ wq : World, Below w.heap.size w wq → Code8 wq (some ⟨b, o + 16 * r, none⟩) (n - 16 * r) (fun j => f (16 * r + j))) := fun wq hq => code8_of (fun j hj => by
        have hbw : b < w.heap.size := HC.out.lt _ (by omega) rfl
        rw [hq.cell (p := ⟨b, o + 16 * r + j, none⟩) hbw, Nat.add_assoc]
        exact HC.out.at (by omega))
      obtain ⟨L, hL⟩ : ∃ L, L = n - 16 * r := ⟨_, rfl⟩
      rw [← hL] at HLast
      have hL16 : L ≤ 16 := by omega
      have HL : Hid (L = n - 16 * r) := hL
      have g1 : ¬ (r : Int) < (r : Int) := by omega
      have g0 : (0 : Int) ≤ 16 * (r : Int) := by omega
      have g2 : 16 * (r : Int) ≤ (n : Int) := by omega
      have g4 : (16 * (r : Int)).toNat = 16 * r := by omega
      have eL : n - 16 * r = L := hL.symm
      have HO8 : Hid ((wr.alloc (.cells #[] 5)).ownsRow wr.heap.size 5 1 (.slice (some ⟨wr.heap.size, 0, none⟩) 0 0) 0 []) := World.ownsRow_made wr #[] 0 (Nat.le_refl _) (Nat.zero_le _) (by simp)
      have HM8 : Hid (MK (wr.alloc (.cells #[] 5)) pb po tb m W) := HM.out.alloc _
      have HB8 : Hid (Below w.heap.size w (wr.alloc (.cells #[] 5))) := HB.out.alloc HB.out.size _
      have hw8 : wr.heap.size ≤ (wr.alloc (.cells #[] 5)).heap.size := by simp
      have hpt := HM.out.lt
      have hwr := HB.out.size
      have HTT : Hid (Gf.Same (strB T) (cbcB W m (fun _ => 0) f (cmQ n))) := by show Gf.Same _ _; rw [← HQ.out]; exact hTS
      have HT16 : Hid (T.size = 16) := hT
      clear HM HB hL hTS hT
      by_cases hc0 : c = 16 * r
      · have hr0 : r = 0 := by have h9 := HQ.out; unfold cmQ at h9; omega
        have HL0 : Hid (L = 0) := by show L = 0; omega
        clear hr0
        go_wp2_with (at_builtin; refine wpList_append_own _ rfl _ _ 22 rfl wr.heap.size 5 i0 (.int .u8 0) 1 1 Try.underlying22 HI.out.1 HI.out.2.1 HI.out.2.2.1 HI.out.2.2.2 rfl (by decide) _ _ _ rfl HO8.out _ L _ (bv L (fun j => f (16 * r + j))) rfl (by rw [bv_length, Nat.mul_one]) (fun j u hj => by rw [HL0.out] at hj; simp [bv] at hj) (bv_one _ _) (by unfold maxLen; omega) (by omega) hw8 ?_)
        intro v9 w9 hown hgrow hnil
        have BG := grown_below HO8.out hgrow hw8
        have HM9 : Hid (MK w9 pb po tb m W) := HM8.out.belowAt BG hpt.1 hpt.2
        have HB9 : Hid (Below w.heap.size w w9) := HB8.out.trans (BG.mono hwr)
        have hw9 := Nat.le_trans hw8 BG.size
        obtain ⟨g9, c9, ⟨hg9, hc9⟩, rfl, ho9⟩ := own8_of_own (n := L) hown hnil
        have HO9 : Hid (w9.ownsRow wr.heap.size 5 1 (.slice (some ⟨g9, 0, none⟩) L c9) L (bv L (fun j => f (16 * r + j)))) := hown
        clear hown hgrow hnil BG HO8 HM8 HB8
        have hl16 : L < 16 := by omega
        obtain ⟨FX, hFX⟩ : ∃ F : Nat → Nat, F = fillB L (fun j => f (16 * r + j)) := ⟨_, rfl⟩
        have lFX : ∀ j, FX j < 256 := fun j => by rw [hFX]; exact fillB_lt (fun i => LF.out _) j
        have HFX : Hid (∀ j, FX j < 256) := lFX
        have eF : FX L = 128 := by rw [hFX]; unfold fillB; rw [if_neg (by omega), if_pos rfl]
        have HFZ : Hid (∀ j, L < j → FX j = 0) := fun j hj => by rw [hFX]; unfold fillB; rw [if_neg (by omega), if_neg (by omega)]
        have HSN : Hid (bv L FX ++ [.int .u8 128] = bv (L + 1) FX) := by
          have := bv_snoc L FX
          rw [eF] at this
          exact this
        have HOF : Hid (w9.ownsRow wr.heap.size 5 1 (.slice (some ⟨g9, 0, none⟩) L c9) L (bv L FX)) := by
          show w9.ownsRow _ _ _ _ _ _
          rw [show bv L FX = bv L (fun j => f (16 * r + j)) from bv_congr (fun i hi => by rw [hFX]; unfold fillB; rw [if_pos hi])]
          exact HO9.out
        obtain ⟨S2, hS2⟩ : ∃ S, S = kstr (dblB D) 0 16 := ⟨_, rfl⟩
        obtain ⟨S3, hS3⟩ : ∃ S, S = kstr (fun j => strB T j ^^^ FX j) 0 16 := ⟨_, rfl⟩
        obtain ⟨S4, hS4⟩ : ∃ S, S = kstr (fun j => strB S3 j ^^^ dblB D j) 0 16 := ⟨_, rfl⟩
        have lDD : ∀ j, j < 16 → dblB D j < 256 := fun j hj => dblB_lt HLD.out j hj
        have TAGE : Hid (kstr (Gf.enc W m (strB S4)) 0 16 = kstr (cmacB W m n f) 0 16) := cm_tag HTT.out (fun j hj => by
            have h9 := HL.out
            rw [hFX]
            unfold lastS fillB
            rw [← HQ.out]
            by_cases h1 : j < L
            · rw [if_pos h1, if_pos (show 16 * r + j < n by omega)]
            · rw [if_neg h1, if_neg (show ¬ 16 * r + j < n by omega)]
              by_cases h2 : j = L
              · rw [if_pos h2, if_pos (show 16 * r + j = n by omega)]
              · rw [if_neg h2, if_neg (show ¬ 16 * r + j = n by omega)]) (fun j hj => by
            unfold maskB
            rw [← HQ.out, if_pos (by omega), HDD.out]) (fun j _ => lFX j) lDD hS3 hS4
        have TW2 : Hid (∀ w : World, Calls Try.prog 61 #[.string SD] w fun e w' => e = .returned (.string S2) ∧ Below w.heap.size w w') := fun w => by
          have := l02Twice_any SD (by rw [HSD.out, kstr_size]) w
          rw [hS2]
          rwa [kstr_same (same_dblB (by rw [HSD.out]; exact same_strB HLD.out))] at this
        have BO : Hid (∀ (g cc : Nat) (w : World), Code8 w (some ⟨g, 0, none⟩) 16 FX → Calls Try.prog 43 #[.string T, .slice (some ⟨g, 0, none⟩) 16 cc] w fun e w' => e = .returned (.string S3) ∧ Below w.heap.size w w') := fun g cc w h => by
          rw [hS3]; exact l02Both_any T HT16.out g 0 cc FX (fun j _ => lFX j) w h
        have BO2 : Hid (∀ (gz gc : Nat) (w : World), Code8 w (some ⟨gz, 0, none⟩) 16 (dblB D) → Calls Try.prog 43 #[.string S3, .slice (some ⟨gz, 0, none⟩) 16 gc] w fun e w' => e = .returned (.string S4) ∧ Below w.heap.size w w') := fun gz gc w h => by
          rw [hS4]; exact l02Both_any S3 (by rw [hS3, kstr_size]) gz 0 gc (dblB D) lDD w h
        have EN : Hid (∀ w : World, MK w pb po tb m W → Calls Try.prog 55 #[.slice (some ⟨pb, po, none⟩) (m + 1) ck, .slice (some ⟨tb, 0, none⟩) 256 256, .string S4] w fun e w' => e = .returned (.string (kstr (cmacB W m n f) 0 16)) ∧ Below w.heap.size w w') := fun w h =>
          (mEnc pb po ck tb m W LW.out hm1 hm2 S4 (by rw [hS4, kstr_size]) w h).mono fun e w' hh => ⟨by rw [hh.1, TAGE.out], hh.2⟩
        have HS2 : Hid (S2 = kstr (dblB D) 0 16) := hS2
        have HLDD : Hid (∀ j, j < 16 → dblB D j < 256) := lDD
        have z16 : (L : Int) < 16 := by omega
        clear HO9 ho9 hS2 hS3 hS4 TAGE HTT HT16 HLast eL hFX lFX eF lDD
        go_wp2_with fail
        refine (TW2.out _).mono ?_
        rintro e w10 ⟨rfl, hb10⟩
        have HO10 : Hid (w10.ownsRow wr.heap.size 5 1 (.slice (some ⟨g9, 0, none⟩) L c9) L (bv L FX)) := ownsRow_below8 HOF.out hb10
        have HM10 : Hid (MK w10 pb po tb m W) := HM9.out.below hb10
        have HB10 : Hid (Below w.heap.size w w10) := HB9.out.trans (hb10.mono HB9.out.size)
        have hw10 := Nat.le_trans hw9 hb10.size
        clear hb10 TW2 HM9 HB9 HOF
        go_wp2_with (at_builtin; refine wpList_append_own _ rfl _ _ 22 rfl wr.heap.size 5 i0 (.int .u8 0) 1 1 Try.underlying22 HI.out.1 HI.out.2.1 HI.out.2.2.1 HI.out.2.2.2 rfl (by decide) _ _ _ rfl (HO10.out.alloc _) ⟨w10.heap.size, 0, none⟩ 1 1 [.int .u8 128] rfl rfl (one_new8 _ _ _) (one_one8 _) (by unfold maxLen; omega) (by omega) (by simp; omega) ?_)
        intro v11 w11 hown11 hgrow11 hnil11
        rw [HSN.out] at hown11
        have BG := grown_below (HO10.out.alloc _) hgrow11 (by simp; omega)
        have HM11 : Hid (MK w11 pb po tb m W) := (HM10.out.alloc _).belowAt BG hpt.1 hpt.2
        have HB11 : Hid (Below w.heap.size w w11) := (HB10.out.alloc HB10.out.size _).trans (BG.mono hwr)
        have hw11 : wr.heap.size ≤ w11.heap.size := Nat.le_trans (by simp; omega) BG.size
        obtain ⟨g11, c11, ⟨hg11, hc11⟩, rfl, -⟩ := own8_of_own (n := L + 1) hown11 hnil11
        obtain ⟨v12, w12, hrun, ho12, hgr12, hnil12⟩ := run_own_zeros w11 wr.heap.size 22 3 22 5 i0 Try.underlying22 Try.underlying3 HI.out.1 HI.out.2.1 HI.out.2.2.1 HI.out.2.2.2 g11 (L + 1) c11 (15 - L) _ hown11 (by omega) (by omega) hw11
        have BG2 : Below wr.heap.size w11 w12 := (Below.refl _ w11).grown hgr12 hw11 (fun k hk => by cases hk; exact hg11)
        rw [bv_append, show L + 1 + (15 - L) = 16 by omega] at ho12
        obtain ⟨g12, c12, -, rfl, hO12⟩ := own8_of_own (n := 16) ho12 hnil12
        have HC12 : Hid (Code8 w12 (some ⟨g12, 0, none⟩) 16 FX) := code8_of (fun j hj => by
          rw [Nat.zero_add, hO12.cell hj]
          by_cases e : j < L + 1
          · rw [if_pos e]
          · rw [if_neg e, HFZ.out j (by omega)])
        have HM12 : Hid (MK w12 pb po tb m W) := HM11.out.belowAt BG2 hpt.1 hpt.2
        have HB12 : Hid (Below w.heap.size w w12) := HB11.out.trans (BG2.mono hwr)
        have zk : (16 : Int) - ((L : Int) + 1) = ((15 - L : Nat) : Int) := by omega
        clear hown11 hgrow11 hnil11 BG BG2 ho12 hgr12 hnil12 hO12 HM10 HB10 HM11 HB11 HO10
        go_wp2_with (at_builtin; refine Lib.wpList_append_run _ rfl _ _ _ _ rfl _ _ rfl rfl _ _ hrun ?_)
        refine (BO.out _ _ _ HC12.out).mono ?_
        rintro e wA ⟨rfl, hbA⟩
        obtain ⟨wB, gz, hcz, hwb, hbB, -⟩ := bytesOf S2 wA
        rw [show S2.size = 16 from by rw [HS2.out, kstr_size]] at hcz hwb
        have HCB : Hid (Code8 wB (some ⟨wA.heap.size, 0, none⟩) 16 (dblB D)) := (hwb.congr (fun j hj => by rw [HS2.out]; exact same_strB HLDD.out j hj)).code
        have HMB : Hid (MK wB pb po tb m W) := (HM12.out.below hbA).below hbB
        have HBA : Below w.heap.size w wA := HB12.out.trans (hbA.mono HB12.out.size)
        have HBB : Hid (Below w.heap.size w wB) := HBA.trans (hbB.mono HBA.size)
        clear hbA hbB hwb HBA HM12 HB12 HC12 BO hrun
        go_wp2_with fail
        refine (BO2.out _ _ _ HCB.out).mono ?_
        rintro e wC ⟨rfl, hbC⟩
        have HMC : Hid (MK wC pb po tb m W) := HMB.out.below hbC
        have HBC : Hid (Below w.heap.size w wC) := HBB.out.trans (hbC.mono HBB.out.size)
        clear hbC HMB HBB HCB BO2 hcz
        go_wp2_with fail
        refine (EN.out _ HMC.out).mono ?_
        rintro e wD ⟨rfl, hbD⟩
        have HBD : Hid (Below w.heap.size w wD) := HBC.out.trans (hbD.mono HBC.out.size)
        clear hbD HMC HBC EN
        go_wp2
        go_ret
        exact ⟨rfl, HBD.out⟩
      · go_wp2_with (at_builtin; refine wpList_append_own _ rfl _ _ 22 rfl wr.heap.size 5 i0 (.int .u8 0) 1 1 Try.underlying22 HI.out.1 HI.out.2.1 HI.out.2.2.1 HI.out.2.2.2 rfl (by decide) _ _ _ rfl HO8.out ⟨b, o + 16 * r, none⟩ L (c - 16 * r) (bv L (fun j => f (16 * r + j))) rfl (by rw [bv_length, Nat.mul_one]) (bv_news (HLast.out _ HB8.out)) (bv_one _ _) (by unfold maxLen; omega) (by omega) hw8 ?_)
        intro v9 w9 hown hgrow hnil
        have BG := grown_below HO8.out hgrow hw8
        have HM9 : Hid (MK w9 pb po tb m W) := HM8.out.belowAt BG hpt.1 hpt.2
        have HB9 : Hid (Below w.heap.size w w9) := HB8.out.trans (BG.mono hwr)
        have hw9 := Nat.le_trans hw8 BG.size
        obtain ⟨g9, c9, ⟨hg9, hc9⟩, rfl, ho9⟩ := own8_of_own (n := L) hown hnil
        have HO9 : Hid (w9.ownsRow wr.heap.size 5 1 (.slice (some ⟨g9, 0, none⟩) L c9) L (bv L (fun j => f (16 * r + j)))) := hown
        clear hown hgrow hnil BG HO8 HM8 HB8
        by_cases h16 : L = 16
        · have ho16 : Own8 w9 g9 16 (fun j => f (16 * r + j)) := by rw [h16] at ho9; exact ho9
          have HR9 : Hid (Code8 w9 (some ⟨g9, 0, none⟩) 16 (fun j => f (16 * r + j))) := code8_of (fun j hj => by rw [Nat.zero_add]; exact ho16.cell hj)
          obtain ⟨S3, hS3⟩ : ∃ S, S = kstr (fun j => strB T j ^^^ f (16 * r + j)) 0 16 := ⟨_, rfl⟩
          obtain ⟨S4, hS4⟩ : ∃ S, S = kstr (fun j => strB S3 j ^^^ D j) 0 16 := ⟨_, rfl⟩
          have TAGE : Hid (kstr (Gf.enc W m (strB S4)) 0 16 = kstr (cmacB W m n f) 0 16) := cm_tag HTT.out (fun j hj => by
              unfold lastS
              rw [← HQ.out, if_pos (by omega)]) (fun j hj => by
              unfold maskB
              rw [← HQ.out, if_neg (by omega), HDD.out]) (fun j _ => LF.out _) HLD.out hS3 hS4
          have BO : Hid (∀ w : World, Code8 w (some ⟨g9, 0, none⟩) 16 (fun j => f (16 * r + j)) → Calls Try.prog 43 #[.string T, .slice (some ⟨g9, 0, none⟩) 16 c9] w fun e w' => e = .returned (.string S3) ∧ Below w.heap.size w w') := fun w h => by
            rw [hS3]; exact l02Both_any T HT16.out g9 0 c9 (fun j => f (16 * r + j)) (fun j _ => LF.out _) w h
          have BO2 : Hid (∀ (gz gc : Nat) (w : World), Code8 w (some ⟨gz, 0, none⟩) 16 D → Calls Try.prog 43 #[.string S3, .slice (some ⟨gz, 0, none⟩) 16 gc] w fun e w' => e = .returned (.string S4) ∧ Below w.heap.size w w') := fun gz gc w h => by
            rw [hS4]; exact l02Both_any S3 (by rw [hS3, kstr_size]) gz 0 gc D HLD.out w h
          have EN : Hid (∀ w : World, MK w pb po tb m W → Calls Try.prog 55 #[.slice (some ⟨pb, po, none⟩) (m + 1) ck, .slice (some ⟨tb, 0, none⟩) 256 256, .string S4] w fun e w' => e = .returned (.string (kstr (cmacB W m n f) 0 16)) ∧ Below w.heap.size w w') := fun w h =>
            (mEnc pb po ck tb m W LW.out hm1 hm2 S4 (by rw [hS4, kstr_size]) w h).mono fun e w' hh => ⟨by rw [hh.1, TAGE.out], hh.2⟩
          have z16 : ¬ (L : Int) < 16 := by omega
          have eL16 : L = 16 := h16
          clear HO9 ho9 ho16 hS3 hS4 TAGE HTT HT16 h16 HLast eL
          subst eL16
          go_wp2_with fail
          refine (BO.out _ HR9.out).mono ?_
          rintro e wA ⟨rfl, hbA⟩
          obtain ⟨wB, gz, hcz, hwb, hbB, -⟩ := bytesOf SD wA
          rw [show SD.size = 16 from by rw [HSD.out, kstr_size]] at hcz hwb
          have HCB : Hid (Code8 wB (some ⟨wA.heap.size, 0, none⟩) 16 D) := (hwb.congr (fun j hj => by rw [HSD.out]; exact same_strB HLD.out j hj)).code
          have HMB : Hid (MK wB pb po tb m W) := (HM9.out.below hbA).below hbB
          have HBA : Below w.heap.size w wA := HB9.out.trans (hbA.mono HB9.out.size)
          have HBB : Hid (Below w.heap.size w wB) := HBA.trans (hbB.mono HBA.size)
          clear hbA hbB hwb HBA HM9 HB9 HR9 BO
          go_wp2_with fail
          refine (BO2.out _ _ _ HCB.out).mono ?_
          rintro e wC ⟨rfl, hbC⟩
          have HMC : Hid (MK wC pb po tb m W) := HMB.out.below hbC
          have HBC : Hid (Below w.heap.size w wC) := HBB.out.trans (hbC.mono HBB.out.size)
          clear hbC HMB HBB HCB BO2 hcz
          go_wp2_with fail
          refine (EN.out _ HMC.out).mono ?_
          rintro e wD ⟨rfl, hbD⟩
          have HBD : Hid (Below w.heap.size w wD) := HBC.out.trans (hbD.mono HBC.out.size)
          clear hbD HMC HBC EN
          go_wp2
          go_ret
          exact ⟨rfl, HBD.out⟩
        · have hl16 : L < 16 := by omega
          obtain ⟨FX, hFX⟩ : ∃ F : Nat → Nat, F = fillB L (fun j => f (16 * r + j)) := ⟨_, rfl⟩
          have lFX : ∀ j, FX j < 256 := fun j => by rw [hFX]; exact fillB_lt (fun i => LF.out _) j
          have HFX : Hid (∀ j, FX j < 256) := lFX
          have eF : FX L = 128 := by rw [hFX]; unfold fillB; rw [if_neg (by omega), if_pos rfl]
          have HFZ : Hid (∀ j, L < j → FX j = 0) := fun j hj => by rw [hFX]; unfold fillB; rw [if_neg (by omega), if_neg (by omega)]
          have HSN : Hid (bv L FX ++ [.int .u8 128] = bv (L + 1) FX) := by
            have := bv_snoc L FX
            rw [eF] at this
            exact this
          have HOF : Hid (w9.ownsRow wr.heap.size 5 1 (.slice (some ⟨g9, 0, none⟩) L c9) L (bv L FX)) := by
            show w9.ownsRow _ _ _ _ _ _
            rw [show bv L FX = bv L (fun j => f (16 * r + j)) from bv_congr (fun i hi => by rw [hFX]; unfold fillB; rw [if_pos hi])]
            exact HO9.out
          obtain ⟨S2, hS2⟩ : ∃ S, S = kstr (dblB D) 0 16 := ⟨_, rfl⟩
          obtain ⟨S3, hS3⟩ : ∃ S, S = kstr (fun j => strB T j ^^^ FX j) 0 16 := ⟨_, rfl⟩
          obtain ⟨S4, hS4⟩ : ∃ S, S = kstr (fun j => strB S3 j ^^^ dblB D j) 0 16 := ⟨_, rfl⟩
          have lDD : ∀ j, j < 16 → dblB D j < 256 := fun j hj => dblB_lt HLD.out j hj
          have TAGE : Hid (kstr (Gf.enc W m (strB S4)) 0 16 = kstr (cmacB W m n f) 0 16) := cm_tag HTT.out (fun j hj => by
              have h9 := HL.out
              rw [hFX]
              unfold lastS fillB
              rw [← HQ.out]
              by_cases h1 : j < L
              · rw [if_pos h1, if_pos (show 16 * r + j < n by omega)]
              · rw [if_neg h1, if_neg (show ¬ 16 * r + j < n by omega)]
                by_cases h2 : j = L
                · rw [if_pos h2, if_pos (show 16 * r + j = n by omega)]
                · rw [if_neg h2, if_neg (show ¬ 16 * r + j = n by omega)]) (fun j hj => by
              unfold maskB
              rw [← HQ.out, if_pos (by omega), HDD.out]) (fun j _ => lFX j) lDD hS3 hS4
          have TW2 : Hid (∀ w : World, Calls Try.prog 61 #[.string SD] w fun e w' => e = .returned (.string S2) ∧ Below w.heap.size w w') := fun w => by
            have := l02Twice_any SD (by rw [HSD.out, kstr_size]) w
            rw [hS2]
            rwa [kstr_same (same_dblB (by rw [HSD.out]; exact same_strB HLD.out))] at this
          have BO : Hid (∀ (g cc : Nat) (w : World), Code8 w (some ⟨g, 0, none⟩) 16 FX → Calls Try.prog 43 #[.string T, .slice (some ⟨g, 0, none⟩) 16 cc] w fun e w' => e = .returned (.string S3) ∧ Below w.heap.size w w') := fun g cc w h => by
            rw [hS3]; exact l02Both_any T HT16.out g 0 cc FX (fun j _ => lFX j) w h
          have BO2 : Hid (∀ (gz gc : Nat) (w : World), Code8 w (some ⟨gz, 0, none⟩) 16 (dblB D) → Calls Try.prog 43 #[.string S3, .slice (some ⟨gz, 0, none⟩) 16 gc] w fun e w' => e = .returned (.string S4) ∧ Below w.heap.size w w') := fun gz gc w h => by
            rw [hS4]; exact l02Both_any S3 (by rw [hS3, kstr_size]) gz 0 gc (dblB D) lDD w h
          have EN : Hid (∀ w : World, MK w pb po tb m W → Calls Try.prog 55 #[.slice (some ⟨pb, po, none⟩) (m + 1) ck, .slice (some ⟨tb, 0, none⟩) 256 256, .string S4] w fun e w' => e = .returned (.string (kstr (cmacB W m n f) 0 16)) ∧ Below w.heap.size w w') := fun w h =>
            (mEnc pb po ck tb m W LW.out hm1 hm2 S4 (by rw [hS4, kstr_size]) w h).mono fun e w' hh => ⟨by rw [hh.1, TAGE.out], hh.2⟩
          have HS2 : Hid (S2 = kstr (dblB D) 0 16) := hS2
          have HLDD : Hid (∀ j, j < 16 → dblB D j < 256) := lDD
          have z16 : (L : Int) < 16 := by omega
          clear HO9 ho9 hS2 hS3 hS4 TAGE HTT HT16 h16 HLast eL hFX lFX eF lDD
          go_wp2_with fail
          refine (TW2.out _).mono ?_
          rintro e w10 ⟨rfl, hb10⟩
          have HO10 : Hid (w10.ownsRow wr.heap.size 5 1 (.slice (some ⟨g9, 0, none⟩) L c9) L (bv L FX)) := ownsRow_below8 HOF.out hb10
          have HM10 : Hid (MK w10 pb po tb m W) := HM9.out.below hb10
          have HB10 : Hid (Below w.heap.size w w10) := HB9.out.trans (hb10.mono HB9.out.size)
          have hw10 := Nat.le_trans hw9 hb10.size
          clear hb10 TW2 HM9 HB9 HOF
          go_wp2_with (at_builtin; refine wpList_append_own _ rfl _ _ 22 rfl wr.heap.size 5 i0 (.int .u8 0) 1 1 Try.underlying22 HI.out.1 HI.out.2.1 HI.out.2.2.1 HI.out.2.2.2 rfl (by decide) _ _ _ rfl (HO10.out.alloc _) ⟨w10.heap.size, 0, none⟩ 1 1 [.int .u8 128] rfl rfl (one_new8 _ _ _) (one_one8 _) (by unfold maxLen; omega) (by omega) (by simp; omega) ?_)
          intro v11 w11 hown11 hgrow11 hnil11
          rw [HSN.out] at hown11
          have BG := grown_below (HO10.out.alloc _) hgrow11 (by simp; omega)
          have HM11 : Hid (MK w11 pb po tb m W) := (HM10.out.alloc _).belowAt BG hpt.1 hpt.2
          have HB11 : Hid (Below w.heap.size w w11) := (HB10.out.alloc HB10.out.size _).trans (BG.mono hwr)
          have hw11 : wr.heap.size ≤ w11.heap.size := Nat.le_trans (by simp; omega) BG.size
          obtain ⟨g11, c11, ⟨hg11, hc11⟩, rfl, -⟩ := own8_of_own (n := L + 1) hown11 hnil11
          obtain ⟨v12, w12, hrun, ho12, hgr12, hnil12⟩ := run_own_zeros w11 wr.heap.size 22 3 22 5 i0 Try.underlying22 Try.underlying3 HI.out.1 HI.out.2.1 HI.out.2.2.1 HI.out.2.2.2 g11 (L + 1) c11 (15 - L) _ hown11 (by omega) (by omega) hw11
          have BG2 : Below wr.heap.size w11 w12 := (Below.refl _ w11).grown hgr12 hw11 (fun k hk => by cases hk; exact hg11)
          rw [bv_append, show L + 1 + (15 - L) = 16 by omega] at ho12
          obtain ⟨g12, c12, -, rfl, hO12⟩ := own8_of_own (n := 16) ho12 hnil12
          have HC12 : Hid (Code8 w12 (some ⟨g12, 0, none⟩) 16 FX) := code8_of (fun j hj => by
            rw [Nat.zero_add, hO12.cell hj]
            by_cases e : j < L + 1
            · rw [if_pos e]
            · rw [if_neg e, HFZ.out j (by omega)])
          have HM12 : Hid (MK w12 pb po tb m W) := HM11.out.belowAt BG2 hpt.1 hpt.2
          have HB12 : Hid (Below w.heap.size w w12) := HB11.out.trans (BG2.mono hwr)
          have zk : (16 : Int) - ((L : Int) + 1) = ((15 - L : Nat) : Int) := by omega
          clear hown11 hgrow11 hnil11 BG BG2 ho12 hgr12 hnil12 hO12 HM10 HB10 HM11 HB11 HO10
          go_wp2_with (at_builtin; refine Lib.wpList_append_run _ rfl _ _ _ _ rfl _ _ rfl rfl _ _ hrun ?_)
          refine (BO.out _ _ _ HC12.out).mono ?_
          rintro e wA ⟨rfl, hbA⟩
          obtain ⟨wB, gz, hcz, hwb, hbB, -⟩ := bytesOf S2 wA
          rw [show S2.size = 16 from by rw [HS2.out, kstr_size]] at hcz hwb
          have HCB : Hid (Code8 wB (some ⟨wA.heap.size, 0, none⟩) 16 (dblB D)) := (hwb.congr (fun j hj => by rw [HS2.out]; exact same_strB HLDD.out j hj)).code
          have HMB : Hid (MK wB pb po tb m W) := (HM12.out.below hbA).below hbB
          have HBA : Below w.heap.size w wA := HB12.out.trans (hbA.mono HB12.out.size)
          have HBB : Hid (Below w.heap.size w wB) := HBA.trans (hbB.mono HBA.size)
          clear hbA hbB hwb HBA HM12 HB12 HC12 BO hrun
          go_wp2_with fail
          refine (BO2.out _ _ _ HCB.out).mono ?_
          rintro e wC ⟨rfl, hbC⟩
          have HMC : Hid (MK wC pb po tb m W) := HMB.out.below hbC
          have HBC : Hid (Below w.heap.size w wC) := HBB.out.trans (hbC.mono HBB.out.size)
          clear hbC HMB HBB HCB BO2 hcz
          go_wp2_with fail
          refine (EN.out _ HMC.out).mono ?_
          rintro e wD ⟨rfl, hbD⟩
          have HBD : Hid (Below w.heap.size w wD) := HBC.out.trans (hbD.mono HBC.out.size)
          clear hbD HMC HBC EN
          go_wp2
          go_ret
          exact ⟨rfl, HBD.out⟩
end Go.Proofs.Ytbhlgcenfanicaa

/-
  The model's Cmac with its codes.
-/
namespace Go.Proofs.Ytbhlgcenfanicaa
open Go.ChangeShapes Go.WideShapes Go.ChangeAt Go.RowKit
theorem specCm_long (k : ByteArray) (a : Option Addr) (n c : Nat) (h : 65536 < k.size ∨ 65536 < n) (w : World) :
    Calls Try.prog 15 #[.string k, .slice a n c] w fun e w' => e = .returned (.tuple #[.string ⟨#[]⟩, .int .i64 2]) ∧ w = w' := by
  by_cases h1 : 65536 < k.size
  · have e1 : (65536 : Int) < k.size := by omega
    go_enter Try.func15, Try.ntmps15
    go_wp2
    go_ret2
    exact ⟨rfl, rfl⟩
  · have e1 : ¬ (65536 : Int) < k.size := by omega
    have e3 : (65536 : Int) < n := by omega
    go_enter Try.func15, Try.ntmps15
    go_wp2
    go_ret2
    exact ⟨rfl, rfl⟩
theorem specCm_bad (k : ByteArray) (a : Option Addr) (n c : Nat) (h1 : k.size ≤ 65536) (h3 : n ≤ 65536) (h : ¬ (k.size = 16 ∨ k.size = 32)) (w : World) :
    Calls Try.prog 15 #[.string k, .slice a n c] w fun e w' => e = .returned (.tuple #[.string ⟨#[]⟩, .int .i64 1]) ∧ w = w' := by
  have e1 : ¬ (65536 : Int) < k.size := by omega
  have e3 : ¬ (65536 : Int) < n := by omega
  have KO : Hid (∀ w : World, Calls Try.prog 30 #[.string k] w fun e w' => e = .returned (.bool false) ∧ w = w') := l01Key_no k (by omega) (by omega)
  clear h
  go_enter Try.func15, Try.ntmps15
  go_wp2_with (go_at_call 30; refine (KO.out _).mono ?_; rintro e w' ⟨rfl, rfl⟩)
  go_ret2
  exact ⟨rfl, rfl⟩
theorem specCm_yes (k : ByteArray) (kn b o n c : Nat) (f : Nat → Nat) (hkn : kn = 4 ∨ kn = 8) (hk : k.size = kn * 4) (hn : n ≤ 65536) (hnc : n ≤ c) (hf : ∀ i, f i < 256) (w : World) (h : Code8 w (some ⟨b, o, none⟩) n f) :
    Calls Try.prog 15 #[.string k, .slice (some ⟨b, o, none⟩) n c] w fun e w' => e = .returned (.tuple #[.string (kstr (cmacB (Gf.ws (strB k) kn (3 * kn + 28)) (kn + 6) n f) 0 16), .int .i64 0]) ∧ Below w.heap.size w w' := by
  have e1 : ¬ (65536 : Int) < k.size := by omega
  have e3 : ¬ (65536 : Int) < n := by omega
  have KO : Hid (∀ w : World, Calls Try.prog 30 #[.string k] w fun e w' => e = .returned (.bool true) ∧ w = w') := l01Key_yes k (by omega)
  have LC : Hid (Calls Try.prog 40 #[.string k, .slice (some ⟨b, o, none⟩) n c] w fun e w' => e = .returned (.string (kstr (cmacB (Gf.ws (strB k) kn (3 * kn + 28)) (kn + 6) n f) 0 16)) ∧ Below w.heap.size w w') := l02Cmac_any k kn b o n c f hkn hk hn hnc hf w h
  generalize kstr (cmacB (Gf.ws (strB k) kn (3 * kn + 28)) (kn + 6) n f) 0 16 = g at *
  clear h hf hkn hk
  go_enter Try.func15, Try.ntmps15
  go_wp2_with (go_at_call 30; refine (KO.out _).mono ?_; rintro e w' ⟨rfl, rfl⟩)
  refine LC.out.mono ?_
  rintro e w1 ⟨rfl, hB⟩
  have B1 : Hid (Below w.heap.size w w1) := hB
  clear hB
  go_wp2
  go_ret2
  exact ⟨rfl, B1.out⟩
end Go.Proofs.Ytbhlgcenfanicaa

/-
  The model's draw of a text: what PlainOf answers, as far as the laws need it: some bytes, few, of the call's own.
-/
namespace Go.Proofs.Ytbhlgcenfanicaa
open Go.ChangeShapes Go.WideShapes Go.ChangeAt Go.RowKit
/-- A source that has drawn at most A times. -/
def SrcA (w : World) (b : Nat) (a : Option Addr) (len cap A : Nat) : Prop := ∃ at_ seed, at_ ≤ A ∧ seed < 2147483648 ∧ Src w b a len cap at_ seed
theorem SrcA.lt {w : World} {b : Nat} {a : Option Addr} {len cap A : Nat} (h : SrcA w b a len cap A) : b < w.heap.size := by
  obtain ⟨_, _, _, _, h⟩ := h
  exact h.lt
theorem SrcA.mono {w : World} {b : Nat} {a : Option Addr} {len cap A A' : Nat} (h : SrcA w b a len cap A) (hA : A ≤ A') : SrcA w b a len cap A' := by
  obtain ⟨x, y, h1, h2, h3⟩ := h
  exact ⟨x, y, Nat.le_trans h1 hA, h2, h3⟩
theorem SrcA.below {w w' : World} {b : Nat} {a : Option Addr} {len cap A : Nat} (h : SrcA w b a len cap A) (hb : Below w.heap.size w w') : SrcA w' b a len cap A := by
  obtain ⟨x, y, h1, h2, h3⟩ := h
  exact ⟨x, y, h1, h2, h3.below hb⟩
theorem SrcA.belowAt {w w' : World} {B b : Nat} {a : Option Addr} {len cap A : Nat} (h : SrcA w b a len cap A) (hb : Below B w w') (hB : b < B) : SrcA w' b a len cap A := by
  obtain ⟨x, y, h1, h2, hs⟩ := h
  have hk := hb.block b hB
  exact ⟨x, y, h1, h2, by rw [World.cell?_of_block (w := w) hk]; exact hs.code, by rw [World.cell?_of_block (w := w) hk]; exact hs.at1, by rw [World.cell?_of_block (w := w) hk]; exact hs.seed2, by rw [World.frozen?_of_block (w := w) hk]; exact hs.free1, by rw [World.frozen?_of_block (w := w) hk]; exact hs.free2⟩
theorem next_ex (n : Nat) (hn : 2 ≤ n) (hn' : n ≤ 256) (b : Nat) (a : Option Addr) (len cap A : Nat) (z : Nat → Nat) (hz : ∀ i, z i < 256) (hA : A ≤ 100000) (hl : len ≤ maxLen) (hsep : ∀ x, 0 < len → a = some x → x.block ≠ b) (w : World) (h : SrcA w b a len cap A) (hc : Code8 w a len z) :
    Calls Try.prog 46 #[.pointer (some ⟨b, 0, none⟩), .int .i64 (n : Int)] w fun e w' => (∃ r : Nat, r < n ∧ e = .returned (.int .i64 (r : Int))) ∧ SrcA w' b a len cap (A + 1) ∧ OnlyB b w w' := by
  obtain ⟨x, y, h1, h2, h3⟩ := h
  refine (next_any n hn hn' b a len cap x y z hz (by omega) h2 hl hsep w h3 hc).mono ?_
  rintro e w' ⟨he, hs, ho⟩
  exact ⟨⟨_, Nat.mod_lt _ (by omega), he⟩, ⟨x + 1, _, by omega, (drawB_lt hz h2).2, hs⟩, ho⟩
theorem bv_ext (k r : Nat) (f : Nat → Nat) : bv k f ++ [.int .u8 (r : Nat)] = bv (k + 1) (fun j => if j = k then r else f j) := by
  have e := bv_snoc k (fun j => if j = k then r else f j)
  rw [if_pos rfl, bv_congr (g := f) (fun i hi => if_neg (by omega))] at e
  exact e
theorem OnlyB.belowS {b : Nat} {w w' w'' : World} {B : Nat} (h : OnlyB b w w') (hb : Below B w' w'') (hB : w.heap.size ≤ B) : OnlyB b w w'' :=
  ⟨hb.os.trans h.os, hb.tape.trans h.tape, hb.output.trans h.output, Nat.le_trans h.size hb.size, fun k hk hn => (hb.block k (by omega)).trans (h.block k hk hn)⟩
/-- Some bytes, at most so many, at a row of the call's own. -/
def SomeOwn (B : Nat) (w' : World) (e : Ending) (most : Nat) : Prop := ∃ (m : Nat) (f : Nat → Nat) (g c : Nat), m ≤ most ∧ (∀ i, f i < 256) ∧ e = .returned (.slice (some ⟨g, 0, none⟩) m c) ∧ w'.ownsRow B 5 1 (.slice (some ⟨g, 0, none⟩) m c) m (bv m f)
set_option maxRecDepth 100000 in
set_option maxHeartbeats 1000000 in
theorem bytes_ex (b : Nat) (a : Option Addr) (len cap A : Nat) (z : Nat → Nat) (hz : ∀ i, z i < 256) (hA : A ≤ 1000) (hl : len ≤ maxLen) (hsep : ∀ x, 0 < len → a = some x → x.block ≠ b) (w : World) (h : SrcA w b a len cap A) (hc : Code8 w a len z) :
    Calls Try.prog 47 #[.pointer (some ⟨b, 0, none⟩), .int .i64 30] w fun e w' => SomeOwn w.heap.size w' e 30 ∧ SrcA w' b a len cap (A + 40) ∧ OnlyB b w w' := by
  obtain ⟨i0, hi⟩ := info_parts Try.info8
  have HI : Hid (Try.prog.info? 5 = some i0 ∧ i0.zero = some (.int .u8 0) ∧ i0.size = 1 ∧ i0.bytes = 1) := hi
  have NX : Hid (∀ (n A : Nat) (w : World), 2 ≤ n → n ≤ 256 → A ≤ 100000 → SrcA w b a len cap A → Code8 w a len z → Calls Try.prog 46 #[.pointer (some ⟨b, 0, none⟩), .int .i64 (n : Int)] w fun e w' => (∃ r : Nat, r < n ∧ e = .returned (.int .i64 (r : Int))) ∧ SrcA w' b a len cap (A + 1) ∧ OnlyB b w w') := fun n A w h1 h2 h3 h4 h5 => next_ex n h1 h2 b a len cap A z hz h3 hl hsep w h4 h5
  have HC : Hid (Code8 w a len z) := hc
  have HSEP : Hid (∀ x, 0 < len → a = some x → x.block ≠ b) := hsep
  have hbl : b < w.heap.size := h.lt
  have H0 : Hid (SrcA (w.alloc (.cells #[] 5)) b a len cap A) := h.below ((Below.refl _ _).alloc (Nat.le_refl _) _)
  have HC0 : Hid (Code8 (w.alloc (.cells #[] 5)) a len z) := hc.below ((Below.refl _ _).alloc (Nat.le_refl _) _)
  have HO0 : Hid ((w.alloc (.cells #[] 5)).ownsRow w.heap.size 5 1 (.slice (some ⟨w.heap.size, 0, none⟩) 0 0) 0 (bv 0 (fun _ => 0))) := World.ownsRow_made w #[] 0 (Nat.le_refl _) (Nat.zero_le _) (by simp)
  have HB0 : Hid (OnlyB b w (w.alloc (.cells #[] 5))) := (OnlyB.refl b w).below ((Below.refl _ _).alloc (Nat.le_refl _) _)
  have NX31 : Hid (∀ w : World, SrcA w b a len cap A → Code8 w a len z → Calls Try.prog 46 #[.pointer (some ⟨b, 0, none⟩), .int .i64 31] w fun e w' => (∃ r : Nat, r < 31 ∧ e = .returned (.int .i64 (r : Int))) ∧ SrcA w' b a len cap (A + 1) ∧ OnlyB b w w') := fun w h1 h2 => NX.out 31 A w (by omega) (by omega) (by omega) h1 h2
  clear h hc hsep hz hi
  go_enter Try.func47, Try.ntmps47
  go_wp2_with fail
  refine (NX31.out _ H0.out HC0.out).mono ?_
  rintro e w1 ⟨⟨m, hm, rfl⟩, hs1, ho1⟩
  have HO1 : Hid (w1.ownsRow w.heap.size 5 1 (.slice (some ⟨w.heap.size, 0, none⟩) 0 0) 0 (bv 0 (fun _ => 0))) := ownsRow_onlyB HO0.out ho1 hbl
  have HS1 : Hid (SrcA w1 b a len cap (A + 1)) := hs1
  have HB1 : Hid (OnlyB b w w1) := HB0.out.trans ho1
  clear hs1 ho1 HO0 HB0 H0 HC0 NX31
  go_wp2_with fail
  go_loopw [5, 6] (fun v i wr => ∃ (k g c : Nat) (f : Nat → Nat), k ≤ m ∧ i = .int .i64 ((m : Int) - (k : Int)) ∧ v = .slice (some ⟨g, 0, none⟩) k c ∧ (∀ i, f i < 256) ∧ wr.ownsRow w.heap.size 5 1 (.slice (some ⟨g, 0, none⟩) k c) k (bv k f) ∧ SrcA wr b a len cap (A + 1 + k) ∧ OnlyB b w wr) (fun _ i _ => (intOf i).toNat)
  case atStart => exact ⟨0, w.heap.size, 0, fun _ => 0, by omega, numEq8 (by omega), rfl, fun _ => by show (0 : Nat) < 256; omega, HO1.out, HS1.out, HB1.out⟩
  case round =>
    clear HO1 HS1 HB1
    obtain ⟨k, g, c, f, hk, rfl, rfl, hf, hown, hsr, ho⟩ := hrel
    have HF : Hid (∀ i, f i < 256) := hf
    have HO : Hid (wr.ownsRow w.heap.size 5 1 (.slice (some ⟨g, 0, none⟩) k c) k (bv k f)) := hown
    have HS : Hid (SrcA wr b a len cap (A + 1 + k)) := hsr
    have HW : Hid (OnlyB b w wr) := ho
    have HCr : Hid (Code8 wr a len z) := HC.out.onlyB ho HSEP.out
    clear hown hsr ho hf
    by_cases hlt : k < m
    · have x1 : (0 : Int) < (m : Int) - (k : Int) := by omega
      have NXk : Hid (∀ w : World, SrcA w b a len cap (A + 1 + k) → Code8 w a len z → Calls Try.prog 46 #[.pointer (some ⟨b, 0, none⟩), .int .i64 256] w fun e w' => (∃ r : Nat, r < 256 ∧ e = .returned (.int .i64 (r : Int))) ∧ SrcA w' b a len cap (A + 1 + k + 1) ∧ OnlyB b w w') := fun w h1 h2 => NX.out 256 (A + 1 + k) w (by omega) (by omega) (by omega) h1 h2
      go_wp2_with fail
      refine (NXk.out _ HS.out HCr.out).mono ?_
      rintro e w1 ⟨⟨X, hX, rfl⟩, hs1, ho1⟩
      have HO1 : Hid (w1.ownsRow w.heap.size 5 1 (.slice (some ⟨g, 0, none⟩) k c) k (bv k f)) := ownsRow_onlyB HO.out ho1 hbl
      have HS1 : Hid (SrcA w1 b a len cap (A + 1 + k + 1)) := hs1
      have HW1 : Hid (OnlyB b w w1) := HW.out.trans ho1
      have hsz := HW1.out.size
      have y0 : (X : Int) % 256 = (X : Int) := by omega
      clear hs1 ho1 HO HS HW HCr NXk
      go_wp2_with (at_builtin; refine wpList_append_own _ rfl _ _ 22 rfl w.heap.size 5 i0 (.int .u8 0) 1 1 Try.underlying22 HI.out.1 HI.out.2.1 HI.out.2.2.1 HI.out.2.2.2 rfl (by decide) (.slice (some ⟨g, 0, none⟩) k c) k _ rfl (HO1.out.alloc _) ⟨w1.heap.size, 0, none⟩ 1 1 [.int .u8 (X : Nat)] rfl rfl (one_new8 _ _ _) (one_one8 _) (by unfold maxLen; omega) (by omega) (by simp; omega) ?_)
      intro v' w2 hown' hgrow hnil
      have BG : Below w.heap.size w1 w2 := ((Below.refl w.heap.size w1).alloc hsz _).grown hgrow (by simp; omega) (fun b hb => (HO1.out.lt b hb).1)
      rw [bv_ext] at hown'
      obtain ⟨g2, c2, ⟨hg2, hc2⟩, rfl, -⟩ := own8_of_own hown' hnil
      have HO2 : Hid (w2.ownsRow w.heap.size 5 1 (.slice (some ⟨g2, 0, none⟩) (k + 1) c2) (k + 1) (bv (k + 1) (fun j => if j = k then X else f j))) := hown'
      have HF2 : Hid (∀ i, (fun j => if j = k then X else f j) i < 256) := fun i => by
        show (if i = k then X else f i) < 256
        split
        · exact hX
        · exact HF.out i
      have HW2 : Hid (OnlyB b w w2) := HW1.out.belowS BG (Nat.le_refl _)
      have HS2 : Hid (SrcA w2 b a len cap (A + 1 + (k + 1))) := HS1.out.belowAt BG hbl
      have HK : Hid ((m : Int) - (k : Int) - 1 = (m : Int) - ((k + 1 : Nat) : Int)) := by show (m : Int) - (k : Int) - 1 = _; omega
      clear hown' hgrow hnil HO1 HS1 HW1 BG
      generalize (fun j => if j = k then X else f j) = f2 at *
      go_wp2
      go_roundw
      case rel => exact ⟨k + 1, g2, c2, f2, by omega, numEq8 HK.out, rfl, HF2.out, HO2.out, HS2.out, HW2.out⟩
      case measure => simp [intOf]; omega
    · have x1 : ¬ (0 : Int) < (m : Int) - (k : Int) := by omega
      have HS2 : Hid (SrcA wr b a len cap (A + 40)) := HS.out.mono (by omega)
      go_wp2
      go_ret
      exact ⟨⟨k, f, g, c, by omega, HF.out, rfl, HO.out⟩, HS2.out, HW.out⟩
set_option maxRecDepth 100000 in
set_option maxHeartbeats 1000000 in
theorem plain_ex (b : Nat) (a : Option Addr) (len cap A : Nat) (z : Nat → Nat) (hz : ∀ i, z i < 256) (hA : A ≤ 1000) (hl : len ≤ maxLen) (hsep : ∀ x, 0 < len → a = some x → x.block ≠ b) (w : World) (h : SrcA w b a len cap A) (hc : Code8 w a len z) :
    Calls Try.prog 23 #[.pointer (some ⟨b, 0, none⟩)] w fun e w' => SomeOwn w.heap.size w' e 80 ∧ OnlyB b w w' := by
  obtain ⟨i0, hi⟩ := info_parts Try.info8
  have BY : Hid (∀ w : World, SrcA w b a len cap A → Code8 w a len z → Calls Try.prog 47 #[.pointer (some ⟨b, 0, none⟩), .int .i64 30] w fun e w' => SomeOwn w.heap.size w' e 30 ∧ SrcA w' b a len cap (A + 40) ∧ OnlyB b w w') := fun w h1 h2 => bytes_ex b a len cap A z hz hA hl hsep w h1 h2
  have NX : Hid (∀ w : World, SrcA w b a len cap (A + 40) → Code8 w a len z → Calls Try.prog 46 #[.pointer (some ⟨b, 0, none⟩), .int .i64 5] w fun e w' => (∃ r : Nat, r < 5 ∧ e = .returned (.int .i64 (r : Int))) ∧ SrcA w' b a len cap (A + 40 + 1) ∧ OnlyB b w w') := fun w h1 h2 => next_ex 5 (by omega) (by omega) b a len cap (A + 40) z hz (by omega) hl hsep w h1 h2
  have HI : Hid (Try.prog.info? 5 = some i0 ∧ i0.zero = some (.int .u8 0) ∧ i0.size = 1 ∧ i0.bytes = 1) := hi
  have H : Hid (SrcA w b a len cap A) := h
  have HC : Hid (Code8 w a len z) := hc
  have HSEP : Hid (∀ x, 0 < len → a = some x → x.block ≠ b) := hsep
  have hbl : b < w.heap.size := h.lt
  clear h hc hsep hz hi
  go_enter Try.func23, Try.ntmps23
  go_wp2_with fail
  refine (BY.out _ H.out HC.out).mono ?_
  rintro e w1 ⟨⟨m, f, g, c, hm, hf, rfl, hown⟩, hs1, ho1⟩
  have hg : w.heap.size ≤ g := (hown.lt g rfl).1
  have hgl : g < w1.heap.size := (hown.lt g rfl).2
  have L5 : Below w1.heap.size w1 (w1.alloc (.cells #[.int .i64 0, .int .i64 0, .int .i64 16, .int .i64 32, .int .i64 50] 3)) := (Below.refl _ _).alloc (Nat.le_refl _) _
  have HO2 : Hid ((w1.alloc (.cells #[.int .i64 0, .int .i64 0, .int .i64 16, .int .i64 32, .int .i64 50] 3)).ownsRow w.heap.size 5 1 (.slice (some ⟨g, 0, none⟩) m c) m (bv m f)) := ownsRow_below8 hown L5
  have HS2 : Hid (SrcA (w1.alloc (.cells #[.int .i64 0, .int .i64 0, .int .i64 16, .int .i64 32, .int .i64 50] 3)) b a len cap (A + 40)) := hs1.below L5
  have HB2 : Hid (OnlyB b w (w1.alloc (.cells #[.int .i64 0, .int .i64 0, .int .i64 16, .int .i64 32, .int .i64 50] 3))) := ho1.below L5
  have HC2 : Hid (Code8 (w1.alloc (.cells #[.int .i64 0, .int .i64 0, .int .i64 16, .int .i64 32, .int .i64 50] 3)) a len z) := HC.out.onlyB HB2.out HSEP.out
  have HK2 : Hid ((w1.alloc (.cells #[.int .i64 0, .int .i64 0, .int .i64 16, .int .i64 32, .int .i64 50] 3)).heap[w1.heap.size]? = some (.cells #[.int .i64 0, .int .i64 0, .int .i64 16, .int .i64 32, .int .i64 50] 3 (0, 0))) := Deep.blk_alloc_new _ _
  have hs12 : w1.heap.size < (w1.alloc (.cells #[.int .i64 0, .int .i64 0, .int .i64 16, .int .i64 32, .int .i64 50] 3)).heap.size := by simp
  have hbw1 : b < w1.heap.size := Nat.lt_of_lt_of_le hbl ho1.size
  have HF : Hid (∀ i, f i < 256) := hf
  clear hown hs1 ho1 L5 hf BY H
  go_wp2_with fail
  generalize w1.alloc (.cells #[.int .i64 0, .int .i64 0, .int .i64 16, .int .i64 32, .int .i64 50] 3) = w2 at *
  generalize w1.heap.size = lb at *
  refine (NX.out _ HS2.out HC2.out).mono ?_
  rintro e w3 ⟨⟨r, hr, rfl⟩, hs3, ho3⟩
  have HO3 : Hid (w3.ownsRow w.heap.size 5 1 (.slice (some ⟨g, 0, none⟩) m c) m (bv m f)) := ownsRow_onlyB HO2.out ho3 hbl
  have HB3 : Hid (OnlyB b w w3) := HB2.out.trans ho3
  have hK3 : w3.heap[lb]? = some (.cells #[.int .i64 0, .int .i64 0, .int .i64 16, .int .i64 32, .int .i64 50] 3 (0, 0)) := (ho3.block lb hs12 (by omega)).trans HK2.out
  have c0 : w3.cell? ⟨lb, 0, none⟩ = some (.int .i64 0) := by simp [World.cell?, hK3]
  have c1 : w3.cell? ⟨lb, 1, none⟩ = some (.int .i64 0) := by simp [World.cell?, hK3]
  have c2 : w3.cell? ⟨lb, 2, none⟩ = some (.int .i64 16) := by simp [World.cell?, hK3]
  have c3 : w3.cell? ⟨lb, 3, none⟩ = some (.int .i64 32) := by simp [World.cell?, hK3]
  have c4 : w3.cell? ⟨lb, 4, none⟩ = some (.int .i64 50) := by simp [World.cell?, hK3]
  have hw3 := HB3.out.size
  have AZ : Hid (∀ (k : Nat) (ty : TypeId), k ≤ 50 → ∃ v' w', (Builtin.append_ #[22, 3] ty #[.slice (some ⟨g, 0, none⟩) m c, .int .i64 (k : Int)]).run Try.prog w3 = .ok v' w' ∧ w'.ownsRow w.heap.size 5 1 v' (m + k) (bv m f ++ bv k (fun _ => 0)) ∧ w3.grownBy w' (some g) ∧ v' ≠ .slice none 0 0) := fun k ty hk => run_own_zeros w3 w.heap.size 22 3 ty 5 i0 Try.underlying22 Try.underlying3 HI.out.1 HI.out.2.1 HI.out.2.2.1 HI.out.2.2.2 g m c k _ HO3.out (by omega) (by omega) hw3
  have FIN : Hid (∀ (k : Nat) (v' : Value) (w' : World), k ≤ 50 → w'.ownsRow w.heap.size 5 1 v' (m + k) (bv m f ++ bv k (fun _ => 0)) → w3.grownBy w' (some g) → v' ≠ .slice none 0 0 → SomeOwn w.heap.size w' (.returned v') 80 ∧ OnlyB b w w') := fun k v' w' hk ho hgr hnil => by
    rw [bv_append] at ho
    obtain ⟨g2, c2, hg2, rfl, -⟩ := own8_of_own ho hnil
    refine ⟨⟨m + k, _, g2, c2, by omega, fun i => ?_, rfl, ho⟩, ?_⟩
    · show (if i < m then f i else 0) < 256
      split
      · exact HF.out i
      · omega
    · exact HB3.out.belowS ((Below.refl w.heap.size w3).grown hgr hw3 (fun k hk => by cases hk; exact hg)) (Nat.le_refl _)
  clear hs3 ho3 hK3 HO2 HS2 HB2 HC2 HK2 HO3 NX HC
  rcases (show r = 0 ∨ r = 1 ∨ r = 2 ∨ r = 3 ∨ r = 4 by omega) with rfl | rfl | rfl | rfl | rfl
  · obtain ⟨v', w', hrun, ho, hgr, hnil⟩ := AZ.out 0 22 (by omega)
    have R := FIN.out 0 v' w' (by omega) ho hgr hnil
    go_wp2_with (at_builtin; refine Lib.wpList_append_run _ rfl _ _ _ _ rfl _ _ rfl rfl _ _ hrun ?_)
    go_ret
    exact R
  · obtain ⟨v', w', hrun, ho, hgr, hnil⟩ := AZ.out 0 22 (by omega)
    have R := FIN.out 0 v' w' (by omega) ho hgr hnil
    go_wp2_with (at_builtin; refine Lib.wpList_append_run _ rfl _ _ _ _ rfl _ _ rfl rfl _ _ hrun ?_)
    go_ret
    exact R
  · obtain ⟨v', w', hrun, ho, hgr, hnil⟩ := AZ.out 16 22 (by omega)
    have R := FIN.out 16 v' w' (by omega) ho hgr hnil
    go_wp2_with (at_builtin; refine Lib.wpList_append_run _ rfl _ _ _ _ rfl _ _ rfl rfl _ _ hrun ?_)
    go_ret
    exact R
  · obtain ⟨v', w', hrun, ho, hgr, hnil⟩ := AZ.out 32 22 (by omega)
    have R := FIN.out 32 v' w' (by omega) ho hgr hnil
    go_wp2_with (at_builtin; refine Lib.wpList_append_run _ rfl _ _ _ _ rfl _ _ rfl rfl _ _ hrun ?_)
    go_ret
    exact R
  · obtain ⟨v', w', hrun, ho, hgr, hnil⟩ := AZ.out 50 22 (by omega)
    have R := FIN.out 50 v' w' (by omega) ho hgr hnil
    go_wp2_with (at_builtin; refine Lib.wpList_append_run _ rfl _ _ _ _ rfl _ _ rfl rfl _ _ hrun ?_)
    go_ret
    exact R
/-- spec.PlainOf -/
theorem plainOf_ex (a : Option Addr) (len cap : Nat) (z : Nat → Nat) (hz : ∀ i, z i < 256) (hl : len ≤ maxLen) (w : World) (hc : Code8 w a len z) :
    Calls Try.prog 8 #[.slice a len cap] w fun e w' => SomeOwn w.heap.size w' e 80 ∧ Below w.heap.size w w' := by
  have SO : Hid (∀ w : World, Calls Try.prog 21 #[.slice a len cap] w fun e w' => e = .returned (.pointer (some ⟨w.heap.size, 0, none⟩)) ∧ Src w' w.heap.size a len cap 0 (len % 1000) ∧ Below w.heap.size w w') := source_any a len cap hl
  have PL : Hid (∀ (b : Nat) (w : World), (∀ x, 0 < len → a = some x → x.block ≠ b) → SrcA w b a len cap 0 → Code8 w a len z → Calls Try.prog 23 #[.pointer (some ⟨b, 0, none⟩)] w fun e w' => SomeOwn w.heap.size w' e 80 ∧ OnlyB b w w') := fun b w h1 h2 h3 => plain_ex b a len cap 0 z hz (by omega) hl h1 w h2 h3
  have HC : Hid (Code8 w a len z) := hc
  have HSEP : Hid (∀ x, 0 < len → a = some x → x.block < w.heap.size) := hc.lt
  clear hc hz
  go_enter Try.func8, Try.ntmps8
  go_wp2_with fail
  refine (SO.out _).mono ?_
  rintro e w1 ⟨rfl, hs1, hb1⟩
  have HS1 : Hid (SrcA w1 w.heap.size a len cap 0) := ⟨0, _, Nat.le_refl _, by have := Nat.mod_lt len (show 0 < 1000 by omega); omega, hs1⟩
  have HB1 : Hid (Below w.heap.size w w1) := hb1
  have HC1 : Hid (Code8 w1 a len z) := HC.out.below hb1
  clear hs1 hb1
  go_wp2_with fail
  refine (PL.out _ _ (fun x h0 hx => by have := HSEP.out x h0 hx; omega) HS1.out HC1.out).mono ?_
  rintro e w2 ⟨⟨m, f, g, c, hm, hf, rfl, hown⟩, ho2⟩
  have HB2 : Hid (Below w.heap.size w w2) := HB1.out.trans (ho2.toBelow (Nat.le_refl _) HB1.out.size)
  have R : Hid (SomeOwn w.heap.size w2 (.returned (.slice (some ⟨g, 0, none⟩) m c)) 80) := ⟨m, f, g, c, hm, hf, rfl, own_mono hown HB1.out.size⟩
  clear ho2 hown hf hm
  go_wp2
  go_ret
  exact ⟨R.out, HB2.out⟩
end Go.Proofs.Ytbhlgcenfanicaa

/-
  The law FnCmac: a code of a text is that of the model, of 16 bytes, also of nothing.
-/
namespace Go.Proofs.Ytbhlgcenfanicaa
open Go.ChangeShapes Go.WideShapes Go.ChangeAt Go.RowKit
theorem blob_exC (n : Nat) (hn : 1 ≤ n) (hn' : n ≤ 100000) (a : Option Addr) (len cap : Nat) (z : Nat → Nat) (hz : ∀ i, z i < 256) (hl : len ≤ maxLen) (w : World) (hc : Code8 w a len z) :
    Calls Try.prog 7 #[.slice a len cap, .int .i64 (n : Int)] w fun e w' => (∃ s : ByteArray, s.size = n ∧ e = .returned (.string s)) ∧ Below w.heap.size w w' :=
  (blobOf_any n hn hn' a len cap z hz hl w hc).mono fun _ _ hh => ⟨⟨_, kstr_size _ _ _, hh.1⟩, hh.2⟩
set_option maxRecDepth 100000 in
set_option maxHeartbeats 4000000 in
theorem law_fnCmac (a1 a2 : Option Addr) (N1 C1 N2 C2 : Nat) (zs1 zs2 : List Int) (w : World) (h1 : IsRow .u8 w a1 N1 C1 zs1) (h2 : IsRow .u8 w a2 N2 C2 zs2) :
    Calls Try.prog 4 #[.slice a1 N1 C1, .slice a2 N2 C2] w fun e w' => e = .returned (.bool true) ∧ Below w.heap.size w w' := by
  by_cases h0 : N1 ≤ 1048576 ∧ N2 ≤ 1048576
  · obtain ⟨h01, h02⟩ := h0
    have e01 : ¬ (1048576 : Int) < (N1 : Int) := by omega
    have e02 : ¬ (1048576 : Int) < (N2 : Int) := by omega
    obtain ⟨z1, hz1, hc1⟩ := code8_of_row h1
    obtain ⟨z2, hz2, hc2⟩ := code8_of_row h2
    have B1 : Hid (∀ w : World, Code8 w a1 N1 z1 → Calls Try.prog 7 #[.slice a1 N1 C1, .int .i64 16] w fun e w' => (∃ s : ByteArray, s.size = 16 ∧ e = .returned (.string s)) ∧ Below w.heap.size w w') := fun w h => blob_exC 16 (by omega) (by omega) a1 N1 C1 z1 hz1 (IsRow.lenLe h1) w h
    have PO : Hid (∀ w : World, Code8 w a2 N2 z2 → Calls Try.prog 8 #[.slice a2 N2 C2] w fun e w' => SomeOwn w.heap.size w' e 80 ∧ Below w.heap.size w w') := fun w h => plainOf_ex a2 N2 C2 z2 hz2 (IsRow.lenLe h2) w h
    have Z1 : Hid (Code8 w a1 N1 z1) := hc1
    have Z2 : Hid (Code8 w a2 N2 z2) := hc2
    clear h1 h2 hc1 hc2 hz1 hz2
    go_enter Try.func4, Try.ntmps4
    go_wp2_with fail
    refine (B1.out _ Z1.out).mono ?_
    rintro e w1 ⟨⟨key, hkey, rfl⟩, hb1⟩
    have HB1 : Hid (Below w.heap.size w w1) := hb1
    have Z21 : Hid (Code8 w1 a2 N2 z2) := Z2.out.below hb1
    clear hb1 Z1 Z2 B1
    go_wp2_with fail
    refine (PO.out _ Z21.out).mono ?_
    rintro e w4 ⟨⟨m, f, g, c, hm, hf, rfl, hown⟩, hb4⟩
    obtain ⟨g', c', ⟨hg, hmc⟩, e', ho⟩ := own8_of_own hown (by intro e; cases e)
    cases e'
    have HB4 : Hid (Below w.heap.size w w4) := HB1.out.trans (hb4.mono HB1.out.size)
    have HO4 : Hid (Own8 w4 g m f) := ho
    clear hown ho hb4 HB1 Z21 PO
    have IM : Hid (∀ (n : Nat) (w : World), n ≤ m → Code8 w (some ⟨g, 0, none⟩) n f → ∃ t : ByteArray, t.size = 16 ∧ (Calls Try.prog 14 #[.string key, .slice (some ⟨g, 0, none⟩) n c] w fun e w' => e = .returned (.tuple #[.string t, .int .i64 0]) ∧ Below w.heap.size w w') ∧ ∀ w' : World, Code8 w' (some ⟨g, 0, none⟩) n f → Calls Try.prog 15 #[.string key, .slice (some ⟨g, 0, none⟩) n c] w' fun e w'' => e = .returned (.tuple #[.string t, .int .i64 0]) ∧ Below w'.heap.size w' w'') := fun n w hn hw =>
      ⟨_, kstr_size _ _ _, implCm_yes key 4 g 0 n c f (.inl rfl) hkey (by omega) (by omega) hf w hw, fun w' hw' => specCm_yes key 4 g 0 n c f (.inl rfl) hkey (by omega) (by omega) hf w' hw'⟩
    clear hf hkey
    go_wp2_with fail
    go_loopw [7] (fun i wr => ∃ k : Nat, k ≤ 3 ∧ i = .int .i64 (k : Int) ∧ Own8 wr g m f ∧ Below w.heap.size w wr) (fun i _ => 3 - (intOf i).toNat)
    case atStart => exact ⟨0, by omega, rfl, HO4.out, HB4.out⟩
    case round =>
      clear HO4 HB4
      obtain ⟨k, hk, rfl, ho, hb⟩ := hrel
      have HO : Hid (Own8 wr g m f) := ho
      have HB : Hid (Below w.heap.size w wr) := hb
      clear ho hb
      by_cases hlt : k < 3
      · have hlt' : (k : Int) < 3 := by omega
        obtain ⟨n, hn⟩ : ∃ n, n = m * k / 2 := ⟨_, rfl⟩
        have hnm : n ≤ m := by
          rw [hn]
          have : m * k ≤ m * 2 := Nat.mul_le_mul_left m (by omega)
          omega
        have hmk : m * k ≤ 160 := Nat.le_trans (Nat.mul_le_mul_left m (show k ≤ 2 by omega)) (by omega)
        obtain ⟨mk, hmk2⟩ : ∃ mk, mk = m * k := ⟨_, rfl⟩
        have emk : (m : Int) * (k : Int) = (mk : Int) := by rw [hmk2]; exact (Int.natCast_mul m k).symm
        rw [← hmk2] at hn hmk
        have emd : (mk : Int) / 2 = (n : Int) := by omega
        have emt : (mk : Int).tdiv 2 = (n : Int) := by rw [Int.tdiv_eq_ediv_of_nonneg (by omega)]; omega
        have x0 : (0 : Int) ≤ (n : Int) := by omega
        have x1 : (n : Int) ≤ (c : Int) := by omega
        obtain ⟨t, ht, hI, hS⟩ := IM.out n wr hnm (HO.out.code.part hnm)
        have hI2 : Hid (Calls Try.prog 14 #[.string key, .slice (some ⟨g, 0, none⟩) n c] wr fun e w' => e = .returned (.tuple #[.string t, .int .i64 0]) ∧ Below wr.heap.size wr w') := hI
        have hS2 : Hid (∀ w' : World, Code8 w' (some ⟨g, 0, none⟩) n f → Calls Try.prog 15 #[.string key, .slice (some ⟨g, 0, none⟩) n c] w' fun e w'' => e = .returned (.tuple #[.string t, .int .i64 0]) ∧ Below w'.heap.size w' w'') := hS
        have ets : ((t.size : Int) != 16) = false := by rw [ht]; rfl
        clear hI hS hn hmk2 ht IM
        go_wp2_with fail
        refine hI2.out.mono ?_
        rintro e w5 ⟨rfl, hb5⟩
        have HO5 : Hid (Own8 w5 g m f) := HO.out.below hb5
        have HB5 : Hid (Below w.heap.size w w5) := HB.out.trans (hb5.mono HB.out.size)
        clear hb5 HO HB hI2
        go_wp2_with fail
        refine (hS2.out _ (HO5.out.code.part hnm)).mono ?_
        rintro e w6 ⟨rfl, hb6⟩
        have HO6 : Hid (Own8 w6 g m f) := HO5.out.below hb6
        have HB6 : Hid (Below w.heap.size w w6) := HB5.out.trans (hb6.mono HB5.out.size)
        clear hb6 HO5 HB5 hS2
        go_wp2
        go_roundw
        case rel => exact ⟨k + 1, by omega, by go_num, HO6.out, HB6.out⟩
        case measure => simp [intOf]; omega
      · have hlt' : ¬ (k : Int) < 3 := by omega
        go_wp2
        go_ret
        exact ⟨rfl, HB.out⟩
  · by_cases h3 : N1 ≤ 1048576
    · have e1 : ¬ (1048576 : Int) < (N1 : Int) := by omega
      have e2 : (1048576 : Int) < (N2 : Int) := by omega
      clear h0
      go_enter Try.func4, Try.ntmps4
      go_wp2
      go_ret
      exact ⟨rfl, Below.refl _ _⟩
    · have e1 : (1048576 : Int) < (N1 : Int) := by omega
      clear h0
      go_enter Try.func4, Try.ntmps4
      go_wp2
      go_ret
      exact ⟨rfl, Below.refl _ _⟩
end Go.Proofs.Ytbhlgcenfanicaa
