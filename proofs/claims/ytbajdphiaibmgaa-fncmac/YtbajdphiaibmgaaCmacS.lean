/-
  The model's Cmac: l02Cmac.
-/
import Derived.Test.YtbajdphiaibmgaaTwice
import Derived.Test.YtbajdphiaibmgaaCmac
import Derived.Test.YtbajdphiaibmgaaCbcS2
import Derived.Test.YtbajdphiaibmgaaZeros
namespace Go.Proofs.Ytbajdphiaibmgaa
open Go.ChangeShapes Go.WideShapes Go.ChangeAt Go.RowKit
theorem mk16 (w : World) : ∃ w', (Instr.makeSlice 22 (.int .i64 16) (.int .i64 16)).run Try.prog w = .ok (.slice (some ⟨w.heap.size, 0, none⟩) 16 16) w' ∧ (convert 22 9 (.slice (some ⟨w.heap.size, 0, none⟩) 16 16)).run Try.prog w' = .ok (.string (kstr (fun _ => 0) 0 16)) w' ∧ Below w.heap.size w w' := by
  obtain ⟨i0, hi, hz, hs, hb⟩ := info_parts Try.info8
  have hr := run_make (P := Try.prog) w 22 5 i0 (.int .u8 0) Try.underlying22 hi hz .i64 .i64 16 16 (by omega) (by omega) (by rw [hb]; omega) (by omega)
  rw [hs, show madeCells (Value.cells (.int .u8 0)) ((16 : Int).toNat * 1) = z16 from by kernel_rfl] at hr
  exact ⟨_, hr, kstr_of_code (code8_of (fun j hj => by rw [Nat.zero_add]; exact World.rowIs.cell (Row8.z16At (w := w) rfl 5) hj)), (Below.refl _ _).alloc (Nat.le_refl _) _⟩
/-- The tag out of the last block and its mask. -/
theorem cm_tag {W f R M : Nat → Nat} {m n : Nat} {T S3 S4 : ByteArray} (hT : Gf.Same (strB T) (cbcB W m (fun _ => 0) f (cmQ n))) (hR : ∀ j, j < 16 → R j = lastS n f j) (hM : ∀ j, j < 16 → M j = maskB W m n j) (lR : ∀ j, j < 16 → R j < 256) (lM : ∀ j, j < 16 → M j < 256)
    (h3 : S3 = kstr (fun j => strB T j ^^^ R j) 0 16) (h4 : S4 = kstr (fun j => strB S3 j ^^^ M j) 0 16) : kstr (Gf.enc W m (strB S4)) 0 16 = kstr (cmacB W m n f) 0 16 := by
  refine kstr_same (Gf.same_enc (fun j hj => ?_))
  have e3 : strB S3 j = strB T j ^^^ R j := by
    rw [h3, strB_kstr _ 0 16 j (by rw [Nat.zero_add]; exact Gf.xor_lt (strB_lt T j) (lR j hj)) hj, Nat.zero_add]
  rw [h4, strB_kstr _ 0 16 j (by rw [Nat.zero_add]; exact Gf.xor_lt (strB_lt S3 j) (lM j hj)) hj, Nat.zero_add, e3, hT j hj, hR j hj, hM j hj, Nat.xor_assoc]
set_option maxRecDepth 100000 in
set_option maxHeartbeats 4000000 in
/-- spec.l02Cmac -/
theorem l02Cmac_any (k : ByteArray) (kn b o n c : Nat) (f : Nat → Nat) (hkn : kn = 4 ∨ kn = 8) (hk : k.size = kn * 4) (hn : n ≤ 65536) (hnc : n ≤ c) (hf : ∀ i, f i < 256) (w : World) (h : Code8 w (some ⟨b, o, none⟩) n f) :
    Calls Try.prog 22 #[.string k, .slice (some ⟨b, o, none⟩) n c] w fun e w' => e = .returned (.string (kstr (cmacB (Gf.ws (strB k) kn (3 * kn + 28)) (kn + 6) n f) 0 16)) ∧ Below w.heap.size w w' := by
  obtain ⟨i0, hi⟩ := info_parts Try.info8
  have HI : Hid (Try.prog.info? 5 = some i0 ∧ i0.zero = some (.int .u8 0) ∧ i0.size = 1 ∧ i0.bytes = 1) := hi
  have TA : Hid (∀ w : World, Calls Try.prog 32 #[] w fun e w' => (∃ b, w.heap.size ≤ b ∧ e = .returned (.slice (some ⟨b, 0, none⟩) 256 256) ∧ w'.rowIs b 3 256 (fun j => .int .i64 (Gf.sub j : Nat))) ∧ Below w.heap.size w w') := table_any
  have KE : Hid (∀ (tb : Nat) (w : World), w.rowIs tb 3 256 (fun j => .int .i64 (Gf.sub j : Nat)) → Calls Try.prog 33 #[.string k, .slice (some ⟨tb, 0, none⟩) 256 256] w fun e w' => (∃ pb po ck, e = .returned (.slice (some ⟨pb, po, none⟩) (kn + 6 + 1) ck) ∧ MK w' pb po tb (kn + 6) (Gf.ws (strB k) kn (3 * kn + 28))) ∧ Below w.heap.size w w') := fun tb w h => mKeys k kn hkn hk tb w h
  have LW : Hid (∀ j, Gf.ws (strB k) kn (3 * kn + 28) j < 256) := Gf.ws_lt (strB_lt k) _
  generalize Gf.ws (strB k) kn (3 * kn + 28) = W at *
  obtain ⟨m, hm⟩ : ∃ m, m = kn + 6 := ⟨_, rfl⟩
  have hm1 : 1 ≤ m := by omega
  have hm2 : m ≤ 14 := by omega
  rw [← hm] at KE ⊢
  have HC : Hid (Code8 w (some ⟨b, o, none⟩) n f) := h
  have LF : Hid (∀ j, f j < 256) := hf
  have LB : Hid (∀ i j, cbcB W m (fun _ => 0) f i j < 256) := fun i j => cbcB_lt LW.out (fun _ => by show (0 : Nat) < 256; omega) hf i j
  obtain ⟨E0, hE0⟩ : ∃ E : Nat → Nat, E = Gf.enc W m (fun _ => 0) := ⟨_, rfl⟩
  have lE : ∀ j, j < 16 → E0 j < 256 := fun j _ => by rw [hE0]; exact Gf.enc_lt LW.out (fun _ _ => by show (0 : Nat) < 256; omega) j
  obtain ⟨D, hD⟩ : ∃ D : Nat → Nat, D = dblB E0 := ⟨_, rfl⟩
  have lD : ∀ j, j < 16 → D j < 256 := fun j hj => by rw [hD]; exact dblB_lt lE j hj
  obtain ⟨SD, hSD⟩ : ∃ S, S = kstr D 0 16 := ⟨_, rfl⟩
  obtain ⟨SE, hSE⟩ : ∃ S, S = kstr E0 0 16 := ⟨_, rfl⟩
  have TW : Hid (∀ w : World, Calls Try.prog 34 #[.string SE] w fun e w' => e = .returned (.string SD) ∧ Below w.heap.size w w') := fun w => by
    have := l02Twice_any SE (by rw [hSE, kstr_size]) w
    rw [hSD, hD]
    rwa [kstr_same (same_dblB (by rw [hSE]; exact same_strB (fun j hj => lE j hj)))] at this
  obtain ⟨SZ, hSZ⟩ : ∃ S, S = kstr (fun _ => 0) 0 16 := ⟨_, rfl⟩
  have EZ : Hid (∀ (pb po ck tb : Nat) (w : World), MK w pb po tb m W → Calls Try.prog 35 #[.slice (some ⟨pb, po, none⟩) (m + 1) ck, .slice (some ⟨tb, 0, none⟩) 256 256, .string SZ] w fun e w' => e = .returned (.string SE) ∧ Below w.heap.size w w') := fun pb po ck tb w h =>
    (mEnc pb po ck tb m W LW.out hm1 hm2 SZ (by rw [hSZ, kstr_size]) w h).mono fun e w' hh => ⟨by
      rw [hh.1, hSE, hE0]
      refine congrArg (fun x => Ending.returned (.string x)) (kstr_same (Gf.same_enc ?_))
      rw [hSZ]
      exact same_strB (fun _ _ => by show (0 : Nat) < 256; omega), hh.2⟩
  have HZS : Hid (SZ.size = 16) := by show SZ.size = 16; rw [hSZ, kstr_size]
  have HZB : Hid (Gf.Same (strB SZ) (cbcB W m (fun _ => 0) f 0)) := by
    show Gf.Same (strB SZ) (fun _ => 0)
    rw [hSZ]; exact same_strB (fun _ _ => by show (0 : Nat) < 256; omega)
  have HSZ : Hid (SZ = kstr (fun _ => 0) 0 16) := hSZ
  have HSD : Hid (SD = kstr D 0 16) := hSD
  have HDD : Hid (D = dblB (Gf.enc W m (fun _ => 0))) := by show D = _; rw [hD, hE0]
  have HLD : Hid (∀ j, j < 16 → D j < 256) := lD
  have HQ0 : Hid ((n + 15) / 16 = cmQ n + 1 ∨ (n = 0 ∧ cmQ n = 0)) := by
    show (n + 15) / 16 = cmQ n + 1 ∨ (n = 0 ∧ cmQ n = 0)
    unfold cmQ; omega
  clear h hf hkn hk hm hi hSZ hSD hSE hD hE0 lD lE
  go_enter Try.func22, Try.ntmps22
  go_wp2_with fail
  refine (TA.out _).mono ?_
  rintro e w1 ⟨⟨tb, htb, rfl, hrow⟩, hB1⟩
  have HR : Hid (w1.rowIs tb 3 256 (fun j => .int .i64 (Gf.sub j : Nat))) := hrow
  have HB1 : Hid (Below w.heap.size w w1) := hB1
  clear hrow hB1
  go_wp2_with fail
  refine (KE.out tb w1 HR.out).mono ?_
  rintro e w2 ⟨⟨pb, po, ck, rfl, hmk⟩, hB2⟩
  have HM : Hid (MK w2 pb po tb m W) := hmk
  have HB2 : Hid (Below w.heap.size w w2) := HB1.out.trans (hB2.mono HB1.out.size)
  clear hmk hB2 HR HB1 TA KE
  obtain ⟨wa, hma, hca, hba⟩ := mk16 w2
  rw [← HSZ.out] at hca
  have HMa : Hid (MK wa pb po tb m W) := HM.out.below hba
  have HBa : Hid (Below w.heap.size w wa) := HB2.out.trans (hba.mono HB2.out.size)
  clear HM HB2 hba
  go_wp2_with fail
  refine (EZ.out _ _ _ _ _ HMa.out).mono ?_
  rintro e w3 ⟨rfl, hb3⟩
  have HM3 : Hid (MK w3 pb po tb m W) := HMa.out.below hb3
  have HB3 : Hid (Below w.heap.size w w3) := HBa.out.trans (hb3.mono HBa.out.size)
  clear HMa HBa hb3 EZ hma hca
  go_wp2_with fail
  refine (TW.out _).mono ?_
  rintro e w4 ⟨rfl, hb4⟩
  obtain ⟨w5, hm5, hc5, hb5⟩ := mk16 w4
  rw [← HSZ.out] at hc5
  have HM5 : Hid (MK w5 pb po tb m W) := (HM3.out.below hb4).below hb5
  have HB5 : Hid (Below w.heap.size w w5) := (HB3.out.trans (hb4.mono HB3.out.size)).trans (hb5.mono (HB3.out.trans (hb4.mono HB3.out.size)).size)
  clear HM3 HB3 hb4 hb5 TW
  go_upto_region 5 with fail
  clear hm5 hc5
  obtain ⟨q, hq⟩ : ∃ q, q = cmQ n := ⟨_, rfl⟩
  have HQ : Hid (q = cmQ n) := hq
  obtain ⟨d, hd⟩ : ∃ d, d = (n + 15) / 16 := ⟨_, rfl⟩
  have d1 : IntKind.i64.wrap ((n : Int) + 15) = (n : Int) + 15 := IntWalk.i64_in _ ⟨by omega, by omega⟩
  have d2 : ((n : Int) + 15) / 16 = (d : Int) := by omega
  have d3 : ((n : Int) + 15).tdiv 16 = (d : Int) := by rw [Int.tdiv_eq_ediv_of_nonneg (by omega)]; exact d2
  have d4 : (if (1 : Int) < (d : Int) then (d : Int) else 1) = (q : Int) + 1 := by
    have := HQ0.out
    split <;> omega
  have d5 : IntKind.i64.wrap (d : Int) = (d : Int) := IntWalk.i64_in _ ⟨by omega, by omega⟩
  clear hq hd
  go_upto_region 6 with fail
  have hqn : 16 * q ≤ n := by have := HQ.out; unfold cmQ at this; omega
  have hqm : n ≤ 16 * q + 16 := by have := HQ.out; unfold cmQ at this; omega
  have HQN : Hid (∀ r, r < q → 16 * r + 16 < n) := fun r hr => by have := HQ.out; unfold cmQ at this; omega
  clear d1 d2 d3 d4 d5 HQ0
  go_wp2_with fail
  go_loopw [8, 10] (fun l i wr => ∃ (r : Nat) (T : ByteArray), r ≤ q ∧ i = .int .i64 (r : Int) ∧ l = .string T ∧ T.size = 16 ∧ Gf.Same (strB T) (cbcB W m (fun _ => 0) f r) ∧ MK wr pb po tb m W ∧ Below w.heap.size w wr) (fun _ i _ => q - (intOf i).toNat)
  case atStart => exact ⟨0, SZ, by omega, rfl, rfl, HZS.out, HZB.out, HM5.out, HB5.out⟩
  case round =>
    clear HM5 HB5 HZS HZB
    obtain ⟨r, T, hr, rfl, rfl, hT, hTS, hmk, hb⟩ := hrel
    have HM : Hid (MK wr pb po tb m W) := hmk
    have HB : Hid (Below w.heap.size w wr) := hb
    clear hmk hb
    by_cases hlt : r < q
    · have hrn := HQN.out r hlt
      have hbw : b < w.heap.size := HC.out.lt _ (by omega) rfl
      have g1 : (r : Int) < (q : Int) := by omega
      have g0 : (0 : Int) ≤ 16 * (r : Int) := by omega
      have g2 : 16 * (r : Int) + 16 ≤ (c : Int) := by omega
      have g3 : 16 * (r : Int) ≤ 16 * (r : Int) + 16 := by omega
      have g4 : (16 * (r : Int)).toNat = 16 * r := by omega
      have g5 : (16 * (r : Int) + 16).toNat = 16 * r + 16 := by omega
      have g6 : ¬ c = 16 * r := by omega
      have g7 : 16 * r + 16 - 16 * r = 16 := by omega
      obtain ⟨S2, hS2⟩ : ∃ S2, S2 = kstr (fun j => strB T j ^^^ f (16 * r + j)) 0 16 := ⟨_, rfl⟩
      have HCd : Hid (Code8 wr (some ⟨b, o + 16 * r, none⟩) 16 (fun j => f (16 * r + j))) := code8_of (fun j hj => by
        rw [HB.out.cell (p := ⟨b, o + 16 * r + j, none⟩) hbw, Nat.add_assoc]
        exact HC.out.at (by omega))
      have BO : Hid (∀ w : World, Code8 w (some ⟨b, o + 16 * r, none⟩) 16 (fun j => f (16 * r + j)) → Calls Try.prog 36 #[.string T, .slice (some ⟨b, o + 16 * r, none⟩) 16 (c - 16 * r)] w fun e w' => e = .returned (.string S2) ∧ Below w.heap.size w w') := fun w h => by
        rw [hS2]
        exact l02Both_any T hT b (o + 16 * r) (c - 16 * r) (fun j => f (16 * r + j)) (fun j _ => LF.out _) w h
      have EN : Hid (∀ w : World, MK w pb po tb m W → Calls Try.prog 35 #[.slice (some ⟨pb, po, none⟩) (m + 1) ck, .slice (some ⟨tb, 0, none⟩) 256 256, .string S2] w fun e w' => e = .returned (.string (kstr (cbcB W m (fun _ => 0) f (r + 1)) 0 16)) ∧ Below w.heap.size w w') := fun w h =>
        (mEnc pb po ck tb m W LW.out hm1 hm2 S2 (by rw [hS2, kstr_size]) w h).mono fun e w' hh => ⟨by
          rw [hh.1]
          refine congrArg (fun x => Ending.returned (.string x)) (kstr_same (Gf.same_enc (fun j hj => ?_)))
          rw [hS2, strB_kstr _ 0 16 j (by rw [Nat.zero_add]; exact Gf.xor_lt (strB_lt T j) (LF.out _)) hj, Nat.zero_add, hTS j hj], hh.2⟩
      have HS16 : Hid ((kstr (cbcB W m (fun _ => 0) f (r + 1)) 0 16).size = 16) := kstr_size _ _ _
      have HTS : Hid (Gf.Same (strB (kstr (cbcB W m (fun _ => 0) f (r + 1)) 0 16)) (cbcB W m (fun _ => 0) f (r + 1))) := same_strB (fun j _ => LB.out _ _)
      generalize kstr (cbcB W m (fun _ => 0) f (r + 1)) 0 16 = E1 at *
      clear hS2 hT hTS
      go_wp2_with fail
      refine (BO.out _ HCd.out).mono ?_
      rintro e w6 ⟨rfl, hb6⟩
      have HM6 : Hid (MK w6 pb po tb m W) := HM.out.below hb6
      have HB6 : Hid (Below w.heap.size w w6) := HB.out.trans (hb6.mono HB.out.size)
      clear hb6 HM HB BO HCd
      go_wp2_with fail
      refine (EN.out _ HM6.out).mono ?_
      rintro e w7 ⟨rfl, hb7⟩
      have HM7 : Hid (MK w7 pb po tb m W) := HM6.out.below hb7
      have HB7 : Hid (Below w.heap.size w w7) := HB6.out.trans (hb7.mono HB6.out.size)
      clear hb7 HM6 HB6 EN
      go_wp2_with fail
      go_roundw
      case rel => exact ⟨r + 1, E1, by omega, by go_num, rfl, HS16.out, HTS.out, HM7.out, HB7.out⟩
      case measure => simp [intOf]; omega
    · obtain rfl : r = q := by omega
      have HLast : Hid (∀ wq : World, Below w.heap.size w wq → Code8 wq (some ⟨b, o + 16 * r, none⟩) (n - 16 * r) (fun j => f (16 * r + j))) := fun wq hq => code8_of (fun j hj => by
        have hbw : b < w.heap.size := HC.out.lt _ (by omega) rfl
        rw [hq.cell (p := ⟨b, o + 16 * r + j, none⟩) hbw, Nat.add_assoc]
        exact HC.out.at (by omega))
      obtain ⟨L, hL⟩ : ∃ L, L = n - 16 * r := ⟨_, rfl⟩
      rw [← hL] at HLast
      have hL16 : L ≤ 16 := by omega
      have HL : Hid (L = n - 16 * r) := hL
      have g1 : ¬ (r : Int) < (r : Int) := by omega
      have g0 : (0 : Int) ≤ 16 * (r : Int) := by omega
      have g2 : 16 * (r : Int) ≤ (n : Int) := by omega
      have g4 : (16 * (r : Int)).toNat = 16 * r := by omega
      have eL : n - 16 * r = L := hL.symm
      have HO8 : Hid ((wr.alloc (.cells #[] 5)).ownsRow wr.heap.size 5 1 (.slice (some ⟨wr.heap.size, 0, none⟩) 0 0) 0 []) := World.ownsRow_made wr #[] 0 (Nat.le_refl _) (Nat.zero_le _) (by simp)
      have HM8 : Hid (MK (wr.alloc (.cells #[] 5)) pb po tb m W) := HM.out.alloc _
      have HB8 : Hid (Below w.heap.size w (wr.alloc (.cells #[] 5))) := HB.out.alloc HB.out.size _
      have hw8 : wr.heap.size ≤ (wr.alloc (.cells #[] 5)).heap.size := by simp
      have hpt := HM.out.lt
      have hwr := HB.out.size
      have HTT : Hid (Gf.Same (strB T) (cbcB W m (fun _ => 0) f (cmQ n))) := by show Gf.Same _ _; rw [← HQ.out]; exact hTS
      have HT16 : Hid (T.size = 16) := hT
      clear HM HB hL hTS hT
      by_cases hc0 : c = 16 * r
      · have hr0 : r = 0 := by have h9 := HQ.out; unfold cmQ at h9; omega
        have HL0 : Hid (L = 0) := by show L = 0; omega
        clear hr0
        go_wp2_with (at_builtin; refine wpList_append_own _ rfl _ _ 22 rfl wr.heap.size 5 i0 (.int .u8 0) 1 1 Try.underlying22 HI.out.1 HI.out.2.1 HI.out.2.2.1 HI.out.2.2.2 rfl (by decide) _ _ _ rfl HO8.out _ L _ (bv L (fun j => f (16 * r + j))) rfl (by rw [bv_length, Nat.mul_one]) (fun j u hj => by rw [HL0.out] at hj; simp [bv] at hj) (bv_one _ _) (by unfold maxLen; omega) (by omega) hw8 ?_)
        intro v9 w9 hown hgrow hnil
        have BG := grown_below HO8.out hgrow hw8
        have HM9 : Hid (MK w9 pb po tb m W) := HM8.out.belowAt BG hpt.1 hpt.2
        have HB9 : Hid (Below w.heap.size w w9) := HB8.out.trans (BG.mono hwr)
        have hw9 := Nat.le_trans hw8 BG.size
        obtain ⟨g9, c9, ⟨hg9, hc9⟩, rfl, ho9⟩ := own8_of_own (n := L) hown hnil
        have HO9 : Hid (w9.ownsRow wr.heap.size 5 1 (.slice (some ⟨g9, 0, none⟩) L c9) L (bv L (fun j => f (16 * r + j)))) := hown
        clear hown hgrow hnil BG HO8 HM8 HB8
        have hl16 : L < 16 := by omega
        obtain ⟨FX, hFX⟩ : ∃ F : Nat → Nat, F = fillB L (fun j => f (16 * r + j)) := ⟨_, rfl⟩
        have lFX : ∀ j, FX j < 256 := fun j => by rw [hFX]; exact fillB_lt (fun i => LF.out _) j
        have HFX : Hid (∀ j, FX j < 256) := lFX
        have eF : FX L = 128 := by rw [hFX]; unfold fillB; rw [if_neg (by omega), if_pos rfl]
        have HFZ : Hid (∀ j, L < j → FX j = 0) := fun j hj => by rw [hFX]; unfold fillB; rw [if_neg (by omega), if_neg (by omega)]
        have HSN : Hid (bv L FX ++ [.int .u8 128] = bv (L + 1) FX) := by
          have := bv_snoc L FX
          rw [eF] at this
          exact this
        have HOF : Hid (w9.ownsRow wr.heap.size 5 1 (.slice (some ⟨g9, 0, none⟩) L c9) L (bv L FX)) := by
          show w9.ownsRow _ _ _ _ _ _
          rw [show bv L FX = bv L (fun j => f (16 * r + j)) from bv_congr (fun i hi => by rw [hFX]; unfold fillB; rw [if_pos hi])]
          exact HO9.out
        obtain ⟨S2, hS2⟩ : ∃ S, S = kstr (dblB D) 0 16 := ⟨_, rfl⟩
        obtain ⟨S3, hS3⟩ : ∃ S, S = kstr (fun j => strB T j ^^^ FX j) 0 16 := ⟨_, rfl⟩
        obtain ⟨S4, hS4⟩ : ∃ S, S = kstr (fun j => strB S3 j ^^^ dblB D j) 0 16 := ⟨_, rfl⟩
        have lDD : ∀ j, j < 16 → dblB D j < 256 := fun j hj => dblB_lt HLD.out j hj
        have TAGE : Hid (kstr (Gf.enc W m (strB S4)) 0 16 = kstr (cmacB W m n f) 0 16) := cm_tag HTT.out (fun j hj => by
            have h9 := HL.out
            rw [hFX]
            unfold lastS fillB
            rw [← HQ.out]
            by_cases h1 : j < L
            · rw [if_pos h1, if_pos (show 16 * r + j < n by omega)]
            · rw [if_neg h1, if_neg (show ¬ 16 * r + j < n by omega)]
              by_cases h2 : j = L
              · rw [if_pos h2, if_pos (show 16 * r + j = n by omega)]
              · rw [if_neg h2, if_neg (show ¬ 16 * r + j = n by omega)]) (fun j hj => by
            unfold maskB
            rw [← HQ.out, if_pos (by omega), HDD.out]) (fun j _ => lFX j) lDD hS3 hS4
        have TW2 : Hid (∀ w : World, Calls Try.prog 34 #[.string SD] w fun e w' => e = .returned (.string S2) ∧ Below w.heap.size w w') := fun w => by
          have := l02Twice_any SD (by rw [HSD.out, kstr_size]) w
          rw [hS2]
          rwa [kstr_same (same_dblB (by rw [HSD.out]; exact same_strB HLD.out))] at this
        have BO : Hid (∀ (g cc : Nat) (w : World), Code8 w (some ⟨g, 0, none⟩) 16 FX → Calls Try.prog 36 #[.string T, .slice (some ⟨g, 0, none⟩) 16 cc] w fun e w' => e = .returned (.string S3) ∧ Below w.heap.size w w') := fun g cc w h => by
          rw [hS3]; exact l02Both_any T HT16.out g 0 cc FX (fun j _ => lFX j) w h
        have BO2 : Hid (∀ (gz gc : Nat) (w : World), Code8 w (some ⟨gz, 0, none⟩) 16 (dblB D) → Calls Try.prog 36 #[.string S3, .slice (some ⟨gz, 0, none⟩) 16 gc] w fun e w' => e = .returned (.string S4) ∧ Below w.heap.size w w') := fun gz gc w h => by
          rw [hS4]; exact l02Both_any S3 (by rw [hS3, kstr_size]) gz 0 gc (dblB D) lDD w h
        have EN : Hid (∀ w : World, MK w pb po tb m W → Calls Try.prog 35 #[.slice (some ⟨pb, po, none⟩) (m + 1) ck, .slice (some ⟨tb, 0, none⟩) 256 256, .string S4] w fun e w' => e = .returned (.string (kstr (cmacB W m n f) 0 16)) ∧ Below w.heap.size w w') := fun w h =>
          (mEnc pb po ck tb m W LW.out hm1 hm2 S4 (by rw [hS4, kstr_size]) w h).mono fun e w' hh => ⟨by rw [hh.1, TAGE.out], hh.2⟩
        have HS2 : Hid (S2 = kstr (dblB D) 0 16) := hS2
        have HLDD : Hid (∀ j, j < 16 → dblB D j < 256) := lDD
        have z16 : (L : Int) < 16 := by omega
        clear HO9 ho9 hS2 hS3 hS4 TAGE HTT HT16 HLast eL hFX lFX eF lDD
        go_wp2_with fail
        refine (TW2.out _).mono ?_
        rintro e w10 ⟨rfl, hb10⟩
        have HO10 : Hid (w10.ownsRow wr.heap.size 5 1 (.slice (some ⟨g9, 0, none⟩) L c9) L (bv L FX)) := ownsRow_below8 HOF.out hb10
        have HM10 : Hid (MK w10 pb po tb m W) := HM9.out.below hb10
        have HB10 : Hid (Below w.heap.size w w10) := HB9.out.trans (hb10.mono HB9.out.size)
        have hw10 := Nat.le_trans hw9 hb10.size
        clear hb10 TW2 HM9 HB9 HOF
        go_wp2_with (at_builtin; refine wpList_append_own _ rfl _ _ 22 rfl wr.heap.size 5 i0 (.int .u8 0) 1 1 Try.underlying22 HI.out.1 HI.out.2.1 HI.out.2.2.1 HI.out.2.2.2 rfl (by decide) _ _ _ rfl (HO10.out.alloc _) ⟨w10.heap.size, 0, none⟩ 1 1 [.int .u8 128] rfl rfl (one_new8 _ _ _) (one_one8 _) (by unfold maxLen; omega) (by omega) (by simp; omega) ?_)
        intro v11 w11 hown11 hgrow11 hnil11
        rw [HSN.out] at hown11
        have BG := grown_below (HO10.out.alloc _) hgrow11 (by simp; omega)
        have HM11 : Hid (MK w11 pb po tb m W) := (HM10.out.alloc _).belowAt BG hpt.1 hpt.2
        have HB11 : Hid (Below w.heap.size w w11) := (HB10.out.alloc HB10.out.size _).trans (BG.mono hwr)
        have hw11 : wr.heap.size ≤ w11.heap.size := Nat.le_trans (by simp; omega) BG.size
        obtain ⟨g11, c11, ⟨hg11, hc11⟩, rfl, -⟩ := own8_of_own (n := L + 1) hown11 hnil11
        obtain ⟨v12, w12, hrun, ho12, hgr12, hnil12⟩ := run_own_zeros w11 wr.heap.size 22 3 22 5 i0 Try.underlying22 Try.underlying3 HI.out.1 HI.out.2.1 HI.out.2.2.1 HI.out.2.2.2 g11 (L + 1) c11 (15 - L) _ hown11 (by omega) (by omega) hw11
        have BG2 : Below wr.heap.size w11 w12 := (Below.refl _ w11).grown hgr12 hw11 (fun k hk => by cases hk; exact hg11)
        rw [bv_append, show L + 1 + (15 - L) = 16 by omega] at ho12
        obtain ⟨g12, c12, -, rfl, hO12⟩ := own8_of_own (n := 16) ho12 hnil12
        have HC12 : Hid (Code8 w12 (some ⟨g12, 0, none⟩) 16 FX) := code8_of (fun j hj => by
          rw [Nat.zero_add, hO12.cell hj]
          by_cases e : j < L + 1
          · rw [if_pos e]
          · rw [if_neg e, HFZ.out j (by omega)])
        have HM12 : Hid (MK w12 pb po tb m W) := HM11.out.belowAt BG2 hpt.1 hpt.2
        have HB12 : Hid (Below w.heap.size w w12) := HB11.out.trans (BG2.mono hwr)
        have zk : (16 : Int) - ((L : Int) + 1) = ((15 - L : Nat) : Int) := by omega
        clear hown11 hgrow11 hnil11 BG BG2 ho12 hgr12 hnil12 hO12 HM10 HB10 HM11 HB11 HO10
        go_wp2_with (at_builtin; refine Lib.wpList_append_run _ rfl _ _ _ _ rfl _ _ rfl rfl _ _ hrun ?_)
        refine (BO.out _ _ _ HC12.out).mono ?_
        rintro e wA ⟨rfl, hbA⟩
        obtain ⟨wB, gz, hcz, hwb, hbB, -⟩ := bytesOf S2 wA
        rw [show S2.size = 16 from by rw [HS2.out, kstr_size]] at hcz hwb
        have HCB : Hid (Code8 wB (some ⟨wA.heap.size, 0, none⟩) 16 (dblB D)) := (hwb.congr (fun j hj => by rw [HS2.out]; exact same_strB HLDD.out j hj)).code
        have HMB : Hid (MK wB pb po tb m W) := (HM12.out.below hbA).below hbB
        have HBA : Below w.heap.size w wA := HB12.out.trans (hbA.mono HB12.out.size)
        have HBB : Hid (Below w.heap.size w wB) := HBA.trans (hbB.mono HBA.size)
        clear hbA hbB hwb HBA HM12 HB12 HC12 BO hrun
        go_wp2_with fail
        refine (BO2.out _ _ _ HCB.out).mono ?_
        rintro e wC ⟨rfl, hbC⟩
        have HMC : Hid (MK wC pb po tb m W) := HMB.out.below hbC
        have HBC : Hid (Below w.heap.size w wC) := HBB.out.trans (hbC.mono HBB.out.size)
        clear hbC HMB HBB HCB BO2 hcz
        go_wp2_with fail
        refine (EN.out _ HMC.out).mono ?_
        rintro e wD ⟨rfl, hbD⟩
        have HBD : Hid (Below w.heap.size w wD) := HBC.out.trans (hbD.mono HBC.out.size)
        clear hbD HMC HBC EN
        go_wp2
        go_ret
        exact ⟨rfl, HBD.out⟩
      · go_wp2_with (at_builtin; refine wpList_append_own _ rfl _ _ 22 rfl wr.heap.size 5 i0 (.int .u8 0) 1 1 Try.underlying22 HI.out.1 HI.out.2.1 HI.out.2.2.1 HI.out.2.2.2 rfl (by decide) _ _ _ rfl HO8.out ⟨b, o + 16 * r, none⟩ L (c - 16 * r) (bv L (fun j => f (16 * r + j))) rfl (by rw [bv_length, Nat.mul_one]) (bv_news (HLast.out _ HB8.out)) (bv_one _ _) (by unfold maxLen; omega) (by omega) hw8 ?_)
        intro v9 w9 hown hgrow hnil
        have BG := grown_below HO8.out hgrow hw8
        have HM9 : Hid (MK w9 pb po tb m W) := HM8.out.belowAt BG hpt.1 hpt.2
        have HB9 : Hid (Below w.heap.size w w9) := HB8.out.trans (BG.mono hwr)
        have hw9 := Nat.le_trans hw8 BG.size
        obtain ⟨g9, c9, ⟨hg9, hc9⟩, rfl, ho9⟩ := own8_of_own (n := L) hown hnil
        have HO9 : Hid (w9.ownsRow wr.heap.size 5 1 (.slice (some ⟨g9, 0, none⟩) L c9) L (bv L (fun j => f (16 * r + j)))) := hown
        clear hown hgrow hnil BG HO8 HM8 HB8
        by_cases h16 : L = 16
        · have ho16 : Own8 w9 g9 16 (fun j => f (16 * r + j)) := by rw [h16] at ho9; exact ho9
          have HR9 : Hid (Code8 w9 (some ⟨g9, 0, none⟩) 16 (fun j => f (16 * r + j))) := code8_of (fun j hj => by rw [Nat.zero_add]; exact ho16.cell hj)
          obtain ⟨S3, hS3⟩ : ∃ S, S = kstr (fun j => strB T j ^^^ f (16 * r + j)) 0 16 := ⟨_, rfl⟩
          obtain ⟨S4, hS4⟩ : ∃ S, S = kstr (fun j => strB S3 j ^^^ D j) 0 16 := ⟨_, rfl⟩
          have TAGE : Hid (kstr (Gf.enc W m (strB S4)) 0 16 = kstr (cmacB W m n f) 0 16) := cm_tag HTT.out (fun j hj => by
              unfold lastS
              rw [← HQ.out, if_pos (by omega)]) (fun j hj => by
              unfold maskB
              rw [← HQ.out, if_neg (by omega), HDD.out]) (fun j _ => LF.out _) HLD.out hS3 hS4
          have BO : Hid (∀ w : World, Code8 w (some ⟨g9, 0, none⟩) 16 (fun j => f (16 * r + j)) → Calls Try.prog 36 #[.string T, .slice (some ⟨g9, 0, none⟩) 16 c9] w fun e w' => e = .returned (.string S3) ∧ Below w.heap.size w w') := fun w h => by
            rw [hS3]; exact l02Both_any T HT16.out g9 0 c9 (fun j => f (16 * r + j)) (fun j _ => LF.out _) w h
          have BO2 : Hid (∀ (gz gc : Nat) (w : World), Code8 w (some ⟨gz, 0, none⟩) 16 D → Calls Try.prog 36 #[.string S3, .slice (some ⟨gz, 0, none⟩) 16 gc] w fun e w' => e = .returned (.string S4) ∧ Below w.heap.size w w') := fun gz gc w h => by
            rw [hS4]; exact l02Both_any S3 (by rw [hS3, kstr_size]) gz 0 gc D HLD.out w h
          have EN : Hid (∀ w : World, MK w pb po tb m W → Calls Try.prog 35 #[.slice (some ⟨pb, po, none⟩) (m + 1) ck, .slice (some ⟨tb, 0, none⟩) 256 256, .string S4] w fun e w' => e = .returned (.string (kstr (cmacB W m n f) 0 16)) ∧ Below w.heap.size w w') := fun w h =>
            (mEnc pb po ck tb m W LW.out hm1 hm2 S4 (by rw [hS4, kstr_size]) w h).mono fun e w' hh => ⟨by rw [hh.1, TAGE.out], hh.2⟩
          have z16 : ¬ (L : Int) < 16 := by omega
          have eL16 : L = 16 := h16
          clear HO9 ho9 ho16 hS3 hS4 TAGE HTT HT16 h16 HLast eL
          subst eL16
          go_wp2_with fail
          refine (BO.out _ HR9.out).mono ?_
          rintro e wA ⟨rfl, hbA⟩
          obtain ⟨wB, gz, hcz, hwb, hbB, -⟩ := bytesOf SD wA
          rw [show SD.size = 16 from by rw [HSD.out, kstr_size]] at hcz hwb
          have HCB : Hid (Code8 wB (some ⟨wA.heap.size, 0, none⟩) 16 D) := (hwb.congr (fun j hj => by rw [HSD.out]; exact same_strB HLD.out j hj)).code
          have HMB : Hid (MK wB pb po tb m W) := (HM9.out.below hbA).below hbB
          have HBA : Below w.heap.size w wA := HB9.out.trans (hbA.mono HB9.out.size)
          have HBB : Hid (Below w.heap.size w wB) := HBA.trans (hbB.mono HBA.size)
          clear hbA hbB hwb HBA HM9 HB9 HR9 BO
          go_wp2_with fail
          refine (BO2.out _ _ _ HCB.out).mono ?_
          rintro e wC ⟨rfl, hbC⟩
          have HMC : Hid (MK wC pb po tb m W) := HMB.out.below hbC
          have HBC : Hid (Below w.heap.size w wC) := HBB.out.trans (hbC.mono HBB.out.size)
          clear hbC HMB HBB HCB BO2 hcz
          go_wp2_with fail
          refine (EN.out _ HMC.out).mono ?_
          rintro e wD ⟨rfl, hbD⟩
          have HBD : Hid (Below w.heap.size w wD) := HBC.out.trans (hbD.mono HBC.out.size)
          clear hbD HMC HBC EN
          go_wp2
          go_ret
          exact ⟨rfl, HBD.out⟩
        · have hl16 : L < 16 := by omega
          obtain ⟨FX, hFX⟩ : ∃ F : Nat → Nat, F = fillB L (fun j => f (16 * r + j)) := ⟨_, rfl⟩
          have lFX : ∀ j, FX j < 256 := fun j => by rw [hFX]; exact fillB_lt (fun i => LF.out _) j
          have HFX : Hid (∀ j, FX j < 256) := lFX
          have eF : FX L = 128 := by rw [hFX]; unfold fillB; rw [if_neg (by omega), if_pos rfl]
          have HFZ : Hid (∀ j, L < j → FX j = 0) := fun j hj => by rw [hFX]; unfold fillB; rw [if_neg (by omega), if_neg (by omega)]
          have HSN : Hid (bv L FX ++ [.int .u8 128] = bv (L + 1) FX) := by
            have := bv_snoc L FX
            rw [eF] at this
            exact this
          have HOF : Hid (w9.ownsRow wr.heap.size 5 1 (.slice (some ⟨g9, 0, none⟩) L c9) L (bv L FX)) := by
            show w9.ownsRow _ _ _ _ _ _
            rw [show bv L FX = bv L (fun j => f (16 * r + j)) from bv_congr (fun i hi => by rw [hFX]; unfold fillB; rw [if_pos hi])]
            exact HO9.out
          obtain ⟨S2, hS2⟩ : ∃ S, S = kstr (dblB D) 0 16 := ⟨_, rfl⟩
          obtain ⟨S3, hS3⟩ : ∃ S, S = kstr (fun j => strB T j ^^^ FX j) 0 16 := ⟨_, rfl⟩
          obtain ⟨S4, hS4⟩ : ∃ S, S = kstr (fun j => strB S3 j ^^^ dblB D j) 0 16 := ⟨_, rfl⟩
          have lDD : ∀ j, j < 16 → dblB D j < 256 := fun j hj => dblB_lt HLD.out j hj
          have TAGE : Hid (kstr (Gf.enc W m (strB S4)) 0 16 = kstr (cmacB W m n f) 0 16) := cm_tag HTT.out (fun j hj => by
              have h9 := HL.out
              rw [hFX]
              unfold lastS fillB
              rw [← HQ.out]
              by_cases h1 : j < L
              · rw [if_pos h1, if_pos (show 16 * r + j < n by omega)]
              · rw [if_neg h1, if_neg (show ¬ 16 * r + j < n by omega)]
                by_cases h2 : j = L
                · rw [if_pos h2, if_pos (show 16 * r + j = n by omega)]
                · rw [if_neg h2, if_neg (show ¬ 16 * r + j = n by omega)]) (fun j hj => by
              unfold maskB
              rw [← HQ.out, if_pos (by omega), HDD.out]) (fun j _ => lFX j) lDD hS3 hS4
          have TW2 : Hid (∀ w : World, Calls Try.prog 34 #[.string SD] w fun e w' => e = .returned (.string S2) ∧ Below w.heap.size w w') := fun w => by
            have := l02Twice_any SD (by rw [HSD.out, kstr_size]) w
            rw [hS2]
            rwa [kstr_same (same_dblB (by rw [HSD.out]; exact same_strB HLD.out))] at this
          have BO : Hid (∀ (g cc : Nat) (w : World), Code8 w (some ⟨g, 0, none⟩) 16 FX → Calls Try.prog 36 #[.string T, .slice (some ⟨g, 0, none⟩) 16 cc] w fun e w' => e = .returned (.string S3) ∧ Below w.heap.size w w') := fun g cc w h => by
            rw [hS3]; exact l02Both_any T HT16.out g 0 cc FX (fun j _ => lFX j) w h
          have BO2 : Hid (∀ (gz gc : Nat) (w : World), Code8 w (some ⟨gz, 0, none⟩) 16 (dblB D) → Calls Try.prog 36 #[.string S3, .slice (some ⟨gz, 0, none⟩) 16 gc] w fun e w' => e = .returned (.string S4) ∧ Below w.heap.size w w') := fun gz gc w h => by
            rw [hS4]; exact l02Both_any S3 (by rw [hS3, kstr_size]) gz 0 gc (dblB D) lDD w h
          have EN : Hid (∀ w : World, MK w pb po tb m W → Calls Try.prog 35 #[.slice (some ⟨pb, po, none⟩) (m + 1) ck, .slice (some ⟨tb, 0, none⟩) 256 256, .string S4] w fun e w' => e = .returned (.string (kstr (cmacB W m n f) 0 16)) ∧ Below w.heap.size w w') := fun w h =>
            (mEnc pb po ck tb m W LW.out hm1 hm2 S4 (by rw [hS4, kstr_size]) w h).mono fun e w' hh => ⟨by rw [hh.1, TAGE.out], hh.2⟩
          have HS2 : Hid (S2 = kstr (dblB D) 0 16) := hS2
          have HLDD : Hid (∀ j, j < 16 → dblB D j < 256) := lDD
          have z16 : (L : Int) < 16 := by omega
          clear HO9 ho9 hS2 hS3 hS4 TAGE HTT HT16 h16 HLast eL hFX lFX eF lDD
          go_wp2_with fail
          refine (TW2.out _).mono ?_
          rintro e w10 ⟨rfl, hb10⟩
          have HO10 : Hid (w10.ownsRow wr.heap.size 5 1 (.slice (some ⟨g9, 0, none⟩) L c9) L (bv L FX)) := ownsRow_below8 HOF.out hb10
          have HM10 : Hid (MK w10 pb po tb m W) := HM9.out.below hb10
          have HB10 : Hid (Below w.heap.size w w10) := HB9.out.trans (hb10.mono HB9.out.size)
          have hw10 := Nat.le_trans hw9 hb10.size
          clear hb10 TW2 HM9 HB9 HOF
          go_wp2_with (at_builtin; refine wpList_append_own _ rfl _ _ 22 rfl wr.heap.size 5 i0 (.int .u8 0) 1 1 Try.underlying22 HI.out.1 HI.out.2.1 HI.out.2.2.1 HI.out.2.2.2 rfl (by decide) _ _ _ rfl (HO10.out.alloc _) ⟨w10.heap.size, 0, none⟩ 1 1 [.int .u8 128] rfl rfl (one_new8 _ _ _) (one_one8 _) (by unfold maxLen; omega) (by omega) (by simp; omega) ?_)
          intro v11 w11 hown11 hgrow11 hnil11
          rw [HSN.out] at hown11
          have BG := grown_below (HO10.out.alloc _) hgrow11 (by simp; omega)
          have HM11 : Hid (MK w11 pb po tb m W) := (HM10.out.alloc _).belowAt BG hpt.1 hpt.2
          have HB11 : Hid (Below w.heap.size w w11) := (HB10.out.alloc HB10.out.size _).trans (BG.mono hwr)
          have hw11 : wr.heap.size ≤ w11.heap.size := Nat.le_trans (by simp; omega) BG.size
          obtain ⟨g11, c11, ⟨hg11, hc11⟩, rfl, -⟩ := own8_of_own (n := L + 1) hown11 hnil11
          obtain ⟨v12, w12, hrun, ho12, hgr12, hnil12⟩ := run_own_zeros w11 wr.heap.size 22 3 22 5 i0 Try.underlying22 Try.underlying3 HI.out.1 HI.out.2.1 HI.out.2.2.1 HI.out.2.2.2 g11 (L + 1) c11 (15 - L) _ hown11 (by omega) (by omega) hw11
          have BG2 : Below wr.heap.size w11 w12 := (Below.refl _ w11).grown hgr12 hw11 (fun k hk => by cases hk; exact hg11)
          rw [bv_append, show L + 1 + (15 - L) = 16 by omega] at ho12
          obtain ⟨g12, c12, -, rfl, hO12⟩ := own8_of_own (n := 16) ho12 hnil12
          have HC12 : Hid (Code8 w12 (some ⟨g12, 0, none⟩) 16 FX) := code8_of (fun j hj => by
            rw [Nat.zero_add, hO12.cell hj]
            by_cases e : j < L + 1
            · rw [if_pos e]
            · rw [if_neg e, HFZ.out j (by omega)])
          have HM12 : Hid (MK w12 pb po tb m W) := HM11.out.belowAt BG2 hpt.1 hpt.2
          have HB12 : Hid (Below w.heap.size w w12) := HB11.out.trans (BG2.mono hwr)
          have zk : (16 : Int) - ((L : Int) + 1) = ((15 - L : Nat) : Int) := by omega
          clear hown11 hgrow11 hnil11 BG BG2 ho12 hgr12 hnil12 hO12 HM10 HB10 HM11 HB11 HO10
          go_wp2_with (at_builtin; refine Lib.wpList_append_run _ rfl _ _ _ _ rfl _ _ rfl rfl _ _ hrun ?_)
          refine (BO.out _ _ _ HC12.out).mono ?_
          rintro e wA ⟨rfl, hbA⟩
          obtain ⟨wB, gz, hcz, hwb, hbB, -⟩ := bytesOf S2 wA
          rw [show S2.size = 16 from by rw [HS2.out, kstr_size]] at hcz hwb
          have HCB : Hid (Code8 wB (some ⟨wA.heap.size, 0, none⟩) 16 (dblB D)) := (hwb.congr (fun j hj => by rw [HS2.out]; exact same_strB HLDD.out j hj)).code
          have HMB : Hid (MK wB pb po tb m W) := (HM12.out.below hbA).below hbB
          have HBA : Below w.heap.size w wA := HB12.out.trans (hbA.mono HB12.out.size)
          have HBB : Hid (Below w.heap.size w wB) := HBA.trans (hbB.mono HBA.size)
          clear hbA hbB hwb HBA HM12 HB12 HC12 BO hrun
          go_wp2_with fail
          refine (BO2.out _ _ _ HCB.out).mono ?_
          rintro e wC ⟨rfl, hbC⟩
          have HMC : Hid (MK wC pb po tb m W) := HMB.out.below hbC
          have HBC : Hid (Below w.heap.size w wC) := HBB.out.trans (hbC.mono HBB.out.size)
          clear hbC HMB HBB HCB BO2 hcz
          go_wp2_with fail
          refine (EN.out _ HMC.out).mono ?_
          rintro e wD ⟨rfl, hbD⟩
          have HBD : Hid (Below w.heap.size w wD) := HBC.out.trans (hbD.mono HBC.out.size)
          clear hbD HMC HBC EN
          go_wp2
          go_ret
          exact ⟨rfl, HBD.out⟩
end Go.Proofs.Ytbajdphiaibmgaa
