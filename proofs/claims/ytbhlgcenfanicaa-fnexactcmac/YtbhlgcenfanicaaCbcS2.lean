/-
  The model's chains: l02CbcEncrypt, CbcEncrypt.
-/
import Derived.Test.YtbhlgcenfanicaaCbcS
namespace Go.Proofs.Ytbhlgcenfanicaa
open Go.ChangeShapes Go.WideShapes Go.ChangeAt Go.RowKit
set_option maxRecDepth 100000 in
set_option maxHeartbeats 4000000 in
/-- spec.l02CbcEncrypt -/
theorem l02Cbc_any (k s : ByteArray) (kn b o n c : Nat) (f : Nat → Nat) (hkn : kn = 4 ∨ kn = 8) (hk : k.size = kn * 4) (hs : s.size = 16) (hn : n ≤ 65520) (hf : ∀ i, f i < 256) (w : World) (h : Code8 w (some ⟨b, o, none⟩) n f) :
    Calls Try.prog 34 #[.string k, .string s, .slice (some ⟨b, o, none⟩) n c] w fun e w' => RetB w w' e (n + fillN n) (cbcO (Gf.ws (strB k) kn (3 * kn + 28)) (kn + 6) (strB s) (padF n f)) ∧ Below w.heap.size w w' := by
  obtain ⟨i0, hi⟩ := info_parts Try.info8
  have HI : Hid (Try.prog.info? 5 = some i0 ∧ i0.zero = some (.int .u8 0) ∧ i0.size = 1 ∧ i0.bytes = 1) := hi
  have TA : Hid (∀ w : World, Calls Try.prog 41 #[] w fun e w' => (∃ b, w.heap.size ≤ b ∧ e = .returned (.slice (some ⟨b, 0, none⟩) 256 256) ∧ w'.rowIs b 3 256 (fun j => .int .i64 (Gf.sub j : Nat))) ∧ Below w.heap.size w w') := table_any
  have KE : Hid (∀ (tb : Nat) (w : World), w.rowIs tb 3 256 (fun j => .int .i64 (Gf.sub j : Nat)) → Calls Try.prog 42 #[.string k, .slice (some ⟨tb, 0, none⟩) 256 256] w fun e w' => (∃ pb po ck, e = .returned (.slice (some ⟨pb, po, none⟩) (kn + 6 + 1) ck) ∧ MK w' pb po tb (kn + 6) (Gf.ws (strB k) kn (3 * kn + 28))) ∧ Below w.heap.size w w') := fun tb w h => mKeys k kn hkn hk tb w h
  have LW : Hid (∀ j, Gf.ws (strB k) kn (3 * kn + 28) j < 256) := Gf.ws_lt (strB_lt k) _
  generalize Gf.ws (strB k) kn (3 * kn + 28) = W at *
  obtain ⟨m, hm⟩ : ∃ m, m = kn + 6 := ⟨_, rfl⟩
  have hm1 : 1 ≤ m := by omega
  have hm2 : m ≤ 14 := by omega
  rw [← hm] at KE ⊢
  have PD : Hid (∀ w : World, Code8 w (some ⟨b, o, none⟩) n f → Calls Try.prog 59 #[.slice (some ⟨b, o, none⟩) n c] w fun e w' => RetB w w' e (n + fillN n) (padF n f) ∧ Below w.heap.size w w') := fun w h => l02Pad_any b o n c f (by omega) w h
  have LI : Hid (∀ j, strB s j < 256) := strB_lt s
  have LP : Hid (∀ j, padF n f j < 256) := fun j => padF_lt hf j
  have hMm : (n + fillN n) % 16 = 0 := padN_mod n
  have hM2 : n + fillN n ≤ 65536 := by have := (fillN_bd n).2; omega
  generalize padF n f = P at *
  generalize n + fillN n = M at *
  have HC : Hid (Code8 w (some ⟨b, o, none⟩) n f) := h
  obtain ⟨iv, hiv⟩ : ∃ iv, iv = strB s := ⟨_, rfl⟩
  have HIV : Hid (Gf.Same (strB s) (cbcB W m iv P 0)) := fun j _ => by rw [← hiv]; rfl
  rw [← hiv] at LI ⊢
  have LB : Hid (∀ i j, cbcB W m iv P i j < 256) := fun i j => cbcB_lt LW.out LI.out LP.out i j
  have HSs : Hid (s.size = 16) := hs
  clear h hf hkn hk hs hm hi hiv
  go_enter Try.func34, Try.ntmps34
  go_wp2_with fail
  refine (TA.out _).mono ?_
  rintro e w1 ⟨⟨tb, htb, rfl, hrow⟩, hB1⟩
  have HR : Hid (w1.rowIs tb 3 256 (fun j => .int .i64 (Gf.sub j : Nat))) := hrow
  have HB1 : Hid (Below w.heap.size w w1) := hB1
  clear hrow hB1
  go_wp2_with fail
  refine (KE.out tb w1 HR.out).mono ?_
  rintro e w2 ⟨⟨pb, po, ck, rfl, hmk⟩, hB2⟩
  have HM : Hid (MK w2 pb po tb m W) := hmk
  have HB2 : Hid (Below w.heap.size w w2) := HB1.out.trans (hB2.mono HB1.out.size)
  have HC2 : Hid (Code8 w2 (some ⟨b, o, none⟩) n f) := HC.out.below HB2.out
  clear hmk hB2 HR HB1 HC TA KE
  go_wp2_with fail
  refine (PD.out _ HC2.out).mono ?_
  rintro e w3 ⟨⟨pk, Cp, ⟨hpk, hMC⟩, rfl, ho⟩, hB3⟩
  have HP3 : Hid (Own8 w3 pk M P) := ho
  have HM3 : Hid (MK w3 pb po tb m W) := HM.out.below hB3
  have HB3 : Hid (Below w.heap.size w w3) := HB2.out.trans (hB3.mono HB2.out.size)
  have hpt := HM3.out.lt
  have hpl := ho.lt
  have hw3 := HB3.out.size
  clear ho hB3 HM HB2 HC2 PD
  have HO4 : Hid ((w3.alloc (.cells #[] 5)).ownsRow w3.heap.size 5 1 (.slice (some ⟨w3.heap.size, 0, none⟩) 0 0) 0 (bv 0 (cbcO W m iv P))) := World.ownsRow_made w3 #[] 0 (Nat.le_refl _) (Nat.zero_le _) (by simp)
  have HP4 : Hid (Own8 (w3.alloc (.cells #[] 5)) pk M P) := HP3.out.alloc _
  have HM4 : Hid (MK (w3.alloc (.cells #[] 5)) pb po tb m W) := HM3.out.alloc _
  have HB4 : Hid (Below w.heap.size w (w3.alloc (.cells #[] 5))) := HB3.out.alloc hw3 _
  have hw4 : w3.heap.size ≤ (w3.alloc (.cells #[] 5)).heap.size := by simp
  clear HP3 HM3 HB3
  go_wp2_with fail
  generalize w3.alloc (.cells #[] 5) = w4 at *
  generalize w3.heap.size = B0 at *
  go_loopw [10, 11, 12] (fun x l i wr => ∃ (q gb gc : Nat) (T : ByteArray), 16 * q ≤ M ∧ i = .int .i64 (16 * (q : Int)) ∧ l = .string T ∧ T.size = 16 ∧ Gf.Same (strB T) (cbcB W m iv P q) ∧ x = .slice (some ⟨gb, 0, none⟩) (16 * q) gc ∧ wr.ownsRow B0 5 1 (.slice (some ⟨gb, 0, none⟩) (16 * q) gc) (16 * q) (bv (16 * q) (cbcO W m iv P)) ∧ (Own8 wr pk M P ∧ MK wr pb po tb m W ∧ Below w.heap.size w wr ∧ B0 ≤ wr.heap.size)) (fun _ _ i _ => M - (intOf i).toNat)
  case atStart => exact ⟨0, B0, 0, s, by omega, rfl, rfl, HSs.out, HIV.out, rfl, HO4.out, HP4.out, HM4.out, HB4.out, hw4⟩
  case round =>
    clear HO4 HP4 HM4 HB4 hw4 HIV HSs
    obtain ⟨q, gb, gc, T, hq, rfl, rfl, hT, hTS, rfl, hown, hp, hmk, hb, hsz⟩ := hrel
    have HO : Hid (wr.ownsRow B0 5 1 (.slice (some ⟨gb, 0, none⟩) (16 * q) gc) (16 * q) (bv (16 * q) (cbcO W m iv P))) := hown
    have HP : Hid (Own8 wr pk M P) := hp
    have HM : Hid (MK wr pb po tb m W) := hmk
    have HB : Hid (Below w.heap.size w wr) := hb
    clear hown hp hmk hb
    by_cases hlt : 16 * q < M
    · have g1 : 16 * (q : Int) < (M : Int) := by omega
      have g0 : (0 : Int) ≤ 16 * (q : Int) := by omega
      have g2 : 16 * (q : Int) + 16 ≤ (Cp : Int) := by omega
      have g3 : 16 * (q : Int) ≤ 16 * (q : Int) + 16 := by omega
      have g4 : (16 * (q : Int)).toNat = 16 * q := by omega
      have g5 : (16 * (q : Int) + 16).toNat = 16 * q + 16 := by omega
      have g6 : ¬ Cp = 16 * q := by omega
      have g7 : 16 * q + 16 - 16 * q = 16 := by omega
      obtain ⟨S2, hS2⟩ : ∃ S2, S2 = kstr (fun j => strB T j ^^^ P (16 * q + j)) 0 16 := ⟨_, rfl⟩
      have BO : Hid (∀ w : World, Code8 w (some ⟨pk, 16 * q, none⟩) 16 (fun j => P (16 * q + j)) → Calls Try.prog 43 #[.string T, .slice (some ⟨pk, 16 * q, none⟩) 16 (Cp - 16 * q)] w fun e w' => e = .returned (.string S2) ∧ Below w.heap.size w w') := fun w h => by
        rw [hS2]
        exact l02Both_any T hT pk (16 * q) (Cp - 16 * q) (fun j => P (16 * q + j)) (fun j _ => LP.out _) w h
      have EN : Hid (∀ w : World, MK w pb po tb m W → Calls Try.prog 55 #[.slice (some ⟨pb, po, none⟩) (m + 1) ck, .slice (some ⟨tb, 0, none⟩) 256 256, .string S2] w fun e w' => e = .returned (.string (kstr (cbcB W m iv P (q + 1)) 0 16)) ∧ Below w.heap.size w w') := fun w h =>
        (mEnc pb po ck tb m W LW.out hm1 hm2 S2 (by rw [hS2, kstr_size]) w h).mono fun e w' hh => ⟨by
          rw [hh.1]
          refine congrArg (fun x => Ending.returned (.string x)) (kstr_same (Gf.same_enc (fun j hj => ?_)))
          rw [hS2, strB_kstr _ 0 16 j (by rw [Nat.zero_add]; exact Gf.xor_lt (strB_lt T j) (LP.out _)) hj, Nat.zero_add, hTS j hj], hh.2⟩
      have HG : Hid (bv (16 * q) (cbcO W m iv P) ++ Lib.strCells (kstr (cbcB W m iv P (q + 1)) 0 16) = bv (16 * (q + 1)) (cbcO W m iv P)) := by
        show bv (16 * q) (cbcO W m iv P) ++ Lib.strCells (kstr (cbcB W m iv P (q + 1)) 0 16) = _
        rw [strCells_bv, kstr_size, bv_append, Nat.mul_add]
        refine bv_congr (fun i hi => ?_)
        by_cases e : i < 16 * q
        · rw [if_pos e]
        · rw [if_neg e, strB_kstr _ 0 16 _ (by rw [Nat.zero_add]; exact LB.out _ _) (by omega), Nat.zero_add]
          have := cbcO_at W m iv P q (i - 16 * q) (by omega)
          rw [show 16 * q + (i - 16 * q) = i from by omega] at this
          exact this.symm
      have HS16 : Hid ((kstr (cbcB W m iv P (q + 1)) 0 16).size = 16) := kstr_size _ _ _
      have HTS : Hid (Gf.Same (strB (kstr (cbcB W m iv P (q + 1)) 0 16)) (cbcB W m iv P (q + 1))) := same_strB (fun j _ => LB.out _ _)
      have HCd : Hid (Code8 wr (some ⟨pk, 16 * q, none⟩) 16 (fun j => P (16 * q + j))) := code8_of (fun j hj => HP.out.cell (by omega))
      have HQ : Hid (16 * (q : Int) + 16 = 16 * ((q + 1 : Nat) : Int)) := by show 16 * (q : Int) + 16 = _; omega
      generalize kstr (cbcB W m iv P (q + 1)) 0 16 = E1 at *
      clear hS2 hT hTS
      go_wp2_with fail
      refine (BO.out _ HCd.out).mono ?_
      rintro e w5 ⟨rfl, hb5⟩
      have HO5 : Hid (w5.ownsRow B0 5 1 (.slice (some ⟨gb, 0, none⟩) (16 * q) gc) (16 * q) (bv (16 * q) (cbcO W m iv P))) := ownsRow_below8 HO.out hb5
      have HP5 : Hid (Own8 w5 pk M P) := HP.out.below hb5
      have HM5 : Hid (MK w5 pb po tb m W) := HM.out.below hb5
      have HB5 : Hid (Below w.heap.size w w5) := HB.out.trans (hb5.mono HB.out.size)
      have hsz5 := Nat.le_trans hsz hb5.size
      clear hb5 HO HP HM HB BO HCd hsz
      go_wp2_with fail
      refine (EN.out _ HM5.out).mono ?_
      rintro e w6 ⟨rfl, hb6⟩
      have HO6 : Hid (w6.ownsRow B0 5 1 (.slice (some ⟨gb, 0, none⟩) (16 * q) gc) (16 * q) (bv (16 * q) (cbcO W m iv P))) := ownsRow_below8 HO5.out hb6
      have HP6 : Hid (Own8 w6 pk M P) := HP5.out.below hb6
      have HM6 : Hid (MK w6 pb po tb m W) := HM5.out.below hb6
      have HB6 : Hid (Below w.heap.size w w6) := HB5.out.trans (hb6.mono HB5.out.size)
      have hsz6 := Nat.le_trans hsz5 hb6.size
      clear hb6 HO5 HP5 HM5 HB5 EN hsz5
      go_wp2_with (at_builtin; refine Lib.wpList_append_own_string _ rfl _ _ 22 9 rfl B0 5 i0 Try.underlying22 Try.underlying9 HI.out.1 HI.out.2.1 HI.out.2.2.1 HI.out.2.2.2 (.slice (some ⟨gb, 0, none⟩) (16 * q) gc) (16 * q) _ rfl HO6.out E1 rfl (by rw [HS16.out]; unfold maxLen; omega) (by rw [HS16.out]; omega) hsz6 ?_)
      intro v7 w7 hown7 hgrow7 hnil7
      rw [HS16.out, HG.out] at hown7
      have BG := grown_below HO6.out hgrow7 hsz6
      have HP7 : Hid (Own8 w7 pk M P) := HP6.out.of_block (BG.block pk hpl)
      have HM7 : Hid (MK w7 pb po tb m W) := HM6.out.belowAt BG hpt.1 hpt.2
      have HB7 : Hid (Below w.heap.size w w7) := HB6.out.trans (BG.mono hw3)
      have hsz7 := Nat.le_trans hsz6 BG.size
      obtain ⟨gb7, gc7, ⟨hgb7, hgc7⟩, rfl, -⟩ := own8_of_own (n := 16 * (q + 1)) hown7 hnil7
      have HO7 : Hid (w7.ownsRow B0 5 1 (.slice (some ⟨gb7, 0, none⟩) (16 * (q + 1)) gc7) (16 * (q + 1)) (bv (16 * (q + 1)) (cbcO W m iv P))) := hown7
      clear hown7 hgrow7 hnil7 BG HO6 HP6 HM6 HB6 HG
      go_wp2
      go_roundw
      case rel => exact ⟨q + 1, gb7, gc7, E1, by omega, numEq8 HQ.out, rfl, HS16.out, HTS.out, rfl, HO7.out, HP7.out, HM7.out, HB7.out, hsz7⟩
      case measure => simp [intOf]; omega
    · have g1 : ¬ 16 * (q : Int) < (M : Int) := by omega
      obtain rfl : M = 16 * q := by omega
      obtain ⟨gb7, gc7, ⟨hgb7, hgc7⟩, e7, ho7⟩ := own8_of_own (n := 16 * q) HO.out (by intro e; cases e)
      cases e7
      have HO7 : Hid (Own8 wr gb (16 * q) (cbcO W m iv P)) := ho7
      clear ho7 HO HP HM LB LP LI LW hTS
      go_wp2
      go_ret
      exact ⟨⟨gb, gc, ⟨Nat.le_trans hw3 hgb7, hgc7⟩, rfl, HO7.out⟩, HB.out⟩
theorem specCbc_long (k s : ByteArray) (a : Option Addr) (n c : Nat) (f : Nat → Nat) (h : 65536 < k.size ∨ 65536 < s.size ∨ 65520 < n) (w : World) :
    Calls Try.prog 12 #[.string k, .string s, .slice a n c] w fun e w' => RetB2 w w' e 0 f (.int .i64 2) ∧ Below w.heap.size w w' := by
  by_cases h1 : 65536 < k.size
  · have e1 : (65536 : Int) < k.size := by omega
    go_enter Try.func12, Try.ntmps12
    go_wp2
    go_ret2
    exact ⟨RetB2.made w f _, (Below.refl _ _).alloc (Nat.le_refl _) _⟩
  · have e1 : ¬ (65536 : Int) < k.size := by omega
    by_cases h2 : 65536 < s.size
    · have e2 : (65536 : Int) < s.size := by omega
      go_enter Try.func12, Try.ntmps12
      go_wp2
      go_ret2
      exact ⟨RetB2.made w f _, (Below.refl _ _).alloc (Nat.le_refl _) _⟩
    · have e2 : ¬ (65536 : Int) < s.size := by omega
      have e3 : (65520 : Int) < n := by omega
      go_enter Try.func12, Try.ntmps12
      go_wp2
      go_ret2
      exact ⟨RetB2.made w f _, (Below.refl _ _).alloc (Nat.le_refl _) _⟩
theorem specCbc_bad (k s : ByteArray) (a : Option Addr) (n c : Nat) (f : Nat → Nat) (h1 : k.size ≤ 65536) (h2 : s.size ≤ 65536) (h3 : n ≤ 65520) (h : ¬ ((k.size = 16 ∨ k.size = 32) ∧ s.size = 16)) (w : World) :
    Calls Try.prog 12 #[.string k, .string s, .slice a n c] w fun e w' => RetB2 w w' e 0 f (.int .i64 1) ∧ Below w.heap.size w w' := by
  have e1 : ¬ (65536 : Int) < k.size := by omega
  have e2 : ¬ (65536 : Int) < s.size := by omega
  have e3 : ¬ (65520 : Int) < n := by omega
  by_cases hk : k.size = 16 ∨ k.size = 32
  · have e4 : ((s.size : Int) != 16) = true := by rw [bne_iff_ne]; omega
    have KO : Hid (∀ w : World, Calls Try.prog 30 #[.string k] w fun e w' => e = .returned (.bool true) ∧ w = w') := l01Key_yes k hk
    clear h hk
    go_enter Try.func12, Try.ntmps12
    go_wp2_with (go_at_call 30; refine (KO.out _).mono ?_; rintro e w' ⟨rfl, rfl⟩)
    go_ret2
    exact ⟨RetB2.made w f _, (Below.refl _ _).alloc (Nat.le_refl _) _⟩
  · have KO : Hid (∀ w : World, Calls Try.prog 30 #[.string k] w fun e w' => e = .returned (.bool false) ∧ w = w') := l01Key_no k (by omega) (by omega)
    clear h hk
    go_enter Try.func12, Try.ntmps12
    go_wp2_with (go_at_call 30; refine (KO.out _).mono ?_; rintro e w' ⟨rfl, rfl⟩)
    go_ret2
    exact ⟨RetB2.made w f _, (Below.refl _ _).alloc (Nat.le_refl _) _⟩
theorem specCbc_yes (k s : ByteArray) (kn b o n c : Nat) (f : Nat → Nat) (hkn : kn = 4 ∨ kn = 8) (hk : k.size = kn * 4) (hs : s.size = 16) (hn : n ≤ 65520) (hf : ∀ i, f i < 256) (w : World) (h : Code8 w (some ⟨b, o, none⟩) n f) :
    Calls Try.prog 12 #[.string k, .string s, .slice (some ⟨b, o, none⟩) n c] w fun e w' => RetB2 w w' e (n + fillN n) (cbcO (Gf.ws (strB k) kn (3 * kn + 28)) (kn + 6) (strB s) (padF n f)) (.int .i64 0) ∧ Below w.heap.size w w' := by
  have e1 : ¬ (65536 : Int) < k.size := by omega
  have e2 : ¬ (65536 : Int) < s.size := by omega
  have e3 : ¬ (65520 : Int) < n := by omega
  have e4 : ((s.size : Int) != 16) = false := by rw [bne_eq_false_iff_eq]; omega
  have KO : Hid (∀ w : World, Calls Try.prog 30 #[.string k] w fun e w' => e = .returned (.bool true) ∧ w = w') := l01Key_yes k (by omega)
  have LC : Hid (Calls Try.prog 34 #[.string k, .string s, .slice (some ⟨b, o, none⟩) n c] w fun e w' => RetB w w' e (n + fillN n) (cbcO (Gf.ws (strB k) kn (3 * kn + 28)) (kn + 6) (strB s) (padF n f)) ∧ Below w.heap.size w w') := l02Cbc_any k s kn b o n c f hkn hk hs hn hf w h
  generalize cbcO (Gf.ws (strB k) kn (3 * kn + 28)) (kn + 6) (strB s) (padF n f) = g at *
  generalize n + fillN n = M at *
  clear h hf hkn hk hs
  go_enter Try.func12, Try.ntmps12
  go_wp2_with (go_at_call 30; refine (KO.out _).mono ?_; rintro e w' ⟨rfl, rfl⟩)
  refine LC.out.mono ?_
  rintro e w1 ⟨⟨b2, c2, hb2, rfl, ho⟩, hB⟩
  have B1 : Hid (Below w.heap.size w w1) := hB
  have HO : Hid (Own8 w1 b2 M g) := ho
  clear ho hB
  go_wp2
  go_ret2
  exact ⟨⟨_, _, hb2, rfl, HO.out⟩, B1.out⟩
end Go.Proofs.Ytbhlgcenfanicaa
