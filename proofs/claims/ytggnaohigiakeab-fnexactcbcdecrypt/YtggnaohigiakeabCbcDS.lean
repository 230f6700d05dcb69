/-
  The model's CbcDecrypt.
-/
import Derived.Test.YtggnaohigiakeabCbcS2
import Derived.Test.YtggnaohigiakeabLawDec
namespace Go.Proofs.Ytggnaohigiakeab
open Go.ChangeShapes Go.WideShapes Go.ChangeAt Go.RowKit
/-- The block ahead of block i, in the model. -/
def prevS (iv c : Nat → Nat) (i j : Nat) : Nat := if i = 0 then iv j else c (16 * (i - 1) + j)
theorem specDcb_long (k s : ByteArray) (a : Option Addr) (n c : Nat) (f : Nat → Nat) (h : 65536 < k.size ∨ 65536 < s.size ∨ 65536 < n) (w : World) :
    Calls Try.prog 12 #[.string k, .string s, .slice a n c] w fun e w' => RetB2 w w' e 0 f (.int .i64 2) ∧ Below w.heap.size w w' := by
  by_cases h1 : 65536 < k.size
  · have e1 : (65536 : Int) < k.size := by omega
    go_enter Try.func12, Try.ntmps12
    go_wp2
    go_ret2
    exact ⟨RetB2.made w f _, (Below.refl _ _).alloc (Nat.le_refl _) _⟩
  · have e1 : ¬ (65536 : Int) < k.size := by omega
    by_cases h2 : 65536 < s.size
    · have e2 : (65536 : Int) < s.size := by omega
      go_enter Try.func12, Try.ntmps12
      go_wp2
      go_ret2
      exact ⟨RetB2.made w f _, (Below.refl _ _).alloc (Nat.le_refl _) _⟩
    · have e2 : ¬ (65536 : Int) < s.size := by omega
      have e3 : (65536 : Int) < n := by omega
      go_enter Try.func12, Try.ntmps12
      go_wp2
      go_ret2
      exact ⟨RetB2.made w f _, (Below.refl _ _).alloc (Nat.le_refl _) _⟩
theorem specDcb_bad (k s : ByteArray) (a : Option Addr) (n c : Nat) (f : Nat → Nat) (h1 : k.size ≤ 65536) (h2 : s.size ≤ 65536) (h3 : n ≤ 65536) (h : ¬ ((k.size = 16 ∨ k.size = 32) ∧ s.size = 16)) (w : World) :
    Calls Try.prog 12 #[.string k, .string s, .slice a n c] w fun e w' => RetB2 w w' e 0 f (.int .i64 1) ∧ Below w.heap.size w w' := by
  have e1 : ¬ (65536 : Int) < k.size := by omega
  have e2 : ¬ (65536 : Int) < s.size := by omega
  have e3 : ¬ (65536 : Int) < n := by omega
  by_cases hk : k.size = 16 ∨ k.size = 32
  · have e4 : ((s.size : Int) != 16) = true := by rw [bne_iff_ne]; omega
    have KO : Hid (∀ w : World, Calls Try.prog 16 #[.string k] w fun e w' => e = .returned (.bool true) ∧ w = w') := l01Key_yes k hk
    clear h hk
    go_enter Try.func12, Try.ntmps12
    go_wp2_with (go_at_call 16; refine (KO.out _).mono ?_; rintro e w' ⟨rfl, rfl⟩)
    go_ret2
    exact ⟨RetB2.made w f _, (Below.refl _ _).alloc (Nat.le_refl _) _⟩
  · have KO : Hid (∀ w : World, Calls Try.prog 16 #[.string k] w fun e w' => e = .returned (.bool false) ∧ w = w') := l01Key_no k (by omega) (by omega)
    clear h hk
    go_enter Try.func12, Try.ntmps12
    go_wp2_with (go_at_call 16; refine (KO.out _).mono ?_; rintro e w' ⟨rfl, rfl⟩)
    go_ret2
    exact ⟨RetB2.made w f _, (Below.refl _ _).alloc (Nat.le_refl _) _⟩
theorem specDcb_part (k s : ByteArray) (a : Option Addr) (n c : Nat) (f : Nat → Nat) (hk : k.size = 16 ∨ k.size = 32) (hs : s.size = 16) (h3 : n ≤ 65536) (h : n = 0 ∨ n % 16 ≠ 0) (w : World) :
    Calls Try.prog 12 #[.string k, .string s, .slice a n c] w fun e w' => RetB2 w w' e 0 f (.int .i64 3) ∧ Below w.heap.size w w' := by
  have e1 : ¬ (65536 : Int) < k.size := by omega
  have e2 : ¬ (65536 : Int) < s.size := by omega
  have e3 : ¬ (65536 : Int) < n := by omega
  have e4 : ((s.size : Int) != 16) = false := by rw [bne_eq_false_iff_eq]; omega
  have KO : Hid (∀ w : World, Calls Try.prog 16 #[.string k] w fun e w' => e = .returned (.bool true) ∧ w = w') := l01Key_yes k hk
  clear hk hs
  by_cases h0 : n = 0
  · have e5 : ((n : Int) == 0) = true := by rw [beq_iff_eq]; omega
    clear h h0
    go_enter Try.func12, Try.ntmps12
    go_wp2_with (go_at_call 16; refine (KO.out _).mono ?_; rintro e w' ⟨rfl, rfl⟩)
    go_ret2
    exact ⟨RetB2.made w f _, (Below.refl _ _).alloc (Nat.le_refl _) _⟩
  · have e5 : ((n : Int) == 0) = false := by rw [beq_eq_false_iff_ne]; omega
    have e6 : ((n : Int) % 16 != 0) = true := by rw [bne_iff_ne]; omega
    clear h h0
    go_enter Try.func12, Try.ntmps12
    go_wp2_with (go_at_call 16; refine (KO.out _).mono ?_; rintro e w' ⟨rfl, rfl⟩)
    go_ret2
    exact ⟨RetB2.made w f _, (Below.refl _ _).alloc (Nat.le_refl _) _⟩
set_option maxRecDepth 100000 in
set_option maxHeartbeats 4000000 in
theorem specDcb_yes (k s : ByteArray) (kn b o n cp : Nat) (c : Nat → Nat) (hkn : kn = 4 ∨ kn = 8) (hk : k.size = kn * 4) (hs : s.size = 16) (hn : n ≤ 65536) (h16 : n % 16 = 0) (hn0 : 0 < n) (hncp : n ≤ cp) (hc : ∀ i, c i < 256) (D : Nat → Nat) (hD : D = cbcD (Gf.ws (strB k) kn (3 * kn + 28)) (kn + 6) (strB s) c) (sz : Nat) (r : Bool) (hr : (UnOK n D ∧ sz = n - D (n - 1) ∧ r = true) ∨ (¬ UnOK n D ∧ sz = 0 ∧ r = false)) (code : Int) (hcode : code = if r then 0 else 3) (w : World) (h : Code8 w (some ⟨b, o, none⟩) n c) :
    Calls Try.prog 12 #[.string k, .string s, .slice (some ⟨b, o, none⟩) n cp] w fun e w' => RetB2 w w' e sz D (.int .i64 code) ∧ Below w.heap.size w w' := by
  have e1 : ¬ (65536 : Int) < k.size := by omega
  have e2 : ¬ (65536 : Int) < s.size := by omega
  have e3 : ¬ (65536 : Int) < n := by omega
  have e4 : ((s.size : Int) != 16) = false := by rw [bne_eq_false_iff_eq]; omega
  have e5 : ((n : Int) == 0) = false := by rw [beq_eq_false_iff_ne]; omega
  have e6 : ((n : Int) % 16 != 0) = false := by rw [bne_eq_false_iff_eq]; omega
  have KO : Hid (∀ w : World, Calls Try.prog 16 #[.string k] w fun e w' => e = .returned (.bool true) ∧ w = w') := l01Key_yes k (by omega)
  obtain ⟨i0, hi⟩ := info_parts Try.info8
  have HI : Hid (Try.prog.info? 5 = some i0 ∧ i0.zero = some (.int .u8 0) ∧ i0.size = 1 ∧ i0.bytes = 1) := hi
  have TA : Hid (∀ w : World, Calls Try.prog 24 #[] w fun e w' => (∃ b, w.heap.size ≤ b ∧ e = .returned (.slice (some ⟨b, 0, none⟩) 256 256) ∧ w'.rowIs b 3 256 (fun j => .int .i64 (Gf.sub j : Nat))) ∧ Below w.heap.size w w') := table_any
  have KE : Hid (∀ (tb : Nat) (w : World), w.rowIs tb 3 256 (fun j => .int .i64 (Gf.sub j : Nat)) → Calls Try.prog 25 #[.string k, .slice (some ⟨tb, 0, none⟩) 256 256] w fun e w' => (∃ pb po ck, e = .returned (.slice (some ⟨pb, po, none⟩) (kn + 6 + 1) ck) ∧ MK w' pb po tb (kn + 6) (Gf.ws (strB k) kn (3 * kn + 28))) ∧ Below w.heap.size w w') := fun tb w h => mKeys k kn hkn hk tb w h
  have LW : Hid (∀ j, Gf.ws (strB k) kn (3 * kn + 28) j < 256) := Gf.ws_lt (strB_lt k) _
  have lD : ∀ x, D x < 256 := fun x => by rw [hD]; exact cbcD_lt (Gf.ws_lt (strB_lt k) _) (strB_lt s) hc x
  generalize Gf.ws (strB k) kn (3 * kn + 28) = W at *
  obtain ⟨m, hm⟩ : ∃ m, m = kn + 6 := ⟨_, rfl⟩
  have hm1 : 1 ≤ m := by omega
  have hm2 : m ≤ 14 := by omega
  rw [← hm] at KE hD
  have UP : Hid (∀ (g gc : Nat) (w : World), n ≤ gc → Code8 w (some ⟨g, 0, none⟩) n D → Calls Try.prog 28 #[.slice (some ⟨g, 0, none⟩) n gc] w fun e w' => RetB2 w w' e sz D (.bool r) ∧ Below w.heap.size w w') := fun g gc w hg h => l02Unpad_any _ n gc D lD hn hg w h sz r hr
  have HC : Hid (Code8 w (some ⟨b, o, none⟩) n c) := h
  have hbl : b < w.heap.size := h.lt _ hn0 rfl
  have LC : Hid (∀ i, c i < 256) := hc
  have LDD : Hid (∀ x, D x < 256) := lD
  have LV : Hid (∀ i j, prevS (strB s) c i j < 256) := fun i j => by
    show (if i = 0 then strB s j else c (16 * (i - 1) + j)) < 256
    split
    · exact strB_lt s j
    · exact hc _
  have HD : Hid (∀ q j, j < 16 → prevS (strB s) c q j ^^^ Gf.dec W m (fun j => c (16 * q + j)) j = D (16 * q + j)) := fun q j hj => by
    rw [hD]
    unfold cbcD
    rw [show (16 * q + j) / 16 = q from by omega, show (16 * q + j) % 16 = j from by omega, Nat.xor_comm]
    congr 1
    unfold prevS
    by_cases e : q = 0
    · subst e
      rw [if_pos rfl, if_pos (by omega), show 16 * 0 + j = j from by omega]
    · rw [if_neg e, if_neg (by omega), show 16 * (q - 1) + j = 16 * q + j - 16 from by omega]
  have HSs : Hid (s.size = 16) := hs
  have HCo : Hid (code = if r then 0 else 3) := hcode
  obtain ⟨iv, hiv⟩ : ∃ iv, iv = strB s := ⟨_, rfl⟩
  rw [← hiv] at LV HD
  have HIV : Hid (Gf.Same (strB s) (prevS iv c 0)) := fun j _ => by unfold prevS; rw [if_pos rfl, hiv]
  have HS0 : Hid (r = false → sz = 0) := fun e => by
    rcases hr with ⟨_, _, h⟩ | ⟨_, h, _⟩
    · rw [h] at e; cases e
    · exact h
  clear h hc hkn hk hs hm hi hD lD hr hcode hiv
  go_enter Try.func12, Try.ntmps12
  go_wp2_with (go_at_call 16; refine (KO.out _).mono ?_; rintro e w' ⟨rfl, rfl⟩)
  refine (TA.out _).mono ?_
  rintro e w1 ⟨⟨tb, htb, rfl, hrow⟩, hB1⟩
  have HR : Hid (w1.rowIs tb 3 256 (fun j => .int .i64 (Gf.sub j : Nat))) := hrow
  have HB1 : Hid (Below w.heap.size w w1) := hB1
  clear hrow hB1
  go_wp2_with fail
  refine (KE.out tb w1 HR.out).mono ?_
  rintro e w3 ⟨⟨pb, po, ck, rfl, hmk⟩, hB2⟩
  have HM3 : Hid (MK w3 pb po tb m W) := hmk
  have HB3 : Hid (Below w.heap.size w w3) := HB1.out.trans (hB2.mono HB1.out.size)
  have hpt := hmk.lt
  have hw3 := HB3.out.size
  clear hmk hB2 HR HB1 TA KE KO
  have HO4 : Hid ((w3.alloc (.cells #[] 5)).ownsRow w3.heap.size 5 1 (.slice (some ⟨w3.heap.size, 0, none⟩) 0 0) 0 (bv 0 D)) := World.ownsRow_made w3 #[] 0 (Nat.le_refl _) (Nat.zero_le _) (by simp)
  have HM4 : Hid (MK (w3.alloc (.cells #[] 5)) pb po tb m W) := HM3.out.alloc _
  have HB4 : Hid (Below w.heap.size w (w3.alloc (.cells #[] 5))) := HB3.out.alloc hw3 _
  have hw4 : w3.heap.size ≤ (w3.alloc (.cells #[] 5)).heap.size := by simp
  clear HM3 HB3
  go_wp2_with fail
  generalize w3.alloc (.cells #[] 5) = w4 at *
  generalize w3.heap.size = B0 at *
  go_loopw [10, 11, 12] (fun x l i wr => ∃ (q gb gc : Nat) (T : ByteArray), 16 * q ≤ n ∧ i = .int .i64 (16 * (q : Int)) ∧ l = .string T ∧ T.size = 16 ∧ Gf.Same (strB T) (prevS iv c q) ∧ x = .slice (some ⟨gb, 0, none⟩) (16 * q) gc ∧ wr.ownsRow B0 5 1 (.slice (some ⟨gb, 0, none⟩) (16 * q) gc) (16 * q) (bv (16 * q) D) ∧ (MK wr pb po tb m W ∧ Below w.heap.size w wr ∧ B0 ≤ wr.heap.size)) (fun _ _ i _ => n - (intOf i).toNat)
  case atStart => exact ⟨0, B0, 0, s, by omega, rfl, rfl, HSs.out, HIV.out, rfl, HO4.out, HM4.out, HB4.out, hw4⟩
  case round =>
    clear HO4 HM4 HB4 hw4 HIV HSs
    obtain ⟨q, gb, gc, T, hq, rfl, rfl, hT, hTS, rfl, hown, hmk, hb, hsz⟩ := hrel
    have HO : Hid (wr.ownsRow B0 5 1 (.slice (some ⟨gb, 0, none⟩) (16 * q) gc) (16 * q) (bv (16 * q) D)) := hown
    have HM : Hid (MK wr pb po tb m W) := hmk
    have HB : Hid (Below w.heap.size w wr) := hb
    clear hown hmk hb
    by_cases hlt : 16 * q < n
    · have g1 : 16 * (q : Int) < (n : Int) := by omega
      have g0 : (0 : Int) ≤ 16 * (q : Int) := by omega
      have g2 : 16 * (q : Int) + 16 ≤ (cp : Int) := by omega
      have g3 : 16 * (q : Int) ≤ 16 * (q : Int) + 16 := by omega
      have g4 : (16 * (q : Int)).toNat = 16 * q := by omega
      have g5 : (16 * (q : Int) + 16).toNat = 16 * q + 16 := by omega
      have g6 : ¬ cp = 16 * q := by omega
      have g7 : 16 * q + 16 - 16 * q = 16 := by omega
      obtain ⟨X, hX⟩ : ∃ X : Nat → Nat, X = fun j => c (16 * q + j) := ⟨_, rfl⟩
      have lX : ∀ j, X j < 256 := fun j => by rw [hX]; exact LC.out _
      obtain ⟨S, hS⟩ : ∃ S, S = kstr X 0 16 := ⟨_, rfl⟩
      have CVT : Hid (∀ (w' : World) (cap : Nat), Below w.heap.size w w' → (convert 22 9 (.slice (some ⟨b, o + 16 * q, none⟩) 16 cap)).run Try.prog w' = .ok (.string S) w') := fun w' cap hb' => by
        rw [hS]
        refine kstr_of_code (code8_of (fun j hj => ?_))
        rw [hb'.cell (p := ⟨b, o + 16 * q + j, none⟩) hbl, hX, Nat.add_assoc]
        exact HC.out.at (by omega)
      obtain ⟨E, hE⟩ : ∃ E, E = kstr (Gf.dec W m X) 0 16 := ⟨_, rfl⟩
      have ldX : ∀ j, j < 16 → Gf.dec W m X j < 256 := fun j hj => Gf.dec_lt LW.out (fun j _ => lX j) j hj
      have DE : Hid (∀ w : World, MK w pb po tb m W → Calls Try.prog 27 #[.slice (some ⟨pb, po, none⟩) (m + 1) ck, .slice (some ⟨tb, 0, none⟩) 256 256, .string S] w fun e w' => e = .returned (.string E) ∧ Below w.heap.size w w') := fun w h =>
        (l01Decrypt_any pb po ck tb m W LW.out hm1 hm2 S (by rw [hS, kstr_size]) w h.1 h.2).mono fun e w' hh => ⟨by
          rw [hh.1, hE]
          refine congrArg (fun x => Ending.returned (.string x)) (kstr_same (Gf.same_dec (fun j hj => ?_)))
          rw [hS]; exact same_strB (fun j _ => lX j) j hj, hh.2⟩
      have hES : E.size = 16 := by rw [hE, kstr_size]
      have hEB : Gf.Same (strB E) (Gf.dec W m X) := by rw [hE]; exact same_strB ldX
      obtain ⟨R, hR⟩ : ∃ R, R = kstr (fun j => D (16 * q + j)) 0 16 := ⟨_, rfl⟩
      have BO : Hid (∀ (eb ec : Nat) (w : World), Code8 w (some ⟨eb, 0, none⟩) 16 (strB E) → Calls Try.prog 26 #[.string T, .slice (some ⟨eb, 0, none⟩) 16 ec] w fun e w' => e = .returned (.string R) ∧ Below w.heap.size w w') := fun eb ec w h =>
        (l02Both_any T hT eb 0 ec (strB E) (fun j _ => strB_lt E j) w h).mono fun e w' hh => ⟨by
          rw [hh.1, hR]
          refine congrArg (fun x => Ending.returned (.string x)) (kstr_same (fun j hj => ?_))
          show strB T j ^^^ strB E j = D (16 * q + j)
          rw [hTS j hj, hEB j hj, hX]
          exact HD.out q j hj, hh.2⟩
      have HG : Hid (bv (16 * q) D ++ Lib.strCells R = bv (16 * (q + 1)) D) := by
        show bv (16 * q) D ++ Lib.strCells R = _
        rw [strCells_bv, hR, kstr_size, bv_append, Nat.mul_add]
        refine bv_congr (fun i hi => ?_)
        by_cases e : i < 16 * q
        · rw [if_pos e]
        · rw [if_neg e, strB_kstr _ 0 16 _ (by rw [Nat.zero_add]; exact LDD.out _) (by omega), Nat.zero_add, show 16 * q + (i - 16 * q) = i from by omega]
      have HRs : Hid (R.size = 16) := by show R.size = 16; rw [hR, kstr_size]
      have HSz : Hid (S.size = 16) := by show S.size = 16; rw [hS, kstr_size]
      have HTS : Hid (Gf.Same (strB S) (prevS iv c (q + 1))) := fun j hj => by
        rw [hS, same_strB (fun j _ => lX j) j hj, hX]
        unfold prevS
        rw [if_neg (by omega)]
        rfl
      have HQ : Hid (16 * (q : Int) + 16 = 16 * ((q + 1 : Nat) : Int)) := by show 16 * (q : Int) + 16 = _; omega
      have hcv1 := fun cap => CVT.out wr cap HB.out
      clear hX hS hE hEB hR hT hTS lX ldX
      go_wp2_with fail
      refine (DE.out _ HM.out).mono ?_
      rintro e w5 ⟨rfl, hb5⟩
      have HO5 : Hid (w5.ownsRow B0 5 1 (.slice (some ⟨gb, 0, none⟩) (16 * q) gc) (16 * q) (bv (16 * q) D)) := ownsRow_below8 HO.out hb5
      have HM5 : Hid (MK w5 pb po tb m W) := HM.out.below hb5
      have HB5 : Hid (Below w.heap.size w w5) := HB.out.trans (hb5.mono HB.out.size)
      have hsz5 := Nat.le_trans hsz hb5.size
      clear hb5 HO HM HB hsz hcv1 DE
      obtain ⟨wy, ec, hcv2, hWB, hBy, hec⟩ := bytesOf E w5
      rw [hES] at hcv2 hWB
      have HO6 : Hid (wy.ownsRow B0 5 1 (.slice (some ⟨gb, 0, none⟩) (16 * q) gc) (16 * q) (bv (16 * q) D)) := ownsRow_below8 HO5.out hBy
      have HM6 : Hid (MK wy pb po tb m W) := HM5.out.below hBy
      have HB6 : Hid (Below w.heap.size w wy) := HB5.out.trans (hBy.mono HB5.out.size)
      have hsz6 := Nat.le_trans hsz5 hBy.size
      have HE6 : Hid (Code8 wy (some ⟨w5.heap.size, 0, none⟩) 16 (strB E)) := hWB.code
      clear hWB hBy hec HO5 HM5 HB5 hsz5
      go_wp2_with fail
      refine (BO.out _ _ _ HE6.out).mono ?_
      rintro e w7 ⟨rfl, hb7⟩
      have HO7 : Hid (w7.ownsRow B0 5 1 (.slice (some ⟨gb, 0, none⟩) (16 * q) gc) (16 * q) (bv (16 * q) D)) := ownsRow_below8 HO6.out hb7
      have HM7 : Hid (MK w7 pb po tb m W) := HM6.out.below hb7
      have HB7 : Hid (Below w.heap.size w w7) := HB6.out.trans (hb7.mono HB6.out.size)
      have hsz7 := Nat.le_trans hsz6 hb7.size
      clear hb7 HO6 HM6 HB6 hsz6 HE6 BO hcv2
      go_wp2_with (at_builtin; refine Lib.wpList_append_own_string _ rfl _ _ 22 9 rfl B0 5 i0 Try.underlying22 Try.underlying9 HI.out.1 HI.out.2.1 HI.out.2.2.1 HI.out.2.2.2 (.slice (some ⟨gb, 0, none⟩) (16 * q) gc) (16 * q) _ rfl HO7.out R rfl (by rw [HRs.out]; unfold maxLen; omega) (by rw [HRs.out]; omega) hsz7 ?_)
      intro v8 w8 hown8 hgrow8 hnil8
      rw [HRs.out, HG.out] at hown8
      have BG := grown_below HO7.out hgrow8 hsz7
      have HM8 : Hid (MK w8 pb po tb m W) := HM7.out.belowAt BG hpt.1 hpt.2
      have HB8 : Hid (Below w.heap.size w w8) := HB7.out.trans (BG.mono hw3)
      have hsz8 := Nat.le_trans hsz7 BG.size
      obtain ⟨gb8, gc8, ⟨hgb8, hgc8⟩, rfl, -⟩ := own8_of_own (n := 16 * (q + 1)) hown8 hnil8
      have HO8 : Hid (w8.ownsRow B0 5 1 (.slice (some ⟨gb8, 0, none⟩) (16 * (q + 1)) gc8) (16 * (q + 1)) (bv (16 * (q + 1)) D)) := hown8
      have hcv3 := fun cap => CVT.out w8 cap HB8.out
      clear hown8 hgrow8 hnil8 BG HO7 HM7 HB7 HG
      go_wp2
      go_roundw
      case rel => exact ⟨q + 1, gb8, gc8, S, by omega, numEq8 HQ.out, rfl, HSz.out, HTS.out, rfl, HO8.out, HM8.out, HB8.out, hsz8⟩
      case measure => simp [intOf]; omega
    · have g1 : ¬ 16 * (q : Int) < (n : Int) := by omega
      obtain rfl : n = 16 * q := by omega
      obtain ⟨gb7, gc7, ⟨hgb7, hgc7⟩, e7, ho7⟩ := own8_of_own (n := 16 * q) HO.out (by intro e; cases e)
      cases e7
      have HO7 : Hid (Own8 wr gb (16 * q) D) := ho7
      clear ho7 HO HM LW LC LV HD hTS
      go_wp2_with fail
      refine (UP.out _ _ _ hgc7 HO7.out.code).mono ?_
      rintro e w8 ⟨⟨xb, xc, ⟨hxb, hxc⟩, rfl, ho8⟩, hb8⟩
      have HX8 : Hid (Own8 w8 xb sz D) := ho8
      have HB8 : Hid (Below w.heap.size w w8) := HB.out.trans (hb8.mono HB.out.size)
      have hwx : w.heap.size ≤ xb := Nat.le_trans HB.out.size hxb
      have hw8 := HB8.out.size
      clear ho8 hb8 HB UP HO7
      cases r with
      | true =>
        have ec : code = 0 := HCo.out
        subst ec
        go_wp2
        go_ret2
        exact ⟨⟨xb, xc, ⟨hwx, hxc⟩, rfl, HX8.out⟩, HB8.out⟩
      | false =>
        have ec : code = 3 := HCo.out
        subst ec
        have es : sz = 0 := HS0.out rfl
        subst es
        clear HX8
        go_wp2
        go_ret2
        obtain ⟨b3, c3, ⟨hb3, hc3⟩, he3, ho3⟩ := RetB2.made w8 D (.int .i64 3)
        exact ⟨⟨b3, c3, ⟨Nat.le_trans hw8 hb3, hc3⟩, he3, ho3⟩, HB8.out.alloc hw8 _⟩
end Go.Proofs.Ytggnaohigiakeab
