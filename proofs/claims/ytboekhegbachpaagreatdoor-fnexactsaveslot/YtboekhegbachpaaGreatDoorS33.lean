/-
  Texts of the proof, joined: TagS.
-/
import Derived.Test.YtboekhegbachpaaGreatDoorS28
import Derived.Test.YtboekhegbachpaaGreatDoorS18
namespace Go.Proofs.YtboekhegbachpaaGreatDoor
open Go.ChangeShapes Go.WideShapes Go.ChangeAt Go.RowKit
set_option maxRecDepth 100000 in
set_option maxHeartbeats 4000000 in
theorem l04Tag_any (k s : ByteArray) (xb xo m xc b o n c : Nat) (fx f : Nat → Nat) (hs : s.size = 12) (hm : m ≤ 65536) (hn : n ≤ 65536) (hfx : ∀ i, fx i < 256) (hf : ∀ i, f i < 256) (w : World) (hx : Code8 w (some ⟨xb, xo, none⟩) m fx) (hc : Code8 w (some ⟨b, o, none⟩) n f) :
  Calls Tryz.prog 73 #[.string (tagS k), .string s, .slice (some ⟨xb, xo, none⟩) m xc, .slice (some ⟨b, o, none⟩) n c] w fun e w' => e = .returned (.string (tagT k s m fx n f)) ∧ Below w.heap.size w w' := by
 have FO : Hid (∀ w : World, Calls Tryz.prog 64 #[.int .i64 (m : Int)] w fun e w' => e = .returned (.slice (some ⟨w.heap.size, 0, none⟩) 4 4) ∧ Own8 w' w.heap.size 4 (fourF m) ∧ Below w.heap.size w w') := fun w => l02FourB_any m (by omega) w
 have HM : Hid (∀ (b0 c0 b1 c1 : Nat) (w : World), Code8 w (some ⟨b0, 0, none⟩) 32 (strB (tagS k)) → Code8 w (some ⟨b1, 0, none⟩) (16 + m + n) (Sha.cat 16 (numF 12 4 m (strB s)) (Sha.cat m fx f)) → Calls Tryz.prog 83 #[.slice (some ⟨b0, 0, none⟩) 32 c0, .slice (some ⟨b1, 0, none⟩) (16 + m + n) c1] w fun e w' => e = .returned (.string (kstr (macT k s m fx n f) 0 32)) ∧ Below w.heap.size w w') := fun b0 c0 b1 c1 w h0 h1 => l03Hmac_any b0 0 32 c0 b1 0 (16 + m + n) c1 _ _ (strB_lt _) (Sha.cat_lt (numF_lt (strB_lt s)) (Sha.cat_lt hfx hf)) (by omega) (by omega) w h0 h1
 have hex : (kstr (macT k s m fx n f) 0 32).extract 0 16 = tagT k s m fx n f := by
  have := kstr_extract (kstr (macT k s m fx n f) 0 32) 0 16 (by rw [kstr_size]; omega)
  rw [Nat.zero_add] at this
  rw [this]
  exact kstr_congr (fun i hi => by rw [Nat.zero_add, strB_kstr _ 0 32 i (by rw [Nat.zero_add]; exact macT_lt _ _ _ _ _ _ _) (by omega), Nat.zero_add])
 have hms : (kstr (macT k s m fx n f) 0 32).size = 32 := kstr_size _ _ _
 have hks : (tagS k).size = 32 := tagS_size k
 generalize kstr (macT k s m fx n f) 0 32 = MS at *
 generalize tagT k s m fx n f = TT at *
 generalize tagS k = TK at *
 obtain ⟨w1, c1, hcv, hr1, hb1⟩ := bytesOfR s w
 rw [hs] at hcv hr1
 have R1 : Hid (RowM w1 w.heap.size 12 c1 (strB s)) := hr1
 have B1 : Hid (Below w.heap.size w w1) := hb1
 have HX : Hid (Code8 w (some ⟨xb, xo, none⟩) m fx) := hx
 have HC : Hid (Code8 w (some ⟨b, o, none⟩) n f) := hc
 clear hx hc hr1 hb1 hfx hf hs
 go_enter Tryz.func73, Tryz.ntmps73
 go_wp2_with fail
 refine (FO.out _).mono ?_
 rintro e w2 ⟨rfl, ho2, hb2⟩
 have B2 := B1.out.trans (hb2.mono B1.out.size)
 obtain ⟨g3, c3, w3, ha3, hr3, hb3, hg3⟩ := appendM w2 w.heap.size w.heap.size 12 c1 (strB s) w1.heap.size 0 4 4 (fourF m) (Nat.le_refl _) B2.size (by omega) (R1.out.below hb2) ho2.code 84
 have B3 := B2.trans hb3
 obtain ⟨g4, c4, w4, ha4, hr4, hb4, hg4⟩ := appendM w3 w.heap.size g3 (12 + 4) c3 _ xb xo m xc fx hg3 B3.size (by omega) hr3 (HX.out.below B3) 84
 have B4 := B3.trans hb4
 obtain ⟨g5, c5, w5, ha5, hr5, hb5, hg5⟩ := appendM w4 w.heap.size g4 (12 + 4 + m) c4 _ b o n c f hg4 B4.size (by omega) hr4 (HC.out.below B4) 84
 have B5 : Hid (Below w.heap.size w w5) := B4.trans hb5
 obtain ⟨w6, c6, hcv6, hk6, hb6, _⟩ := bytesOfM TK w5
 rw [hks] at hcv6 hk6
 have K6 : Hid (Code8 w6 (some ⟨w5.heap.size, 0, none⟩) 32 (strB TK)) := hk6
 have R6 : Hid (Code8 w6 (some ⟨g5, 0, none⟩) (16 + m + n) (Sha.cat 16 (numF 12 4 m (strB s)) (Sha.cat m fx f))) := (hr5.code.below hb6).congr (fun i hi => by
  unfold Sha.cat
  by_cases h0 : i < 12
  ·rw [if_pos (by omega), if_pos (by omega), if_pos h0, if_pos (by omega)]
   unfold numF
   rw [if_pos h0]
  ·by_cases h1 : i < 16
   ·rw [if_pos (by omega), if_pos (by omega), if_neg h0, if_pos h1]
    have := four_num 12 m (strB s) (i - 12)
    rw [show 12 + (i - 12) = i from by omega] at this
    exact this.symm
   ·rw [if_neg h1]
    by_cases h2 : i < 16 + m
    ·rw [if_pos (by omega), if_neg (by omega), if_pos (by omega)]
    ·rw [if_neg (show ¬ i < 12 + 4 + m by omega), if_neg h1, if_neg (show ¬ i - 16 < m by omega), show i - 16 - m = i - (12 + 4 + m) from by omega])
 have B6 : Hid (Below w.heap.size w w6) := B5.out.trans (hb6.mono B5.out.size)
 have A3 : Hid _ := ha3
 have A4 : Hid _ := ha4
 have A5 : Hid _ := ha5
 clear ho2 hb2 B2 hr3 hb3 hg3 B3 hr4 hb4 hg4 B4 hr5 hb5 hg5 hk6 hb6 ha3 ha4 ha5 HX HC B5 R1 B1 FO
 generalize w5.heap.size = b5 at *
 go_wp2_with (first
  | (at_builtin; refine Lib.wpList_append_run _ rfl (.tmp 11) (.tmp 14) _ _ rfl _ _ rfl rfl _ _ A3.out ?_)
  | (at_builtin; refine Lib.wpList_append_run _ rfl (.tmp 16) (.tmp 17) _ _ rfl _ _ rfl rfl _ _ A4.out ?_)
  | (at_builtin; refine Lib.wpList_append_run _ rfl (.tmp 18) (.tmp 19) _ _ rfl _ _ rfl rfl _ _ A5.out ?_))
 refine (HM.out _ c6 g5 c5 w6 K6.out R6.out).mono ?_
 rintro e w7 ⟨rfl, hb7⟩
 have B7 : Hid (Below w.heap.size w w7) := B6.out.trans (hb7.mono B6.out.size)
 clear hb7 B6 R6 K6 A3 A4 A5 HM
 go_wp2
 go_ret
 exact ⟨rfl, B7.out⟩
end Go.Proofs.YtboekhegbachpaaGreatDoor
