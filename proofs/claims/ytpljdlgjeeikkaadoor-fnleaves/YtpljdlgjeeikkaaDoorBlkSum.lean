/-
  BlockSum of the program and of the model, and its exact law (written by tools/mkblk.py).
-/
import Derived.Test.YtpljdlgjeeikkaaDoorTreeS
namespace Go.Proofs.YtpljdlgjeeikkaaDoor
open Go.ChangeShapes Go.WideShapes Go.ChangeAt Go.RowKit
set_option linter.unusedVariables false
/-- What BlockSum answers. -/
def BsA (p v : Int) (s r : ByteArray) (cd : Int) : Prop :=
  (65536 < s.size ∧ r = ⟨#[]⟩ ∧ cd = 2) ∨ (s.size ≤ 65536 ∧ ¬ ((0 ≤ p ∧ p ≤ 31) ∧ (0 ≤ v ∧ v ≤ 4294967295)) ∧ r = ⟨#[]⟩ ∧ cd = 4) ∨ (s.size ≤ 65536 ∧ ((0 ≤ p ∧ p ≤ 31) ∧ (0 ≤ v ∧ v ≤ 4294967295)) ∧ 200 < s.size ∧ r = ⟨#[]⟩ ∧ cd = 1) ∨ (s.size ≤ 200 ∧ ((0 ≤ p ∧ p ≤ 31) ∧ (0 ≤ v ∧ v ≤ 4294967295)) ∧ r = bsumT p.toNat v.toNat s ∧ cd = 0)
theorem bsA_ex (p v : Int) (s : ByteArray) : ∃ r cd, BsA p v s r cd := by
  by_cases h1 : 65536 < s.size
  · exact ⟨_, _, .inl ⟨h1, rfl, rfl⟩⟩
  · by_cases h2 : (0 ≤ p ∧ p ≤ 31) ∧ (0 ≤ v ∧ v ≤ 4294967295)
    · by_cases h3 : 200 < s.size
      · exact ⟨_, _, .inr (.inr (.inl ⟨by omega, h2, h3, rfl, rfl⟩))⟩
      · exact ⟨_, _, .inr (.inr (.inr ⟨by omega, h2, rfl, rfl⟩))⟩
    · exact ⟨_, _, .inr (.inl ⟨by omega, h2, rfl, rfl⟩)⟩
theorem within_any (x n : Int) (r : Bool) (hr : r = decide (0 ≤ x ∧ x < n)) (w : World) :
    Calls Tryd.prog 25 #[.int .i64 x, .int .i64 n] w fun e w' => e = .returned (.bool r) ∧ w = w' := by
  by_cases h1 : 0 ≤ x
  · by_cases h2 : x < n
    · obtain rfl : r = true := by rw [hr]; simp; omega
      clear hr
      go_enter Tryd.func25, Tryd.ntmps25
      go_wp2
      go_ret
      exact ⟨rfl, rfl⟩
    · obtain rfl : r = false := by rw [hr]; simp; omega
      clear hr
      go_enter Tryd.func25, Tryd.ntmps25
      go_wp2
      go_ret
      exact ⟨rfl, rfl⟩
  · obtain rfl : r = false := by rw [hr]; simp; omega
    clear hr
    go_enter Tryd.func25, Tryd.ntmps25
    go_wp2
    go_ret
    exact ⟨rfl, rfl⟩
theorem block_rowM (w : World) : RowM (w.alloc (.cells #[.int .u8 98, .int .u8 108, .int .u8 111, .int .u8 99, .int .u8 107] 5 (5, 6))) w.heap.size 5 5 (strB blockL) := by
  refine ⟨Nat.le_refl _, fun i hi => ?_, fun i hi => ⟨?_, ?_⟩, by simp⟩
  · rw [World.cell?_alloc_mark]
    rcases (show i = 0 ∨ i = 1 ∨ i = 2 ∨ i = 3 ∨ i = 4 by omega) with rfl | rfl | rfl | rfl | rfl <;> rfl
  · rw [World.cell?_alloc_mark]
    rcases (show i = 0 ∨ i = 1 ∨ i = 2 ∨ i = 3 ∨ i = 4 by omega) with rfl | rfl | rfl | rfl | rfl <;> rfl
  · rw [World.frozen?_alloc_mark]
    simp
    intro h
    omega
set_option maxRecDepth 100000 in
set_option maxHeartbeats 2000000 in
theorem implBs_ok (p v : Nat) (s : ByteArray) (hp : p ≤ 31) (hv : v ≤ 4294967295) (hs : s.size ≤ 200) (w : World) (ht : Tabs w) :
    Calls Tryd.prog 16 #[.int .i64 (p : Int), .int .i64 (v : Int), .string s] w fun e w' => e = .returned (.tuple #[.string (bsumT p v s), .int .i64 0]) ∧ Below w.heap.size w w' := by
  have e1 : ¬ (65536 : Int) < (s.size : Int) := by omega
  have e2 : ¬ (200 : Int) < (s.size : Int) := by omega
  have I1 : Hid (∀ w : World, Calls Tryd.prog 25 #[.int .i64 (p : Int), .int .i64 32] w fun e w' => e = .returned (.bool true) ∧ w = w') := fun w => within_any p 32 true (by simp; omega) w
  have I2 : Hid (∀ w : World, Calls Tryd.prog 37 #[.int .i64 (v : Int)] w fun e w' => e = .returned (.bool true) ∧ w = w') := fun w => isWord_t v true (by simp; omega) w
  have A1 : Hid (∀ (B g c : Nat) (w : World), B ≤ g → B ≤ w.heap.size → RowM w g 5 c (strB blockL) → Calls Tryd.prog 38 #[.slice (some ⟨g, 0, none⟩) 5 c, .int .i64 (p : Int), .int .i64 4] w fun e w' => RetM B w' e 9 (numF 5 4 p (strB blockL)) ∧ Below B w w') := fun B g c w hg hB h => appendNumberM_any B g 5 c p 4 _ (by omega) (by omega) w hg hB h
  have A2 : Hid (∀ (B g c : Nat) (w : World), B ≤ g → B ≤ w.heap.size → RowM w g 9 c (numF 5 4 p (strB blockL)) → Calls Tryd.prog 38 #[.slice (some ⟨g, 0, none⟩) 9 c, .int .i64 (v : Int), .int .i64 4] w fun e w' => RetM B w' e 13 (numF 9 4 v (numF 5 4 p (strB blockL))) ∧ Below B w w') := fun B g c w hg hB h => appendNumberM_any B g 9 c v 4 _ (by omega) (by omega) w hg hB h
  have HH : Hid (∀ (g c : Nat) (w : World), Code8 w (some ⟨g, 0, none⟩) (13 + s.size) (strB (bsumX p v s)) → Tabs w → Calls Tryd.prog 39 #[.slice (some ⟨g, 0, none⟩) (13 + s.size) c] w fun e w' => e = .returned (.string (bsumT p v s)) ∧ Below w.heap.size w w') := fun g c w h ht => by
    have := hashed_any g 0 (13 + s.size) c (strB (bsumX p v s)) (strB_lt _) (by omega) w h ht
    rwa [hashS_text _ _ (bsumX_size p v s)] at this
  have HC : Hid (∀ i, i < 13 + s.size → Sha.cat 13 (numF 9 4 v (numF 5 4 p (strB blockL))) (strB s) i = strB (bsumX p v s) i) := fun i hi => bsumX_is p v s _ (fun _ _ => rfl) i hi
  have T0 : Hid (Tabs w) := ht
  have R1 : Hid (RowM (w.alloc (.cells #[.int .u8 98, .int .u8 108, .int .u8 111, .int .u8 99, .int .u8 107] 5 (5, 6))) w.heap.size 5 5 (strB blockL)) := block_rowM w
  have B1 : Hid (Below w.heap.size w (w.alloc (.cells #[.int .u8 98, .int .u8 108, .int .u8 111, .int .u8 99, .int .u8 107] 5 (5, 6)))) := (Below.refl _ _).alloc (Nat.le_refl _) _
  have cv : (convert 22 22 (.slice (some ⟨w.heap.size, 0, none⟩) 5 5)).run Tryd.prog (w.alloc (.cells #[.int .u8 98, .int .u8 108, .int .u8 111, .int .u8 99, .int .u8 107] 5)) = .ok (.slice (some ⟨w.heap.size, 0, none⟩) 5 5) (w.alloc (.cells #[.int .u8 98, .int .u8 108, .int .u8 111, .int .u8 99, .int .u8 107] 5 (5, 6))) := conv_rowT w #[.int .u8 98, .int .u8 108, .int .u8 111, .int .u8 99, .int .u8 107] 5 5
  generalize bsumT p v s = RT at *
  generalize strB (bsumX p v s) = TX at *
  generalize numF 9 4 v (numF 5 4 p (strB blockL)) = N2 at *
  generalize numF 5 4 p (strB blockL) = N1 at *
  generalize strB blockL = N0 at *
  clear ht hp hv
  go_enter Tryd.func16, Tryd.ntmps16
  go_wp2_with fail
  refine (I1.out _).mono ?_
  rintro e w1 ⟨rfl, rfl⟩
  go_wp2_with fail
  refine (I2.out _).mono ?_
  rintro e w1 ⟨rfl, rfl⟩
  clear I1 I2
  go_wp2_with fail
  generalize (w.alloc (.cells #[.int .u8 98, .int .u8 108, .int .u8 111, .int .u8 99, .int .u8 107] 5 (5, 6))) = v1 at *
  refine (A1.out w.heap.size _ _ _ (Nat.le_refl _) B1.out.size R1.out).mono ?_
  rintro e v2 ⟨⟨g2, c2, rfl, hg2, hr2⟩, hb⟩
  have B2 : Hid (Below w.heap.size w v2) := B1.out.trans hb
  have R2 : Hid (RowM v2 g2 9 c2 N1) := hr2
  have HG2 : Hid (w.heap.size ≤ g2) := hg2
  clear hb hr2 hg2 R1 B1 A1 cv
  go_wp2_with fail
  refine (A2.out w.heap.size _ _ _ HG2.out B2.out.size R2.out).mono ?_
  rintro e v3 ⟨⟨g3, c3, rfl, hg3, hr3⟩, hb⟩
  have B3 : Hid (Below w.heap.size w v3) := B2.out.trans hb
  obtain ⟨g4, c4, v4, hap, hr4, hb4, hg4⟩ := appendMT v3 w.heap.size g3 13 c3 N2 s hg3 B3.out.size (by omega) hr3 22
  have K4 : Hid (Code8 v4 (some ⟨g4, 0, none⟩) (13 + s.size) TX) := (hr4.congr HC.out).code
  have B4 : Hid (Below w.heap.size w v4) := B3.out.trans hb4
  have HAP : Hid _ := hap
  clear hb hr3 hg3 R2 B2 A2 HG2 hr4 hb4 hg4 B3 hap
  go_wp2_with (at_builtin; refine Lib.wpList_append_run _ rfl (.tmp 30) (.tmp 31) _ _ rfl _ _ rfl rfl _ _ HAP.out ?_)
  clear HAP
  refine (HH.out _ _ _ K4.out (T0.out.below B4.out)).mono ?_
  rintro e v5 ⟨rfl, hb⟩
  have B5 : Hid (Below w.heap.size w v5) := B4.out.trans (hb.mono B4.out.size)
  clear hb K4 B4 HH T0 HC
  go_wp2
  go_ret2
  exact ⟨rfl, B5.out⟩
set_option maxRecDepth 100000 in
set_option maxHeartbeats 2000000 in
theorem implBs_any (p v : Int) (s r : ByteArray) (cd : Int) (h : BsA p v s r cd) (w : World) (ht : Tabs w) :
    Calls Tryd.prog 16 #[.int .i64 p, .int .i64 v, .string s] w fun e w' => e = .returned (.tuple #[.string r, .int .i64 cd]) ∧ Below w.heap.size w w' := by
  rcases h with ⟨h1, rfl, rfl⟩ | ⟨h1, h2, rfl, rfl⟩ | ⟨h1, ⟨⟨p0, p1⟩, v0, v1⟩, h3, rfl, rfl⟩ | ⟨h1, ⟨⟨p0, p1⟩, v0, v1⟩, rfl, rfl⟩
  · have e1 : (65536 : Int) < (s.size : Int) := by omega
    clear h1 ht
    go_enter Tryd.func16, Tryd.ntmps16
    go_wp2
    go_ret2
    exact ⟨rfl, Below.refl _ _⟩
  · have e1 : ¬ (65536 : Int) < (s.size : Int) := by omega
    by_cases g1 : 0 ≤ p ∧ p ≤ 31
    · have I1 : Hid (∀ w : World, Calls Tryd.prog 25 #[.int .i64 p, .int .i64 32] w fun e w' => e = .returned (.bool true) ∧ w = w') := fun w => within_any p 32 true (by simp; omega) w
      have I2 : Hid (∀ w : World, Calls Tryd.prog 37 #[.int .i64 v] w fun e w' => e = .returned (.bool false) ∧ w = w') := fun w => isWord_t v false (by simp; omega) w
      clear g1 h2 h1 ht
      go_enter Tryd.func16, Tryd.ntmps16
      go_wp2_with fail
      refine (I1.out _).mono ?_
      rintro e w1 ⟨rfl, rfl⟩
      go_wp2_with fail
      refine (I2.out _).mono ?_
      rintro e w1 ⟨rfl, rfl⟩
      go_wp2
      go_ret2
      exact ⟨rfl, Below.refl _ _⟩
    · have I1 : Hid (∀ w : World, Calls Tryd.prog 25 #[.int .i64 p, .int .i64 32] w fun e w' => e = .returned (.bool false) ∧ w = w') := fun w => within_any p 32 false (by simp; omega) w
      clear g1 h2 h1 ht
      go_enter Tryd.func16, Tryd.ntmps16
      go_wp2_with fail
      refine (I1.out _).mono ?_
      rintro e w1 ⟨rfl, rfl⟩
      go_wp2
      go_ret2
      exact ⟨rfl, Below.refl _ _⟩
  · have e1 : ¬ (65536 : Int) < (s.size : Int) := by omega
    have e2 : (200 : Int) < (s.size : Int) := by omega
    have I1 : Hid (∀ w : World, Calls Tryd.prog 25 #[.int .i64 p, .int .i64 32] w fun e w' => e = .returned (.bool true) ∧ w = w') := fun w => within_any p 32 true (by simp; omega) w
    have I2 : Hid (∀ w : World, Calls Tryd.prog 37 #[.int .i64 v] w fun e w' => e = .returned (.bool true) ∧ w = w') := fun w => isWord_t v true (by simp; omega) w
    clear h1 h3 ht p0 p1 v0 v1
    go_enter Tryd.func16, Tryd.ntmps16
    go_wp2_with fail
    refine (I1.out _).mono ?_
    rintro e w1 ⟨rfl, rfl⟩
    go_wp2_with fail
    refine (I2.out _).mono ?_
    rintro e w1 ⟨rfl, rfl⟩
    go_wp2
    go_ret2
    exact ⟨rfl, Below.refl _ _⟩
  · obtain ⟨p, rfl⟩ : ∃ n : Nat, p = (n : Int) := ⟨p.toNat, by omega⟩
    obtain ⟨v, rfl⟩ : ∃ n : Nat, v = (n : Int) := ⟨v.toNat, by omega⟩
    rw [Int.toNat_natCast, Int.toNat_natCast]
    exact implBs_ok p v s (by omega) (by omega) h1 w ht
set_option maxRecDepth 100000 in
set_option maxHeartbeats 4000000 in
theorem l10Sum_any (p v : Nat) (s : ByteArray) (hp : p < 4294967296) (hv : v < 4294967296) (hs : s.size ≤ 200) (w : World) :
    Calls Tryd.prog 40 #[.int .i64 (p : Int), .int .i64 (v : Int), .string s] w fun e w' => e = .returned (.string (bsumT p v s)) ∧ Below w.heap.size w w' := by
  have TX : Hid (⟨#[98, 108, 111, 99, 107]⟩ ++ kstr (fourF p) 0 4 ++ kstr (fourF v) 0 4 ++ s = bsumX p v s) := rfl
  have TZ : Hid ((bsumX p v s).size = 13 + s.size) := bsumX_size p v s
  have HH : Hid (∀ (g c : Nat) (w : World), Code8 w (some ⟨g, 0, none⟩) (13 + s.size) (strB (bsumX p v s)) → Calls Tryd.prog 35 #[.slice (some ⟨g, 0, none⟩) (13 + s.size) c] w fun e w' => e = .returned (.string (bsumT p v s)) ∧ Below w.heap.size w w') := fun g c w h => by
    have := l03Hash_any g 0 (13 + s.size) c (strB (bsumX p v s)) (strB_lt _) (by omega) w h
    rwa [hashS_text _ _ (bsumX_size p v s)] at this
  have FP : Hid (∀ w : World, Calls Tryd.prog 55 #[.int .i64 (p : Int)] w fun e w' => (e = .returned (.slice (some ⟨w.heap.size, 0, none⟩) 4 4) ∧ Own8 w' w.heap.size 4 (fourF p)) ∧ Below w.heap.size w w') := fun w => (l02FourB_any p hp w).mono fun e w' h => ⟨⟨h.1, h.2.1⟩, h.2.2⟩
  have FV : Hid (∀ w : World, Calls Tryd.prog 55 #[.int .i64 (v : Int)] w fun e w' => (e = .returned (.slice (some ⟨w.heap.size, 0, none⟩) 4 4) ∧ Own8 w' w.heap.size 4 (fourF v)) ∧ Below w.heap.size w w') := fun w => (l02FourB_any v hv w).mono fun e w' h => ⟨⟨h.1, h.2.1⟩, h.2.2⟩
  generalize bsumT p v s = RT at *
  generalize bsumX p v s = TT at *
  obtain ⟨N, hN⟩ : ∃ N, N = 13 + s.size := ⟨_, rfl⟩
  rw [← hN] at TZ HH
  have z4 : (kstr (fourF p) 0 4).size = 4 := kstr_size _ _ _
  have z5 : (kstr (fourF v) 0 4).size = 4 := kstr_size _ _ _
  generalize hS4 : kstr (fourF p) 0 4 = S4 at *
  generalize hS5 : kstr (fourF v) 0 4 = S5 at *
  have H4 : Hid (kstr (fourF p) 0 4 = S4) := hS4
  have H5 : Hid (kstr (fourF v) 0 4 = S5) := hS5
  obtain ⟨Z0, hZ0⟩ : ∃ Z : ByteArray, (⟨#[98, 108, 111, 99, 107]⟩ : ByteArray) = Z := ⟨_, rfl⟩
  rw [hZ0] at TX
  have z0 : Z0.size = 5 := by rw [← hZ0]; rfl
  clear hS4 hS5 hp hv hN
  go_enter Tryd.func40, Tryd.ntmps40
  go_upto_region 1 with fail
  have H : Below w.heap.size w w.drew := (Below.refl _ _).drew
  refine wp_region_noPanic ?_
  refine wp_region_held_drew (S := fun w' => (Below w.heap.size w w')) (by kernel_rfl) H (fun _ => ?_)
  generalize w.drew = y0 at *
  refine wpAnyH_take (i := 0) (v := .int .i64 (p : Int)) rfl (by kernel_rfl) (by kernel_rfl) (by kernel_rfl) (fun _ _ _ h => h) (Or.inl ⟨by rfl, ?_⟩) H ?_
  · intro w' hSw; go_simp
  change wpAnyH _ _ _ _ _ _ _ { tmps := #[_, _, _, _, _, _, _, _, _, _, _, _, _, _, _, _, _, _, _], defers := _ } _
  refine wpAnyH_take (i := 4) (v := .int .i64 (v : Int)) rfl (by kernel_rfl) (by kernel_rfl) (by kernel_rfl) (fun _ _ _ h => h) (Or.inl ⟨by rfl, ?_⟩) H ?_
  · intro w' hSw; go_simp
  change wpAnyH _ _ _ _ _ _ _ { tmps := #[_, _, _, _, _, _, _, _, _, _, _, _, _, _, _, _, _, _, _], defers := _ } _
  refine wpAnyH_take (i := 8) (v := .string s) rfl (by kernel_rfl) (by kernel_rfl) (by kernel_rfl) (fun _ _ _ h => h) (Or.inl ⟨by rfl, ?_⟩) H ?_
  · intro w' hSw; go_simp
  change wpAnyH _ _ _ _ _ _ _ { tmps := #[_, _, _, _, _, _, _, _, _, _, _, _, _, _, _, _, _, _, _], defers := _ } _
  refine wpAnyH_ready (rs := [1]) (by kernel_rfl) (by simp) ?_
  refine AllReadyH.cons rfl (fun KK hK => ?_) AllReadyH.nil
  go_simp
  refine (FP.out _).mono ?_
  rintro e y1 ⟨⟨rfl, ho⟩, hb⟩
  replace H : (Below w.heap.size w y1) := (H).trans (hb.mono (H).size)
  have CF : Hid (Code8 y1 (some ⟨y0.heap.size, 0, none⟩) 4 (fourF p)) := ho.code
  obtain ⟨fp, hfb⟩ : ∃ x, x = y0.heap.size := ⟨_, rfl⟩
  rw [← hfb] at CF ⊢
  clear hb ho hfb
  refine hK.out _ _ H (fun _ => ?_)
  clear hK KK
  change wpAnyH _ _ _ _ _ _ _ { tmps := #[_, _, _, _, _, _, _, _, _, _, _, _, _, _, _, _, _, _, _], defers := _ } _
  refine wpAnyH_strong (S' := fun w' => (Code8 w' (some ⟨fp, 0, none⟩) 4 (fourF p)) ∧ (Below w.heap.size w w')) (fun _ h => h.2) _ _ _ _ ?_
  replace H : (Code8 y1 (some ⟨fp, 0, none⟩) 4 (fourF p)) ∧ (Below w.heap.size w y1) := ⟨CF.out, H⟩
  clear CF
  refine wpAnyH_take (i := 2) (v := .string S4) rfl (by kernel_rfl) (by kernel_rfl) (by kernel_rfl) (fun _ _ _ h => h) (Or.inl ⟨by rfl, ?_⟩) H ?_
  · intro w' hSw; have q0 := kstr_of_code (c := 4) hSw.1; rw [H4.out] at q0; clear hSw; go_simp
  change wpAnyH _ _ _ _ _ _ _ { tmps := #[_, _, _, _, _, _, _, _, _, _, _, _, _, _, _, _, _, _, _], defers := _ } _
  refine wpAnyH_take (i := 3) (v := .string (Z0 ++ S4)) rfl (by kernel_rfl) (by kernel_rfl) (by kernel_rfl) (fun _ _ _ h => h) (Or.inl ⟨by rfl, ?_⟩) H ?_
  · intro w' hSw; go_simp
  change wpAnyH _ _ _ _ _ _ _ { tmps := #[_, _, _, _, _, _, _, _, _, _, _, _, _, _, _, _, _, _, _], defers := _ } _
  refine wpAnyH_ready (rs := [5]) (by kernel_rfl) (by simp) ?_
  refine AllReadyH.cons rfl (fun KK hK => ?_) AllReadyH.nil
  go_simp
  refine (FV.out _).mono ?_
  rintro e y2 ⟨⟨rfl, ho⟩, hb⟩
  replace H : (Code8 y2 (some ⟨fp, 0, none⟩) 4 (fourF p)) ∧ (Below w.heap.size w y2) := ⟨(H.1).below hb, (H.2).trans (hb.mono (H.2).size)⟩
  have CF : Hid (Code8 y2 (some ⟨y1.heap.size, 0, none⟩) 4 (fourF v)) := ho.code
  obtain ⟨fv, hfb⟩ : ∃ x, x = y1.heap.size := ⟨_, rfl⟩
  rw [← hfb] at CF ⊢
  clear hb ho hfb
  refine hK.out _ _ H (fun _ => ?_)
  clear hK KK
  change wpAnyH _ _ _ _ _ _ _ { tmps := #[_, _, _, _, _, _, _, _, _, _, _, _, _, _, _, _, _, _, _], defers := _ } _
  refine wpAnyH_strong (S' := fun w' => (Code8 w' (some ⟨fv, 0, none⟩) 4 (fourF v)) ∧ (Code8 w' (some ⟨fp, 0, none⟩) 4 (fourF p)) ∧ (Below w.heap.size w w')) (fun _ h => h.2) _ _ _ _ ?_
  replace H : (Code8 y2 (some ⟨fv, 0, none⟩) 4 (fourF v)) ∧ (Code8 y2 (some ⟨fp, 0, none⟩) 4 (fourF p)) ∧ (Below w.heap.size w y2) := ⟨CF.out, H⟩
  clear CF
  refine wpAnyH_take (i := 6) (v := .string S5) rfl (by kernel_rfl) (by kernel_rfl) (by kernel_rfl) (fun _ _ _ h => h) (Or.inl ⟨by rfl, ?_⟩) H ?_
  · intro w' hSw; have q0 := kstr_of_code (c := 4) hSw.1; rw [H5.out] at q0; clear hSw; go_simp
  change wpAnyH _ _ _ _ _ _ _ { tmps := #[_, _, _, _, _, _, _, _, _, _, _, _, _, _, _, _, _, _, _], defers := _ } _
  refine wpAnyH_take (i := 7) (v := .string (Z0 ++ S4 ++ S5)) rfl (by kernel_rfl) (by kernel_rfl) (by kernel_rfl) (fun _ _ _ h => h) (Or.inl ⟨by rfl, ?_⟩) H ?_
  · intro w' hSw; go_simp
  change wpAnyH _ _ _ _ _ _ _ { tmps := #[_, _, _, _, _, _, _, _, _, _, _, _, _, _, _, _, _, _, _], defers := _ } _
  refine wpAnyH_take (i := 9) (v := .string TT) rfl (by kernel_rfl) (by kernel_rfl) (by kernel_rfl) (fun _ _ _ h => h) (Or.inl ⟨by rfl, ?_⟩) H ?_
  · intro w' hSw; have q1 := TX.out; have q2 : 13 + s.size ≤ 9223372036854775807 := by omega
    clear hSw; go_simp
  change wpAnyH _ _ _ _ _ _ _ { tmps := #[_, _, _, _, _, _, _, _, _, _, _, _, _, _, _, _, _, _, _], defers := _ } _
  refine wpAnyH_ready (rs := [10]) (by kernel_rfl) (by simp) ?_
  refine AllReadyH.cons rfl (fun KK hK => ?_) AllReadyH.nil
  obtain ⟨y3, tc, hcv, hx, hb⟩ := bytesOfR TT y2
  rw [TZ.out] at hcv hx
  go_simp
  replace H : (Code8 y3 (some ⟨fv, 0, none⟩) 4 (fourF v)) ∧ (Code8 y3 (some ⟨fp, 0, none⟩) 4 (fourF p)) ∧ (Below w.heap.size w y3) := ⟨(H.1).below hb, (H.2.1).below hb, (H.2.2).trans (hb.mono (H.2.2).size)⟩
  have CT : Hid (Code8 y3 (some ⟨y2.heap.size, 0, none⟩) N (strB TT)) := hx.code
  obtain ⟨tb, htb⟩ : ∃ x, x = y2.heap.size := ⟨_, rfl⟩
  rw [← htb] at CT ⊢
  clear hcv hx hb htb
  refine hK.out _ _ H (fun _ => ?_)
  clear hK KK
  change wpAnyH _ _ _ _ _ _ _ { tmps := #[_, _, _, _, _, _, _, _, _, _, _, _, _, _, _, _, _, _, _], defers := _ } _
  refine wpAnyH_ready (rs := [11]) (by kernel_rfl) (by simp) ?_
  refine AllReadyH.cons rfl (fun KK hK => ?_) AllReadyH.nil
  go_simp
  refine (HH.out tb _ _ CT.out).mono ?_
  rintro e y4 ⟨rfl, hb⟩
  replace H : (Code8 y4 (some ⟨fv, 0, none⟩) 4 (fourF v)) ∧ (Code8 y4 (some ⟨fp, 0, none⟩) 4 (fourF p)) ∧ (Below w.heap.size w y4) := ⟨(H.1).below hb, (H.2.1).below hb, (H.2.2).trans (hb.mono (H.2.2).size)⟩
  clear hb 
  refine hK.out _ _ H (fun _ => ?_)
  clear hK KK
  change wpAnyH _ _ _ _ _ _ _ { tmps := #[_, _, _, _, _, _, _, _, _, _, _, _, _, _, _, _, _, _, _], defers := _ } _
  refine wpAnyH_take (i := 12) (v := .string RT) rfl (by kernel_rfl) (by kernel_rfl) (by kernel_rfl) (fun _ _ _ h => h) (Or.inl ⟨by rfl, ?_⟩) H ?_
  · intro w' hSw; go_simp
  change wpAnyH _ _ _ _ _ _ _ { tmps := #[_, _, _, _, _, _, _, _, _, _, _, _, _, _, _, _, _, _, _], defers := _ } _
  refine wpAnyH_done (by kernel_rfl) ?_ _
  refine NoPanic.normal ?_
  have B2 : Hid (Below w.heap.size w y4) := H.2.2
  clear H CT HH FP FV TX TZ H4 H5 hZ0
  go_wp2
  go_ret
  exact ⟨rfl, B2.out⟩
set_option maxRecDepth 100000 in
set_option maxHeartbeats 2000000 in
theorem specBs_any (p v : Int) (s r : ByteArray) (cd : Int) (h : BsA p v s r cd) (w : World) :
    Calls Tryd.prog 17 #[.int .i64 p, .int .i64 v, .string s] w fun e w' => e = .returned (.tuple #[.string r, .int .i64 cd]) ∧ Below w.heap.size w w' := by
  rcases h with ⟨h1, rfl, rfl⟩ | ⟨h1, h2, rfl, rfl⟩ | ⟨h1, ⟨⟨p0, p1⟩, v0, v1⟩, h3, rfl, rfl⟩ | ⟨h1, ⟨⟨p0, p1⟩, v0, v1⟩, hr, rfl⟩
  · have e1 : (65536 : Int) < (s.size : Int) := by omega
    clear h1
    go_enter Tryd.func17, Tryd.ntmps17
    go_wp2
    go_ret2
    exact ⟨rfl, Below.refl _ _⟩
  · have e1 : ¬ (65536 : Int) < (s.size : Int) := by omega
    by_cases g1 : 0 ≤ p ∧ p ≤ 31
    · have I1 : Hid (∀ w : World, Calls Tryd.prog 27 #[.int .i64 p, .int .i64 0, .int .i64 31] w fun e w' => e = .returned (.bool true) ∧ w = w') := fun w => in_any p 0 31 true (by simp; omega) w
      have I2 : Hid (∀ w : World, Calls Tryd.prog 27 #[.int .i64 v, .int .i64 0, .int .i64 4294967295] w fun e w' => e = .returned (.bool false) ∧ w = w') := fun w => in_any v 0 4294967295 false (by simp; omega) w
      clear g1 h2 h1
      go_enter Tryd.func17, Tryd.ntmps17
      go_wp2_with fail
      refine (I1.out _).mono ?_
      rintro e w1 ⟨rfl, rfl⟩
      go_wp2_with fail
      refine (I2.out _).mono ?_
      rintro e w1 ⟨rfl, rfl⟩
      go_wp2
      go_ret2
      exact ⟨rfl, Below.refl _ _⟩
    · have I1 : Hid (∀ w : World, Calls Tryd.prog 27 #[.int .i64 p, .int .i64 0, .int .i64 31] w fun e w' => e = .returned (.bool false) ∧ w = w') := fun w => in_any p 0 31 false (by simp; omega) w
      clear g1 h2 h1
      go_enter Tryd.func17, Tryd.ntmps17
      go_wp2_with fail
      refine (I1.out _).mono ?_
      rintro e w1 ⟨rfl, rfl⟩
      go_wp2
      go_ret2
      exact ⟨rfl, Below.refl _ _⟩
  · have e1 : ¬ (65536 : Int) < (s.size : Int) := by omega
    have e2 : (200 : Int) < (s.size : Int) := by omega
    have I1 : Hid (∀ w : World, Calls Tryd.prog 27 #[.int .i64 p, .int .i64 0, .int .i64 31] w fun e w' => e = .returned (.bool true) ∧ w = w') := fun w => in_any p 0 31 true (by simp; omega) w
    have I2 : Hid (∀ w : World, Calls Tryd.prog 27 #[.int .i64 v, .int .i64 0, .int .i64 4294967295] w fun e w' => e = .returned (.bool true) ∧ w = w') := fun w => in_any v 0 4294967295 true (by simp; omega) w
    clear h1 h3 p0 p1 v0 v1
    go_enter Tryd.func17, Tryd.ntmps17
    go_wp2_with fail
    refine (I1.out _).mono ?_
    rintro e w1 ⟨rfl, rfl⟩
    go_wp2_with fail
    refine (I2.out _).mono ?_
    rintro e w1 ⟨rfl, rfl⟩
    go_wp2
    go_ret2
    exact ⟨rfl, Below.refl _ _⟩
  · obtain ⟨p, rfl⟩ : ∃ n : Nat, p = (n : Int) := ⟨p.toNat, by omega⟩
    obtain ⟨v, rfl⟩ : ∃ n : Nat, v = (n : Int) := ⟨v.toNat, by omega⟩
    rw [Int.toNat_natCast, Int.toNat_natCast] at hr
    have e1 : ¬ (65536 : Int) < (s.size : Int) := by omega
    have e2 : ¬ (200 : Int) < (s.size : Int) := by omega
    have I1 : Hid (∀ w : World, Calls Tryd.prog 27 #[.int .i64 (p : Int), .int .i64 0, .int .i64 31] w fun e w' => e = .returned (.bool true) ∧ w = w') := fun w => in_any p 0 31 true (by simp; omega) w
    have I2 : Hid (∀ w : World, Calls Tryd.prog 27 #[.int .i64 (v : Int), .int .i64 0, .int .i64 4294967295] w fun e w' => e = .returned (.bool true) ∧ w = w') := fun w => in_any v 0 4294967295 true (by simp; omega) w
    have SU : Hid (∀ w : World, Calls Tryd.prog 40 #[.int .i64 (p : Int), .int .i64 (v : Int), .string s] w fun e w' => e = .returned (.string r) ∧ Below w.heap.size w w') := fun w => by rw [hr]; exact l10Sum_any p v s (by omega) (by omega) h1 w
    clear h1 hr p0 p1 v0 v1
    go_enter Tryd.func17, Tryd.ntmps17
    go_wp2_with fail
    refine (I1.out _).mono ?_
    rintro e w1 ⟨rfl, rfl⟩
    go_wp2_with fail
    refine (I2.out _).mono ?_
    rintro e w1 ⟨rfl, rfl⟩
    go_wp2_with fail
    refine (SU.out _).mono ?_
    rintro e w1 ⟨rfl, hb⟩
    have B1 : Hid (Below w.heap.size w w1) := hb
    clear hb SU I1 I2
    go_wp2
    go_ret2
    exact ⟨rfl, B1.out⟩
end Go.Proofs.YtpljdlgjeeikkaaDoor
