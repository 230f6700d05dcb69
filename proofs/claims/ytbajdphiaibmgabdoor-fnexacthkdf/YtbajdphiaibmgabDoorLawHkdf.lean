/-
  The exact law of Hkdf; its contracts.
-/
import Derived.Test.YtbajdphiaibmgabDoorLawExpand
import Derived.Test.YtbajdphiaibmgabDoorOfHkdf
namespace Go.Proofs.YtbajdphiaibmgabDoor
open Go.ChangeShapes Go.WideShapes Go.ChangeAt Go.RowKit
theorem implHkdf_no (v0 v1 v2 : Value) (n code : Int) (hc : code ≠ 0) (w : World) (h : Calls Tryd.prog 16 #[v0, v1] w fun e w' => e = .returned (.tuple #[.string ⟨#[]⟩, .int .i64 code]) ∧ Below w.heap.size w w') :
    Calls Tryd.prog 10 #[v0, v1, v2, .int .i64 n] w fun e w' => e = .returned (.tuple #[.string ⟨#[]⟩, .int .i64 code]) ∧ Below w.heap.size w w' := by
  have HM : Hid (Calls Tryd.prog 16 #[v0, v1] w fun e w' => e = .returned (.tuple #[.string ⟨#[]⟩, .int .i64 code]) ∧ Below w.heap.size w w') := h
  have e1 : (code != 0) = true := by rw [bne_iff_ne]; exact hc
  clear h
  go_enter Tryd.func10, Tryd.ntmps10
  go_wp2_with fail
  refine HM.out.mono ?_
  rintro e w1 ⟨rfl, hb⟩
  have B1 : Hid (Below w.heap.size w w1) := hb
  clear hb
  go_wp2
  go_ret2
  exact ⟨rfl, B1.out⟩
theorem implHkdf_go (v0 v1 v2 : Value) (n code : Int) (k g : ByteArray) (w : World) (h : Calls Tryd.prog 16 #[v0, v1] w fun e w' => e = .returned (.tuple #[.string k, .int .i64 0]) ∧ Below w.heap.size w w')
    (h2 : ∀ w' : World, Below w.heap.size w w' → Calls Tryd.prog 7 #[.string k, v2, .int .i64 n] w' fun e w'' => e = .returned (.tuple #[.string g, .int .i64 code]) ∧ Below w'.heap.size w' w'') :
    Calls Tryd.prog 10 #[v0, v1, v2, .int .i64 n] w fun e w' => e = .returned (.tuple #[.string g, .int .i64 code]) ∧ Below w.heap.size w w' := by
  have HM : Hid (Calls Tryd.prog 16 #[v0, v1] w fun e w' => e = .returned (.tuple #[.string k, .int .i64 0]) ∧ Below w.heap.size w w') := h
  have HX : Hid (∀ w' : World, Below w.heap.size w w' → Calls Tryd.prog 7 #[.string k, v2, .int .i64 n] w' fun e w'' => e = .returned (.tuple #[.string g, .int .i64 code]) ∧ Below w'.heap.size w' w'') := h2
  clear h h2
  go_enter Tryd.func10, Tryd.ntmps10
  go_wp2_with fail
  refine HM.out.mono ?_
  rintro e w1 ⟨rfl, hb⟩
  have B1 : Hid (Below w.heap.size w w1) := hb
  clear hb
  go_wp2_with fail
  refine (HX.out _ B1.out).mono ?_
  rintro e w2 ⟨rfl, hb⟩
  have B2 : Hid (Below w.heap.size w w2) := B1.out.trans (hb.mono B1.out.size)
  clear hb B1
  go_wp2
  go_ret2
  exact ⟨rfl, B2.out⟩
theorem specHkdf_long (a0 a1 a2 : Option Addr) (n0 c0 n1 c1 n2 c2 : Nat) (n : Int) (h : 65536 < n0 ∨ 65536 < n1 ∨ 65536 < n2) (w : World) :
    Calls Tryd.prog 9 #[.slice a0 n0 c0, .slice a1 n1 c1, .slice a2 n2 c2, .int .i64 n] w fun e w' => e = .returned (.tuple #[.string ⟨#[]⟩, .int .i64 2]) ∧ Below w.heap.size w w' := by
  by_cases h0 : 65536 < n0
  · have e1 : (65536 : Int) < n0 := by omega
    go_enter Tryd.func9, Tryd.ntmps9
    go_wp2
    go_ret2
    exact ⟨rfl, Below.refl _ _⟩
  · have e1 : ¬ (65536 : Int) < n0 := by omega
    by_cases h1 : 65536 < n1
    · have e3 : (65536 : Int) < n1 := by omega
      go_enter Tryd.func9, Tryd.ntmps9
      go_wp2
      go_ret2
      exact ⟨rfl, Below.refl _ _⟩
    · have e3 : ¬ (65536 : Int) < n1 := by omega
      have e4 : (65536 : Int) < n2 := by omega
      go_enter Tryd.func9, Tryd.ntmps9
      go_wp2
      go_ret2
      exact ⟨rfl, Below.refl _ _⟩
theorem specHkdf_range (a0 a1 a2 : Option Addr) (n0 c0 n1 c1 n2 c2 : Nat) (n : Int) (h0 : n0 ≤ 65536) (h1 : n1 ≤ 65536) (h2 : n2 ≤ 65536) (h : n < 0 ∨ 8160 < n) (w : World) :
    Calls Tryd.prog 9 #[.slice a0 n0 c0, .slice a1 n1 c1, .slice a2 n2 c2, .int .i64 n] w fun e w' => e = .returned (.tuple #[.string ⟨#[]⟩, .int .i64 4]) ∧ Below w.heap.size w w' := by
  have e1 : ¬ (65536 : Int) < n0 := by omega
  have e2 : ¬ (65536 : Int) < n1 := by omega
  have e3 : ¬ (65536 : Int) < n2 := by omega
  have LI : Hid (∀ w : World, Calls Tryd.prog 11 #[.int .i64 n, .int .i64 0, .int .i64 8160] w fun e w' => e = .returned (.bool false) ∧ w = w') := l01In_any n 0 8160 false (by simp; omega)
  clear h
  go_enter Tryd.func9, Tryd.ntmps9
  go_wp2_with (go_at_call 11; refine (LI.out _).mono ?_; rintro e w' ⟨rfl, rfl⟩)
  go_ret2
  exact ⟨rfl, Below.refl _ _⟩
theorem specHkdf_yes (b0 o0 n0 c0 b1 o1 n1 c1 b2 o2 n2 c2 n : Nat) (f0 f1 f2 : Nat → Nat) (hf0 : ∀ i, f0 i < 256) (hf1 : ∀ i, f1 i < 256) (hf2 : ∀ i, f2 i < 256) (h0 : n0 ≤ 65536) (h1 : n1 ≤ 65536) (h2 : n2 ≤ 65536) (hn : n ≤ 8160) (w : World) (k0 : Code8 w (some ⟨b0, o0, none⟩) n0 f0) (k1 : Code8 w (some ⟨b1, o1, none⟩) n1 f1) (k2 : Code8 w (some ⟨b2, o2, none⟩) n2 f2) :
    Calls Tryd.prog 9 #[.slice (some ⟨b0, o0, none⟩) n0 c0, .slice (some ⟨b1, o1, none⟩) n1 c1, .slice (some ⟨b2, o2, none⟩) n2 c2, .int .i64 (n : Int)] w fun e w' => e = .returned (.tuple #[.string (drawS (macS n0 f0 n1 f1) n2 f2 n), .int .i64 0]) ∧ Below w.heap.size w w' := by
  have e1 : ¬ (65536 : Int) < n0 := by omega
  have e2 : ¬ (65536 : Int) < n1 := by omega
  have e3 : ¬ (65536 : Int) < n2 := by omega
  have LI : Hid (∀ w : World, Calls Tryd.prog 11 #[.int .i64 (n : Int), .int .i64 0, .int .i64 8160] w fun e w' => e = .returned (.bool true) ∧ w = w') := l01In_any n 0 8160 true (by simp; omega)
  have MC : Hid (Calls Tryd.prog 15 #[.slice (some ⟨b0, o0, none⟩) n0 c0, .slice (some ⟨b1, o1, none⟩) n1 c1] w fun e w' => e = .returned (.string (macS n0 f0 n1 f1)) ∧ Below w.heap.size w w') := l03Hmac_any b0 o0 n0 c0 b1 o1 n1 c1 f0 f1 hf0 hf1 (by omega) (by omega) w k0 k1
  have EX : Hid (∀ w : World, Code8 w (some ⟨b2, o2, none⟩) n2 f2 → Calls Tryd.prog 12 #[.string (macS n0 f0 n1 f1), .slice (some ⟨b2, o2, none⟩) n2 c2, .int .i64 (n : Int)] w fun e w' => e = .returned (.string (drawS (macS n0 f0 n1 f1) n2 f2 n)) ∧ Below w.heap.size w w') := fun w h => l03Expand_any _ (by rw [macS_size]; omega) b2 o2 n2 c2 n f2 hf2 h2 hn w h
  have HC : Hid (Code8 w (some ⟨b2, o2, none⟩) n2 f2) := k2
  generalize drawS (macS n0 f0 n1 f1) n2 f2 n = X at *
  generalize macS n0 f0 n1 f1 = KS at *
  clear k0 k1 k2 hf0 hf1 hf2
  go_enter Tryd.func9, Tryd.ntmps9
  go_wp2_with (go_at_call 11; refine (LI.out _).mono ?_; rintro e w' ⟨rfl, rfl⟩)
  refine MC.out.mono ?_
  rintro e w1 ⟨rfl, hb⟩
  have B1 : Hid (Below w.heap.size w w1) := hb
  clear hb
  go_wp2_with fail
  refine (EX.out _ (HC.out.below B1.out)).mono ?_
  rintro e w2 ⟨rfl, hb⟩
  have B2 : Hid (Below w.heap.size w w2) := B1.out.trans (hb.mono B1.out.size)
  clear hb B1
  go_wp2
  go_ret2
  exact ⟨rfl, B2.out⟩
theorem law_hkdf (a0 a1 a2 : Option Addr) (N0 C0 N1 C1 N2 C2 : Nat) (z0 z1 z2 : List Int) (n : Int) (w : World) (r0 : IsRow .u8 w a0 N0 C0 z0) (r1 : IsRow .u8 w a1 N1 C1 z1) (r2 : IsRow .u8 w a2 N2 C2 z2) (ht : Tabs w) :
    Calls Tryd.prog 4 #[.slice a0 N0 C0, .slice a1 N1 C1, .slice a2 N2 C2, .int .i64 n] w fun e w' => e = .returned (.bool true) ∧ Below w.heap.size w w' := by
  by_cases h0 : N0 ≤ 1048576 ∧ N1 ≤ 1048576 ∧ N2 ≤ 1048576
  · obtain ⟨h0, h1, h2⟩ := h0
    obtain ⟨f0, hf0, hc0⟩ := code8_of_row r0
    obtain ⟨f1, hf1, hc1⟩ := code8_of_row r1
    obtain ⟨f2, hf2, hc2⟩ := code8_of_row r2
    by_cases hl : 65536 < N0 ∨ 65536 < N1
    · exact lawHkdf_of a0 N0 C0 f0 a1 N1 C1 f1 a2 N2 C2 f2 n ⟨#[]⟩ 2 h0 h1 h2 (fun b0 b1 b2 w _ _ _ => specHkdf_long _ _ _ N0 N0 N1 N1 N2 N2 n (by omega) w) (fun b0 b1 b2 w _ _ _ _ => implHkdf_no _ _ _ n 2 (by omega) w (implExtract_of _ _ _ rfl _ _ w (implHmac_long _ _ N0 N1 N0 N1 hl w))) w hc0 hc1 hc2 ht
    · have EXT : ∀ (b0 b1 : Nat) (w : World), Code8 w (some ⟨b0, 0, none⟩) N0 f0 → Code8 w (some ⟨b1, 0, none⟩) N1 f1 → Tabs w → Calls Tryd.prog 16 #[.slice (some ⟨b0, 0, none⟩) N0 N0, .slice (some ⟨b1, 0, none⟩) N1 N1] w fun e w' => e = .returned (.tuple #[.string (macS N0 f0 N1 f1), .int .i64 0]) ∧ Below w.heap.size w w' := fun b0 b1 w k0 k1 kt => implExtract_of _ _ _ rfl _ _ w (implHmac_yes b0 0 N0 N0 b1 0 N1 N1 f0 f1 hf0 hf1 (by omega) (by omega) w k0 k1 kt)
      have hms : (macS N0 f0 N1 f1).size ≤ 65536 := by rw [macS_size]; omega
      by_cases hl2 : 65536 < N2
      · exact lawHkdf_of a0 N0 C0 f0 a1 N1 C1 f1 a2 N2 C2 f2 n ⟨#[]⟩ 2 h0 h1 h2 (fun b0 b1 b2 w _ _ _ => specHkdf_long _ _ _ N0 N0 N1 N1 N2 N2 n (by omega) w) (fun b0 b1 b2 w k0 k1 _ kt => implHkdf_go _ _ _ n 2 _ _ w (EXT b0 b1 w k0 k1 kt) (fun w' _ => implExpand_long _ _ N2 N2 n (.inr hl2) w')) w hc0 hc1 hc2 ht
      · by_cases hr : n < 0 ∨ 8160 < n
        · exact lawHkdf_of a0 N0 C0 f0 a1 N1 C1 f1 a2 N2 C2 f2 n ⟨#[]⟩ 4 h0 h1 h2 (fun b0 b1 b2 w _ _ _ => specHkdf_range _ _ _ N0 N0 N1 N1 N2 N2 n (by omega) (by omega) (by omega) hr w) (fun b0 b1 b2 w k0 k1 _ kt => implHkdf_go _ _ _ n 4 _ _ w (EXT b0 b1 w k0 k1 kt) (fun w' _ => implExpand_range _ _ N2 N2 n hms (by omega) hr w')) w hc0 hc1 hc2 ht
        · obtain ⟨m, rfl⟩ := Int.eq_ofNat_of_zero_le (show 0 ≤ n by omega)
          exact lawHkdf_of a0 N0 C0 f0 a1 N1 C1 f1 a2 N2 C2 f2 m _ 0 h0 h1 h2 (fun b0 b1 b2 w k0 k1 k2 => specHkdf_yes b0 0 N0 N0 b1 0 N1 N1 b2 0 N2 N2 m f0 f1 f2 hf0 hf1 hf2 (by omega) (by omega) (by omega) (by omega) w k0 k1 k2) (fun b0 b1 b2 w k0 k1 k2 kt => implHkdf_go _ _ _ m 0 _ _ w (EXT b0 b1 w k0 k1 kt) (fun w' hb => implExpand_yes _ b2 0 N2 N2 m f2 hf2 hms (by omega) (by omega) w' (k2.below hb) (kt.below hb))) w hc0 hc1 hc2 ht
  · exact lawHkdf_big a0 N0 C0 a1 N1 C1 a2 N2 C2 n h0 w
end Go.Proofs.YtbajdphiaibmgabDoor
