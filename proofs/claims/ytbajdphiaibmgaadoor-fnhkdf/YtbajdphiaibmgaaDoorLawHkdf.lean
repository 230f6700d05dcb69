/-
  The exact law of Hkdf; its contracts.
-/
import Derived.Test.YtbajdphiaibmgaaDoorLawExpand
import Derived.Test.YtbajdphiaibmgaaDoorOfHkdf
namespace Go.Proofs.YtbajdphiaibmgaaDoor
open Go.ChangeShapes Go.WideShapes Go.ChangeAt Go.RowKit
theorem implHkdf_no (v0 v1 v2 : Value) (n code : Int) (hc : code ≠ 0) (w : World) (h : Calls Tryd.prog 11 #[v0, v1] w fun e w' => e = .returned (.tuple #[.string ⟨#[]⟩, .int .i64 code]) ∧ Below w.heap.size w w') :
    Calls Tryd.prog 9 #[v0, v1, v2, .int .i64 n] w fun e w' => e = .returned (.tuple #[.string ⟨#[]⟩, .int .i64 code]) ∧ Below w.heap.size w w' := by
  have HM : Hid (Calls Tryd.prog 11 #[v0, v1] w fun e w' => e = .returned (.tuple #[.string ⟨#[]⟩, .int .i64 code]) ∧ Below w.heap.size w w') := h
  have e1 : (code != 0) = true := by rw [bne_iff_ne]; exact hc
  clear h
  go_enter Tryd.func9, Tryd.ntmps9
  go_wp2_with fail
  refine HM.out.mono ?_
  rintro e w1 ⟨rfl, hb⟩
  have B1 : Hid (Below w.heap.size w w1) := hb
  clear hb
  go_wp2
  go_ret2
  exact ⟨rfl, B1.out⟩
theorem implHkdf_go (v0 v1 v2 : Value) (n code : Int) (k g : ByteArray) (w : World) (h : Calls Tryd.prog 11 #[v0, v1] w fun e w' => e = .returned (.tuple #[.string k, .int .i64 0]) ∧ Below w.heap.size w w')
    (h2 : ∀ w' : World, Below w.heap.size w w' → Calls Tryd.prog 12 #[.string k, v2, .int .i64 n] w' fun e w'' => e = .returned (.tuple #[.string g, .int .i64 code]) ∧ Below w'.heap.size w' w'') :
    Calls Tryd.prog 9 #[v0, v1, v2, .int .i64 n] w fun e w' => e = .returned (.tuple #[.string g, .int .i64 code]) ∧ Below w.heap.size w w' := by
  have HM : Hid (Calls Tryd.prog 11 #[v0, v1] w fun e w' => e = .returned (.tuple #[.string k, .int .i64 0]) ∧ Below w.heap.size w w') := h
  have HX : Hid (∀ w' : World, Below w.heap.size w w' → Calls Tryd.prog 12 #[.string k, v2, .int .i64 n] w' fun e w'' => e = .returned (.tuple #[.string g, .int .i64 code]) ∧ Below w'.heap.size w' w'') := h2
  clear h h2
  go_enter Tryd.func9, Tryd.ntmps9
  go_wp2_with fail
  refine HM.out.mono ?_
  rintro e w1 ⟨rfl, hb⟩
  have B1 : Hid (Below w.heap.size w w1) := hb
  clear hb
  go_wp2_with fail
  refine (HX.out _ B1.out).mono ?_
  rintro e w2 ⟨rfl, hb⟩
  have B2 : Hid (Below w.heap.size w w2) := B1.out.trans (hb.mono B1.out.size)
  clear hb B1
  go_wp2
  go_ret2
  exact ⟨rfl, B2.out⟩
theorem specHkdf_long (a0 a1 a2 : Option Addr) (n0 c0 n1 c1 n2 c2 : Nat) (n : Int) (h : 65536 < n0 ∨ 65536 < n1 ∨ 65536 < n2) (w : World) :
    Calls Tryd.prog 10 #[.slice a0 n0 c0, .slice a1 n1 c1, .slice a2 n2 c2, .int .i64 n] w fun e w' => e = .returned (.tuple #[.string ⟨#[]⟩, .int .i64 2]) ∧ Below w.heap.size w w' := by
  by_cases h0 : 65536 < n0
  · have e1 : (65536 : Int) < n0 := by omega
    go_enter Tryd.func10, Tryd.ntmps10
    go_wp2
    go_ret2
    exact ⟨rfl, Below.refl _ _⟩
  · have e1 : ¬ (65536 : Int) < n0 := by omega
    by_cases h1 : 65536 < n1
    · have e3 : (65536 : Int) < n1 := by omega
      go_enter Tryd.func10, Tryd.ntmps10
      go_wp2
      go_ret2
      exact ⟨rfl, Below.refl _ _⟩
    · have e3 : ¬ (65536 : Int) < n1 := by omega
      have e4 : (65536 : Int) < n2 := by omega
      go_enter Tryd.func10, Tryd.ntmps10
      go_wp2
      go_ret2
      exact ⟨rfl, Below.refl _ _⟩
theorem specHkdf_range (a0 a1 a2 : Option Addr) (n0 c0 n1 c1 n2 c2 : Nat) (n : Int) (h0 : n0 ≤ 65536) (h1 : n1 ≤ 65536) (h2 : n2 ≤ 65536) (h : n < 0 ∨ 8160 < n) (w : World) :
    Calls Tryd.prog 10 #[.slice a0 n0 c0, .slice a1 n1 c1, .slice a2 n2 c2, .int .i64 n] w fun e w' => e = .returned (.tuple #[.string ⟨#[]⟩, .int .i64 4]) ∧ Below w.heap.size w w' := by
  have e1 : ¬ (65536 : Int) < n0 := by omega
  have e2 : ¬ (65536 : Int) < n1 := by omega
  have e3 : ¬ (65536 : Int) < n2 := by omega
  have LI : Hid (∀ w : World, Calls Tryd.prog 24 #[.int .i64 n, .int .i64 0, .int .i64 8160] w fun e w' => e = .returned (.bool false) ∧ w = w') := l01In_any n 0 8160 false (by simp; omega)
  clear h
  go_enter Tryd.func10, Tryd.ntmps10
  go_wp2_with (go_at_call 24; refine (LI.out _).mono ?_; rintro e w' ⟨rfl, rfl⟩)
  go_ret2
  exact ⟨rfl, Below.refl _ _⟩
theorem specHkdf_yes (b0 o0 n0 c0 b1 o1 n1 c1 b2 o2 n2 c2 n : Nat) (f0 f1 f2 : Nat → Nat) (hf0 : ∀ i, f0 i < 256) (hf1 : ∀ i, f1 i < 256) (hf2 : ∀ i, f2 i < 256) (h0 : n0 ≤ 65536) (h1 : n1 ≤ 65536) (h2 : n2 ≤ 65536) (hn : n ≤ 8160) (w : World) (k0 : Code8 w (some ⟨b0, o0, none⟩) n0 f0) (k1 : Code8 w (some ⟨b1, o1, none⟩) n1 f1) (k2 : Code8 w (some ⟨b2, o2, none⟩) n2 f2) :
    Calls Tryd.prog 10 #[.slice (some ⟨b0, o0, none⟩) n0 c0, .slice (some ⟨b1, o1, none⟩) n1 c1, .slice (some ⟨b2, o2, none⟩) n2 c2, .int .i64 (n : Int)] w fun e w' => e = .returned (.tuple #[.string (drawS (macS n0 f0 n1 f1) n2 f2 n), .int .i64 0]) ∧ Below w.heap.size w w' := by
  have e1 : ¬ (65536 : Int) < n0 := by omega
  have e2 : ¬ (65536 : Int) < n1 := by omega
  have e3 : ¬ (65536 : Int) < n2 := by omega
  have LI : Hid (∀ w : World, Calls Tryd.prog 24 #[.int .i64 (n : Int), .int .i64 0, .int .i64 8160] w fun e w' => e = .returned (.bool true) ∧ w = w') := l01In_any n 0 8160 true (by simp; omega)
  have MC : Hid (Calls Tryd.prog 26 #[.slice (some ⟨b0, o0, none⟩) n0 c0, .slice (some ⟨b1, o1, none⟩) n1 c1] w fun e w' => e = .returned (.string (macS n0 f0 n1 f1)) ∧ Below w.heap.size w w') := l03Hmac_any b0 o0 n0 c0 b1 o1 n1 c1 f0 f1 hf0 hf1 (by omega) (by omega) w k0 k1
  have EX : Hid (∀ w : World, Code8 w (some ⟨b2, o2, none⟩) n2 f2 → Calls Tryd.prog 25 #[.string (macS n0 f0 n1 f1), .slice (some ⟨b2, o2, none⟩) n2 c2, .int .i64 (n : Int)] w fun e w' => e = .returned (.string (drawS (macS n0 f0 n1 f1) n2 f2 n)) ∧ Below w.heap.size w w') := fun w h => l03Expand_any _ (by rw [macS_size]; omega) b2 o2 n2 c2 n f2 hf2 h2 hn w h
  have HC : Hid (Code8 w (some ⟨b2, o2, none⟩) n2 f2) := k2
  generalize drawS (macS n0 f0 n1 f1) n2 f2 n = X at *
  generalize macS n0 f0 n1 f1 = KS at *
  clear k0 k1 k2 hf0 hf1 hf2
  go_enter Tryd.func10, Tryd.ntmps10
  go_wp2_with (go_at_call 24; refine (LI.out _).mono ?_; rintro e w' ⟨rfl, rfl⟩)
  refine MC.out.mono ?_
  rintro e w1 ⟨rfl, hb⟩
  have B1 : Hid (Below w.heap.size w w1) := hb
  clear hb
  go_wp2_with fail
  refine (EX.out _ (HC.out.below B1.out)).mono ?_
  rintro e w2 ⟨rfl, hb⟩
  have B2 : Hid (Below w.heap.size w w2) := B1.out.trans (hb.mono B1.out.size)
  clear hb B1
  go_wp2
  go_ret2
  exact ⟨rfl, B2.out⟩
end Go.Proofs.YtbajdphiaibmgaaDoor
