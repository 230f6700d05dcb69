/-
  The exact law of Cmac.
-/
import Derived.Test.YtggnaohigiakeabCmacS2
import Derived.Test.YtggnaohigiakeabSlices
namespace Go.Proofs.Ytggnaohigiakeab
open Go.ChangeShapes Go.WideShapes Go.ChangeAt Go.RowKit
set_option maxRecDepth 100000 in
set_option maxHeartbeats 4000000 in
/-- Where both answer alike, whatever memory they are called in, the law holds. -/
theorem lawCmac_of (key : ByteArray) (a : Option Addr) (N C : Nat) (f : Nat → Nat) (g : ByteArray) (code : Int) (hkey : key.size ≤ 1048576) (hN : N ≤ 1048576)
    (hsp : ∀ (b : Nat) (w : World), Code8 w (some ⟨b, 0, none⟩) N f → Calls Try.prog 14 #[.string key, .slice (some ⟨b, 0, none⟩) N N] w fun e w' => e = .returned (.tuple #[.string g, .int .i64 code]) ∧ Below w.heap.size w w')
    (him : ∀ (b : Nat) (w : World), Code8 w (some ⟨b, 0, none⟩) N f → Calls Try.prog 15 #[.string key, .slice (some ⟨b, 0, none⟩) N N] w fun e w' => e = .returned (.tuple #[.string g, .int .i64 code]) ∧ Below w.heap.size w w')
    (w : World) (h : Code8 w a N f) :
    Calls Try.prog 5 #[.string key, .slice a N C] w fun e w' => e = .returned (.bool true) ∧ Below w.heap.size w w' := by
  have SP : Hid (∀ (b : Nat) (w : World), Code8 w (some ⟨b, 0, none⟩) N f → Calls Try.prog 14 #[.string key, .slice (some ⟨b, 0, none⟩) N N] w fun e w' => e = .returned (.tuple #[.string g, .int .i64 code]) ∧ Below w.heap.size w w') := hsp
  have IM : Hid (∀ (b : Nat) (w : World), Code8 w (some ⟨b, 0, none⟩) N f → Calls Try.prog 15 #[.string key, .slice (some ⟨b, 0, none⟩) N N] w fun e w' => e = .returned (.tuple #[.string g, .int .i64 code]) ∧ Below w.heap.size w w') := him
  have HA : Hid (Code8 w a N f) := h
  have e1 : ¬ (1048576 : Int) < (N : Int) := by omega
  have ekey : ¬ (1048576 : Int) < (key.size : Int) := by omega
  have hcc : (code != code) = false := by simp
  clear hsp him h
  go_enter Try.func5, Try.ntmps5
  go_wp2_with fail
  refine (toByteS_any a N C f _ HA.out hN).mono ?_
  rintro e w1 ⟨rfl, ho1, hb1⟩
  have HO1 : Hid (Own8 w1 w.heap.size N f) := ho1
  have HB1 : Hid (Below w.heap.size w w1) := hb1
  clear ho1 hb1
  go_wp2_with fail
  refine (SP.out _ _ HO1.out.code).mono ?_
  rintro e w2 ⟨rfl, hb2⟩
  have HA2 : Hid (Code8 w2 a N f) := HA.out.below (HB1.out.trans (hb2.mono HB1.out.size))
  have HB2 : Hid (Below w.heap.size w w2) := HB1.out.trans (hb2.mono HB1.out.size)
  clear hb2 HO1 HB1 HA
  go_wp2_with fail
  refine (toByteS_any a N C f _ HA2.out hN).mono ?_
  rintro e w3 ⟨rfl, ho3, hb3⟩
  have HX3 : Hid (Own8 w3 w2.heap.size N f) := ho3
  have HA3 : Hid (Code8 w3 a N f) := HA2.out.below hb3
  have HB3 : Hid (Below w.heap.size w w3) := HB2.out.trans (hb3.mono HB2.out.size)
  clear ho3 hb3 HA2 HB2
  generalize w2.heap.size = xb at *
  go_wp2_with fail
  refine (IM.out _ _ HX3.out.code).mono ?_
  rintro e w4 ⟨rfl, hb4⟩
  have HX4 : Hid (Own8 w4 xb N f) := HX3.out.below hb4
  have HA4 : Hid (Code8 w4 a N f) := HA3.out.below hb4
  have HB4 : Hid (Below w.heap.size w w4) := HB3.out.trans (hb4.mono HB3.out.size)
  clear hb4 HX3 HA3 HB3 SP IM
  go_wp2_with fail
  refine (toByteS_any a N C f _ HA4.out hN).mono ?_
  rintro e w5 ⟨rfl, ho5, hb5⟩
  have HX5 : Hid (Code8 w5 (some ⟨xb, 0, none⟩) N f) := (HX4.out.below hb5).code
  have HY5 : Hid (Code8 w5 (some ⟨w4.heap.size, 0, none⟩) N f) := ho5.code
  have HB5 : Hid (Below w.heap.size w w5) := HB4.out.trans (hb5.mono HB4.out.size)
  clear ho5 hb5 HX4 HA4 HB4
  go_wp2_with fail
  refine (eqByteS_yes _ _ N _ _ f _ HX5.out HY5.out hN).mono ?_
  rintro e w6 ⟨rfl, q, rfl⟩
  have HB6 : Hid (Below w.heap.size w (w5.drewN q)) := below_drewN8 HB5.out q
  clear HX5 HY5 HB5
  generalize w5.drewN q = w6 at *
  go_wp2
  go_ret
  exact ⟨rfl, HB6.out⟩
theorem law_cmac (k : ByteArray) (a : Option Addr) (N C : Nat) (zs : List Int) (w : World) (h : IsRow .u8 w a N C zs) :
    Calls Try.prog 5 #[.string k, .slice a N C] w fun e w' => e = .returned (.bool true) ∧ Below w.heap.size w w' := by
  by_cases h0 : k.size ≤ 1048576 ∧ N ≤ 1048576
  · obtain ⟨hk0, hN0⟩ := h0
    obtain ⟨f, hf, hc⟩ := code8_of_row h
    by_cases h1 : 65536 < k.size ∨ 65536 < N
    · exact lawCmac_of k a N C f ⟨#[]⟩ 2 hk0 hN0 (fun b w _ => (specCm_long k _ N N h1 w).mono fun _ _ hh => ⟨hh.1, by rw [← hh.2]; exact Below.refl _ _⟩) (fun b w _ => (implCm_no k _ N N 2 (by decide) (mf_long k ⟨#[]⟩ 0 N 65536 (by omega)) w).mono fun _ _ hh => ⟨hh.1, by rw [← hh.2]; exact Below.refl _ _⟩) w hc
    · by_cases h2 : k.size = 16 ∨ k.size = 32
      · obtain ⟨kn, hkn, hk⟩ : ∃ kn, (kn = 4 ∨ kn = 8) ∧ k.size = kn * 4 := by
          rcases h2 with h | h
          · exact ⟨4, .inl rfl, h⟩
          · exact ⟨8, .inr rfl, h⟩
        exact lawCmac_of k a N C f _ 0 hk0 hN0 (fun b w hw => specCm_yes k kn b 0 N N f hkn hk (by omega) (Nat.le_refl _) hf w hw) (fun b w hw => implCm_yes k kn b 0 N N f hkn hk (by omega) (Nat.le_refl _) hf w hw) w hc
      · exact lawCmac_of k a N C f ⟨#[]⟩ 1 hk0 hN0 (fun b w _ => (specCm_bad k _ N N (by omega) (by omega) h2 w).mono fun _ _ hh => ⟨hh.1, by rw [← hh.2]; exact Below.refl _ _⟩) (fun b w _ => (implCm_no k _ N N 1 (by decide) (mf_bad k ⟨#[]⟩ 0 N 65536 (by omega) (by show (0 : Nat) ≤ 65536; omega) (by omega) (by omega)) w).mono fun _ _ hh => ⟨hh.1, by rw [← hh.2]; exact Below.refl _ _⟩) w hc
  · clear h
    by_cases h1 : k.size ≤ 1048576
    · have e1 : ¬ (1048576 : Int) < k.size := by omega
      have e3 : (1048576 : Int) < N := by omega
      clear h0
      go_enter Try.func5, Try.ntmps5
      go_wp2
      go_ret
      exact ⟨rfl, Below.refl _ _⟩
    · have e1 : (1048576 : Int) < k.size := by omega
      clear h0
      go_enter Try.func5, Try.ntmps5
      go_wp2
      go_ret
      exact ⟨rfl, Below.refl _ _⟩
end Go.Proofs.Ytggnaohigiakeab
