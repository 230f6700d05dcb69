/-
  The law FnCmac: a code of a text is that of the model, of 16 bytes, also of nothing.
-/
import Derived.Test.YtbajdphiaibmgaaPlain
import Derived.Test.YtbajdphiaibmgaaCmac
import Derived.Test.YtbajdphiaibmgaaCmacS2
namespace Go.Proofs.Ytbajdphiaibmgaa
open Go.ChangeShapes Go.WideShapes Go.ChangeAt Go.RowKit
theorem blob_exC (n : Nat) (hn : 1 ≤ n) (hn' : n ≤ 100000) (a : Option Addr) (len cap : Nat) (z : Nat → Nat) (hz : ∀ i, z i < 256) (hl : len ≤ maxLen) (w : World) (hc : Code8 w a len z) :
    Calls Try.prog 5 #[.slice a len cap, .int .i64 (n : Int)] w fun e w' => (∃ s : ByteArray, s.size = n ∧ e = .returned (.string s)) ∧ Below w.heap.size w w' :=
  (blobOf_any n hn hn' a len cap z hz hl w hc).mono fun _ _ hh => ⟨⟨_, kstr_size _ _ _, hh.1⟩, hh.2⟩
set_option maxRecDepth 100000 in
set_option maxHeartbeats 4000000 in
theorem law_fnCmac (a1 a2 : Option Addr) (N1 C1 N2 C2 : Nat) (zs1 zs2 : List Int) (w : World) (h1 : IsRow .u8 w a1 N1 C1 zs1) (h2 : IsRow .u8 w a2 N2 C2 zs2) :
    Calls Try.prog 3 #[.slice a1 N1 C1, .slice a2 N2 C2] w fun e w' => e = .returned (.bool true) ∧ Below w.heap.size w w' := by
  by_cases h0 : N1 ≤ 1048576 ∧ N2 ≤ 1048576
  · obtain ⟨h01, h02⟩ := h0
    have e01 : ¬ (1048576 : Int) < (N1 : Int) := by omega
    have e02 : ¬ (1048576 : Int) < (N2 : Int) := by omega
    obtain ⟨z1, hz1, hc1⟩ := code8_of_row h1
    obtain ⟨z2, hz2, hc2⟩ := code8_of_row h2
    have B1 : Hid (∀ w : World, Code8 w a1 N1 z1 → Calls Try.prog 5 #[.slice a1 N1 C1, .int .i64 16] w fun e w' => (∃ s : ByteArray, s.size = 16 ∧ e = .returned (.string s)) ∧ Below w.heap.size w w') := fun w h => blob_exC 16 (by omega) (by omega) a1 N1 C1 z1 hz1 (IsRow.lenLe h1) w h
    have PO : Hid (∀ w : World, Code8 w a2 N2 z2 → Calls Try.prog 6 #[.slice a2 N2 C2] w fun e w' => SomeOwn w.heap.size w' e 80 ∧ Below w.heap.size w w') := fun w h => plainOf_ex a2 N2 C2 z2 hz2 (IsRow.lenLe h2) w h
    have Z1 : Hid (Code8 w a1 N1 z1) := hc1
    have Z2 : Hid (Code8 w a2 N2 z2) := hc2
    clear h1 h2 hc1 hc2 hz1 hz2
    go_enter Try.func3, Try.ntmps3
    go_wp2_with fail
    refine (B1.out _ Z1.out).mono ?_
    rintro e w1 ⟨⟨key, hkey, rfl⟩, hb1⟩
    have HB1 : Hid (Below w.heap.size w w1) := hb1
    have Z21 : Hid (Code8 w1 a2 N2 z2) := Z2.out.below hb1
    clear hb1 Z1 Z2 B1
    go_wp2_with fail
    refine (PO.out _ Z21.out).mono ?_
    rintro e w4 ⟨⟨m, f, g, c, hm, hf, rfl, hown⟩, hb4⟩
    obtain ⟨g', c', ⟨hg, hmc⟩, e', ho⟩ := own8_of_own hown (by intro e; cases e)
    cases e'
    have HB4 : Hid (Below w.heap.size w w4) := HB1.out.trans (hb4.mono HB1.out.size)
    have HO4 : Hid (Own8 w4 g m f) := ho
    clear hown ho hb4 HB1 Z21 PO
    have IM : Hid (∀ (n : Nat) (w : World), n ≤ m → Code8 w (some ⟨g, 0, none⟩) n f → ∃ t : ByteArray, t.size = 16 ∧ (Calls Try.prog 7 #[.string key, .slice (some ⟨g, 0, none⟩) n c] w fun e w' => e = .returned (.tuple #[.string t, .int .i64 0]) ∧ Below w.heap.size w w') ∧ ∀ w' : World, Code8 w' (some ⟨g, 0, none⟩) n f → Calls Try.prog 8 #[.string key, .slice (some ⟨g, 0, none⟩) n c] w' fun e w'' => e = .returned (.tuple #[.string t, .int .i64 0]) ∧ Below w'.heap.size w' w'') := fun n w hn hw =>
      ⟨_, kstr_size _ _ _, implCm_yes key 4 g 0 n c f (.inl rfl) hkey (by omega) (by omega) hf w hw, fun w' hw' => specCm_yes key 4 g 0 n c f (.inl rfl) hkey (by omega) (by omega) hf w' hw'⟩
    clear hf hkey
    go_wp2_with fail
    go_loopw [7] (fun i wr => ∃ k : Nat, k ≤ 3 ∧ i = .int .i64 (k : Int) ∧ Own8 wr g m f ∧ Below w.heap.size w wr) (fun i _ => 3 - (intOf i).toNat)
    case atStart => exact ⟨0, by omega, rfl, HO4.out, HB4.out⟩
    case round =>
      clear HO4 HB4
      obtain ⟨k, hk, rfl, ho, hb⟩ := hrel
      have HO : Hid (Own8 wr g m f) := ho
      have HB : Hid (Below w.heap.size w wr) := hb
      clear ho hb
      by_cases hlt : k < 3
      · have hlt' : (k : Int) < 3 := by omega
        obtain ⟨n, hn⟩ : ∃ n, n = m * k / 2 := ⟨_, rfl⟩
        have hnm : n ≤ m := by
          rw [hn]
          have : m * k ≤ m * 2 := Nat.mul_le_mul_left m (by omega)
          omega
        have hmk : m * k ≤ 160 := Nat.le_trans (Nat.mul_le_mul_left m (show k ≤ 2 by omega)) (by omega)
        obtain ⟨mk, hmk2⟩ : ∃ mk, mk = m * k := ⟨_, rfl⟩
        have emk : (m : Int) * (k : Int) = (mk : Int) := by rw [hmk2]; exact (Int.natCast_mul m k).symm
        rw [← hmk2] at hn hmk
        have emd : (mk : Int) / 2 = (n : Int) := by omega
        have emt : (mk : Int).tdiv 2 = (n : Int) := by rw [Int.tdiv_eq_ediv_of_nonneg (by omega)]; omega
        have x0 : (0 : Int) ≤ (n : Int) := by omega
        have x1 : (n : Int) ≤ (c : Int) := by omega
        obtain ⟨t, ht, hI, hS⟩ := IM.out n wr hnm (HO.out.code.part hnm)
        have hI2 : Hid (Calls Try.prog 7 #[.string key, .slice (some ⟨g, 0, none⟩) n c] wr fun e w' => e = .returned (.tuple #[.string t, .int .i64 0]) ∧ Below wr.heap.size wr w') := hI
        have hS2 : Hid (∀ w' : World, Code8 w' (some ⟨g, 0, none⟩) n f → Calls Try.prog 8 #[.string key, .slice (some ⟨g, 0, none⟩) n c] w' fun e w'' => e = .returned (.tuple #[.string t, .int .i64 0]) ∧ Below w'.heap.size w' w'') := hS
        have ets : ((t.size : Int) != 16) = false := by rw [ht]; rfl
        clear hI hS hn hmk2 ht IM
        go_wp2_with fail
        refine hI2.out.mono ?_
        rintro e w5 ⟨rfl, hb5⟩
        have HO5 : Hid (Own8 w5 g m f) := HO.out.below hb5
        have HB5 : Hid (Below w.heap.size w w5) := HB.out.trans (hb5.mono HB.out.size)
        clear hb5 HO HB hI2
        go_wp2_with fail
        refine (hS2.out _ (HO5.out.code.part hnm)).mono ?_
        rintro e w6 ⟨rfl, hb6⟩
        have HO6 : Hid (Own8 w6 g m f) := HO5.out.below hb6
        have HB6 : Hid (Below w.heap.size w w6) := HB5.out.trans (hb6.mono HB5.out.size)
        clear hb6 HO5 HB5 hS2
        go_wp2
        go_roundw
        case rel => exact ⟨k + 1, by omega, by go_num, HO6.out, HB6.out⟩
        case measure => simp [intOf]; omega
      · have hlt' : ¬ (k : Int) < 3 := by omega
        go_wp2
        go_ret
        exact ⟨rfl, HB.out⟩
  · by_cases h3 : N1 ≤ 1048576
    · have e1 : ¬ (1048576 : Int) < (N1 : Int) := by omega
      have e2 : (1048576 : Int) < (N2 : Int) := by omega
      clear h0
      go_enter Try.func3, Try.ntmps3
      go_wp2
      go_ret
      exact ⟨rfl, Below.refl _ _⟩
    · have e1 : (1048576 : Int) < (N1 : Int) := by omega
      clear h0
      go_enter Try.func3, Try.ntmps3
      go_wp2
      go_ret
      exact ⟨rfl, Below.refl _ _⟩
end Go.Proofs.Ytbajdphiaibmgaa
