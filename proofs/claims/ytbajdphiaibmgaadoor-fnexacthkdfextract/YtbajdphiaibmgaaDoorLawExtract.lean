/-
  The exact law of HkdfExtract.
-/
import Derived.Test.YtbajdphiaibmgaaDoorMacS
import Derived.Test.YtbajdphiaibmgaaDoorOfHkdfExtract
namespace Go.Proofs.YtbajdphiaibmgaaDoor
open Go.ChangeShapes Go.WideShapes Go.ChangeAt Go.RowKit
theorem specHkdfExtract_long (a b : Option Addr) (n m c d : Nat) (h : 65536 < n ∨ 65536 < m) (w : World) :
    Calls Tryd.prog 21 #[.slice a n c, .slice b m d] w fun e w' => e = .returned (.tuple #[.string ⟨#[]⟩, .int .i64 2]) ∧ Below w.heap.size w w' := by
  by_cases h1 : 65536 < n
  · have e1 : (65536 : Int) < n := by omega
    go_enter Tryd.func21, Tryd.ntmps21
    go_wp2
    go_ret2
    exact ⟨rfl, Below.refl _ _⟩
  · have e1 : ¬ (65536 : Int) < n := by omega
    have e3 : (65536 : Int) < m := by omega
    go_enter Tryd.func21, Tryd.ntmps21
    go_wp2
    go_ret2
    exact ⟨rfl, Below.refl _ _⟩
theorem specHkdfExtract_yes (b0 o0 m c0 b1 o1 n c1 : Nat) (g f : Nat → Nat) (hg : ∀ i, g i < 256) (hf : ∀ i, f i < 256) (hm : m ≤ 65536) (hn : n ≤ 65536) (w : World) (k0 : Code8 w (some ⟨b0, o0, none⟩) m g) (k1 : Code8 w (some ⟨b1, o1, none⟩) n f) :
    Calls Tryd.prog 21 #[.slice (some ⟨b0, o0, none⟩) m c0, .slice (some ⟨b1, o1, none⟩) n c1] w fun e w' => e = .returned (.tuple #[.string (macS m g n f), .int .i64 0]) ∧ Below w.heap.size w w' := by
  have e1 : ¬ (65536 : Int) < m := by omega
  have e2 : ¬ (65536 : Int) < n := by omega
  have MC : Hid (Calls Tryd.prog 26 #[.slice (some ⟨b0, o0, none⟩) m c0, .slice (some ⟨b1, o1, none⟩) n c1] w fun e w' => e = .returned (.string (macS m g n f)) ∧ Below w.heap.size w w') := l03Hmac_any b0 o0 m c0 b1 o1 n c1 g f hg hf (by omega) (by omega) w k0 k1
  generalize macS m g n f = X at *
  clear k0 k1 hg hf
  go_enter Tryd.func21, Tryd.ntmps21
  go_wp2_with fail
  refine MC.out.mono ?_
  rintro e w1 ⟨rfl, hb⟩
  have B1 : Hid (Below w.heap.size w w1) := hb
  clear hb
  go_wp2
  go_ret2
  exact ⟨rfl, B1.out⟩
theorem law_hkdfExtract (a0 a1 : Option Addr) (N0 C0 N1 C1 : Nat) (z0 z1 : List Int) (w : World) (r0 : IsRow .u8 w a0 N0 C0 z0) (r1 : IsRow .u8 w a1 N1 C1 z1) (ht : Tabs w) :
    Calls Tryd.prog 6 #[.slice a0 N0 C0, .slice a1 N1 C1] w fun e w' => e = .returned (.bool true) ∧ Below w.heap.size w w' := by
  by_cases h0 : N0 ≤ 1048576 ∧ N1 ≤ 1048576
  · obtain ⟨h0, h1⟩ := h0
    obtain ⟨g, hg, hc⟩ := code8_of_row r0
    obtain ⟨f, hf, hd⟩ := code8_of_row r1
    by_cases hl : 65536 < N0 ∨ 65536 < N1
    · exact lawHkdfExtract_of a0 N0 C0 g a1 N1 C1 f ⟨#[]⟩ 2 h0 h1 (fun b0 b1 w _ _ => specHkdfExtract_long _ _ N0 N1 N0 N1 hl w) (fun b0 b1 w _ _ _ => implExtract_of _ _ _ rfl _ _ w (implHmac_long _ _ N0 N1 N0 N1 hl w)) w hc hd ht
    · exact lawHkdfExtract_of a0 N0 C0 g a1 N1 C1 f _ 0 h0 h1 (fun b0 b1 w k0 k1 => specHkdfExtract_yes b0 0 N0 N0 b1 0 N1 N1 g f hg hf (by omega) (by omega) w k0 k1) (fun b0 b1 w k0 k1 kt => implExtract_of _ _ _ rfl _ _ w (implHmac_yes b0 0 N0 N0 b1 0 N1 N1 g f hg hf (by omega) (by omega) w k0 k1 kt)) w hc hd ht
  · exact lawHkdfExtract_big a0 N0 C0 a1 N1 C1 h0 w
end Go.Proofs.YtbajdphiaibmgaaDoor
