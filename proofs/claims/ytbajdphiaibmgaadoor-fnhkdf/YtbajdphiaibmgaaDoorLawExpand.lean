/-
  The exact law of HkdfExpand; the contracts of HkdfExpand.
-/
import Derived.Test.YtbajdphiaibmgaaDoorExpandS
import Derived.Test.YtbajdphiaibmgaaDoorOfHkdfExpand
namespace Go.Proofs.YtbajdphiaibmgaaDoor
open Go.ChangeShapes Go.WideShapes Go.ChangeAt Go.RowKit
/-- n bytes that are drawn out of a key. -/
def drawS (k : ByteArray) (m : Nat) (g : Nat → Nat) (n : Nat) : ByteArray := kstr (Sha.drawnF (Sha.keyF k.size (strB k)) m g) 0 n
theorem implExpand_long (k : ByteArray) (a : Option Addr) (m c : Nat) (n : Int) (h : 65536 < k.size ∨ 65536 < m) (w : World) :
    Calls Tryd.prog 12 #[.string k, .slice a m c, .int .i64 n] w fun e w' => e = .returned (.tuple #[.string ⟨#[]⟩, .int .i64 2]) ∧ Below w.heap.size w w' := by
  by_cases h1 : 65536 < k.size
  · have e1 : (65536 : Int) < k.size := by omega
    go_enter Tryd.func12, Tryd.ntmps12
    go_wp2
    go_ret2
    exact ⟨rfl, Below.refl _ _⟩
  · have e1 : ¬ (65536 : Int) < k.size := by omega
    have e3 : (65536 : Int) < m := by omega
    go_enter Tryd.func12, Tryd.ntmps12
    go_wp2
    go_ret2
    exact ⟨rfl, Below.refl _ _⟩
theorem implExpand_range (k : ByteArray) (a : Option Addr) (m c : Nat) (n : Int) (h0 : k.size ≤ 65536) (h1 : m ≤ 65536) (h : n < 0 ∨ 8160 < n) (w : World) :
    Calls Tryd.prog 12 #[.string k, .slice a m c, .int .i64 n] w fun e w' => e = .returned (.tuple #[.string ⟨#[]⟩, .int .i64 4]) ∧ Below w.heap.size w w' := by
  have e1 : ¬ (65536 : Int) < k.size := by omega
  have e3 : ¬ (65536 : Int) < m := by omega
  by_cases h2 : n < 0
  · go_enter Tryd.func12, Tryd.ntmps12
    go_wp2
    go_ret2
    exact ⟨rfl, Below.refl _ _⟩
  · have e4 : 8160 < n := by omega
    go_enter Tryd.func12, Tryd.ntmps12
    go_wp2
    go_ret2
    exact ⟨rfl, Below.refl _ _⟩
set_option maxRecDepth 100000 in
theorem implExpand_yes (k : ByteArray) (b o m c n : Nat) (g : Nat → Nat) (hg : ∀ i, g i < 256) (h0 : k.size ≤ 65536) (h1 : m ≤ 65536) (hn : n ≤ 8160) (w : World) (h : Code8 w (some ⟨b, o, none⟩) m g) (ht : Tabs w) :
    Calls Tryd.prog 12 #[.string k, .slice (some ⟨b, o, none⟩) m c, .int .i64 (n : Int)] w fun e w' => e = .returned (.tuple #[.string (drawS k m g n), .int .i64 0]) ∧ Below w.heap.size w w' := by
  have e1 : ¬ (65536 : Int) < k.size := by omega
  have e3 : ¬ (65536 : Int) < m := by omega
  have e4 : ¬ (n : Int) < 0 := by omega
  have e5 : ¬ (8160 : Int) < (n : Int) := by omega
  have HC : Hid (Code8 w (some ⟨b, o, none⟩) m g) := h
  have HT : Hid (Tabs w) := ht
  obtain ⟨w1, c1, hcv, hk1, hb1, _⟩ := bytesOfM k w
  have HB1 : Hid (Below w.heap.size w w1) := hb1
  have NK : Hid (Calls Tryd.prog 27 #[.slice (some ⟨w.heap.size, 0, none⟩) k.size c1] w1 fun e w' => e = .returned (.agg (bA 64 (Sha.keyF k.size (strB k)))) ∧ Below w1.heap.size w1 w') := newMacKey_any w.heap.size 0 k.size c1 (strB k) (strB_lt k) (by omega) w1 hk1 (HT.out.below hb1)
  have DR : Hid (∀ w : World, Code8 w (some ⟨b, o, none⟩) m g → Tabs w → Calls Tryd.prog 28 #[.agg (bA 64 (Sha.keyF k.size (strB k))), .slice (some ⟨b, o, none⟩) m c, .int .i64 (n : Int)] w fun e w' => e = .returned (.string (drawS k m g n)) ∧ Below w.heap.size w w') := fun w h ht => drawn_any _ (Sha.keyF_lt (strB_lt k)) b o m c n g hg h1 hn w h ht
  generalize drawS k m g n = X at *
  generalize bA 64 (Sha.keyF k.size (strB k)) = KA at *
  clear h ht hg hk1 hb1
  go_enter Tryd.func12, Tryd.ntmps12
  go_wp2_with fail
  refine NK.out.mono ?_
  rintro e w2 ⟨rfl, hb⟩
  have HB2 : Hid (Below w.heap.size w w2) := HB1.out.trans (hb.mono HB1.out.size)
  clear hb hcv
  go_wp2_with fail
  refine (DR.out _ (HC.out.below HB2.out) (HT.out.below HB2.out)).mono ?_
  rintro e w3 ⟨rfl, hb⟩
  have HB3 : Hid (Below w.heap.size w w3) := HB2.out.trans (hb.mono HB2.out.size)
  clear hb HB2
  go_wp2
  go_ret2
  exact ⟨rfl, HB3.out⟩
end Go.Proofs.YtbajdphiaibmgaaDoor
