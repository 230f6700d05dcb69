/-
  The exact law of Hash: what it asks of the program and of the model.
-/
import Derived.Test.YtbajdphiaibmgaaDoorByteS
import Derived.Test.YtbajdphiaibmgaaDoorAfter
namespace Go.Proofs.YtbajdphiaibmgaaDoor
open Go.ChangeShapes Go.WideShapes Go.ChangeAt Go.RowKit
set_option maxRecDepth 100000 in
set_option maxHeartbeats 4000000 in
theorem lawHash_of (a0 : Option Addr) (N0 C0 : Nat) (f0 : Nat → Nat) (g : ByteArray) (h0 : N0 ≤ 1048576)
    (hsp : ∀ (b0 : Nat) (w : World), Code8 w (some ⟨b0, 0, none⟩) N0 f0 → Calls Tryd.prog 16 #[.slice (some ⟨b0, 0, none⟩) N0 N0] w fun e w' => e = .returned (.string g) ∧ Below w.heap.size w w')
    (him : ∀ (b0 : Nat) (w : World), Code8 w (some ⟨b0, 0, none⟩) N0 f0 → Tabs w → Calls Tryd.prog 14 #[.slice (some ⟨b0, 0, none⟩) N0 N0] w fun e w' => e = .returned (.string g) ∧ Below w.heap.size w w')
    (w : World) (c0 : Code8 w a0 N0 f0) (ht : Tabs w) :
    Calls Tryd.prog 4 #[.slice a0 N0 C0] w fun e w' => e = .returned (.bool true) ∧ Below w.heap.size w w' := by
  have SP : Hid (∀ (b0 : Nat) (w : World), Code8 w (some ⟨b0, 0, none⟩) N0 f0 → Calls Tryd.prog 16 #[.slice (some ⟨b0, 0, none⟩) N0 N0] w fun e w' => e = .returned (.string g) ∧ Below w.heap.size w w') := hsp
  have IM : Hid (∀ (b0 : Nat) (w : World), Code8 w (some ⟨b0, 0, none⟩) N0 f0 → Tabs w → Calls Tryd.prog 14 #[.slice (some ⟨b0, 0, none⟩) N0 N0] w fun e w' => e = .returned (.string g) ∧ Below w.heap.size w w') := him
  have HA0 : Hid (Code8 w a0 N0 f0) := c0
  have e0 : ¬ (1048576 : Int) < (N0 : Int) := by omega
  have HT : Hid (Tabs w) := ht
  have HB : Hid (Below w.heap.size w w) := Below.refl _ _
  clear hsp him c0 ht
  go_enter Tryd.func4, Tryd.ntmps4
  go_wp2_with fail
  refine (toByteS_any a0 N0 C0 f0 _ HA0.out h0).mono ?_
  rintro e w1 ⟨rfl, ho, hb⟩
  have Rs0 : Hid (Own8 w1 w.heap.size N0 f0) := ho
  clear ho
  replace HA0 : Hid (Code8 w1 a0 N0 f0) := HA0.out.below hb
  replace HT : Hid (Tabs w1) := HT.out.below hb
  replace HB : Hid (Below w.heap.size w w1) := HB.out.trans (hb.mono HB.out.size)
  clear hb
  have Es0 : Hid (w.heap.size = w.heap.size) := rfl
  obtain ⟨s0, hs0⟩ : ∃ x, x = w.heap.size := ⟨_, rfl⟩
  rw [← hs0] at Rs0 ⊢
  clear hs0 Es0
  go_wp2_with fail
  refine (SP.out s0 _ Rs0.out.code).mono ?_
  rintro e w2 ⟨rfl, hb⟩
  clear Rs0
  replace HA0 : Hid (Code8 w2 a0 N0 f0) := HA0.out.below hb
  replace HT : Hid (Tabs w2) := HT.out.below hb
  replace HB : Hid (Below w.heap.size w w2) := HB.out.trans (hb.mono HB.out.size)
  clear hb
  clear SP
  go_wp2_with fail
  refine (toByteS_any a0 N0 C0 f0 _ HA0.out h0).mono ?_
  rintro e w3 ⟨rfl, ho, hb⟩
  have Rx0 : Hid (Own8 w3 w2.heap.size N0 f0) := ho
  clear ho
  replace HA0 : Hid (Code8 w3 a0 N0 f0) := HA0.out.below hb
  replace HT : Hid (Tabs w3) := HT.out.below hb
  replace HB : Hid (Below w.heap.size w w3) := HB.out.trans (hb.mono HB.out.size)
  clear hb
  generalize w2.heap.size = x0 at *
  go_wp2_with fail
  refine (IM.out x0 _ Rx0.out.code HT.out).mono ?_
  rintro e w4 ⟨rfl, hb⟩
  replace HA0 : Hid (Code8 w4 a0 N0 f0) := HA0.out.below hb
  replace Rx0 : Hid (Own8 w4 x0 N0 f0) := Rx0.out.below hb
  replace HT : Hid (Tabs w4) := HT.out.below hb
  replace HB : Hid (Below w.heap.size w w4) := HB.out.trans (hb.mono HB.out.size)
  clear hb
  clear IM
  clear HT
  go_wp2_with fail
  refine (toByteS_any a0 N0 C0 f0 _ HA0.out h0).mono ?_
  rintro e w5 ⟨rfl, ho, hb⟩
  have Ry0 : Hid (Own8 w5 w4.heap.size N0 f0) := ho
  clear ho
  replace HA0 : Hid (Code8 w5 a0 N0 f0) := HA0.out.below hb
  replace Rx0 : Hid (Own8 w5 x0 N0 f0) := Rx0.out.below hb
  replace HB : Hid (Below w.heap.size w w5) := HB.out.trans (hb.mono HB.out.size)
  clear hb
  generalize w4.heap.size = y0 at *
  go_wp2_with fail
  refine (eqByteS_yes _ _ N0 _ _ f0 _ Rx0.out.code Ry0.out.code h0).mono ?_
  rintro e w6 ⟨rfl, q, rfl⟩
  have hb : Below w5.heap.size w5 (w5.drewN q) := below_drewN8 (Below.refl _ _) q
  clear Ry0
  replace HA0 : Hid (Code8 (w5.drewN q) a0 N0 f0) := HA0.out.below hb
  replace Rx0 : Hid (Own8 (w5.drewN q) x0 N0 f0) := Rx0.out.below hb
  replace HB : Hid (Below w.heap.size w (w5.drewN q)) := HB.out.trans (hb.mono HB.out.size)
  clear hb
  generalize w5.drewN q = v0 at *
  go_wp2
  go_ret
  exact ⟨rfl, HB.out⟩
theorem lawHash_big (a0 : Option Addr) (N0 C0 : Nat) (hbig : ¬ (N0 ≤ 1048576)) (w : World) :
    Calls Tryd.prog 4 #[.slice a0 N0 C0] w fun e w' => e = .returned (.bool true) ∧ Below w.heap.size w w' := by
  have g : (1048576 : Int) < (N0 : Int) := by omega
  clear hbig
  go_enter Tryd.func4, Tryd.ntmps4
  go_wp2
  go_ret
  exact ⟨rfl, Below.refl _ _⟩
end Go.Proofs.YtbajdphiaibmgaaDoor
