/-
  The exact law of HkdfExpand: what it asks of the program and of the model.
-/
import Derived.Test.YtbajdphiaibmgabDoorByteS
import Derived.Test.YtbajdphiaibmgabDoorAfter
namespace Go.Proofs.YtbajdphiaibmgabDoor
open Go.ChangeShapes Go.WideShapes Go.ChangeAt Go.RowKit
set_option maxRecDepth 100000 in
set_option maxHeartbeats 4000000 in
theorem lawHkdfExpand_of (t0 : ByteArray) (a1 : Option Addr) (N1 C1 : Nat) (f1 : Nat → Nat) (n2 : Int) (g : ByteArray) (code : Int) (h1 : N1 ≤ 1048576) (h0 : t0.size ≤ 1048576)
    (hsp : ∀ (b1 : Nat) (w : World), Code8 w (some ⟨b1, 0, none⟩) N1 f1 → Calls Tryd.prog 5 #[.string t0, .slice (some ⟨b1, 0, none⟩) N1 N1, .int .i64 n2] w fun e w' => e = .returned (.tuple #[.string g, .int .i64 code]) ∧ Below w.heap.size w w')
    (him : ∀ (b1 : Nat) (w : World), Code8 w (some ⟨b1, 0, none⟩) N1 f1 → Tabs w → Calls Tryd.prog 7 #[.string t0, .slice (some ⟨b1, 0, none⟩) N1 N1, .int .i64 n2] w fun e w' => e = .returned (.tuple #[.string g, .int .i64 code]) ∧ Below w.heap.size w w')
    (w : World) (c1 : Code8 w a1 N1 f1) (ht : Tabs w) :
    Calls Tryd.prog 3 #[.string t0, .slice a1 N1 C1, .int .i64 n2] w fun e w' => e = .returned (.bool true) ∧ Below w.heap.size w w' := by
  have SP : Hid (∀ (b1 : Nat) (w : World), Code8 w (some ⟨b1, 0, none⟩) N1 f1 → Calls Tryd.prog 5 #[.string t0, .slice (some ⟨b1, 0, none⟩) N1 N1, .int .i64 n2] w fun e w' => e = .returned (.tuple #[.string g, .int .i64 code]) ∧ Below w.heap.size w w') := hsp
  have IM : Hid (∀ (b1 : Nat) (w : World), Code8 w (some ⟨b1, 0, none⟩) N1 f1 → Tabs w → Calls Tryd.prog 7 #[.string t0, .slice (some ⟨b1, 0, none⟩) N1 N1, .int .i64 n2] w fun e w' => e = .returned (.tuple #[.string g, .int .i64 code]) ∧ Below w.heap.size w w') := him
  have HA1 : Hid (Code8 w a1 N1 f1) := c1
  have e1 : ¬ (1048576 : Int) < (N1 : Int) := by omega
  have e0 : ¬ (1048576 : Int) < (t0.size : Int) := by omega
  have HT : Hid (Tabs w) := ht
  have HB : Hid (Below w.heap.size w w) := Below.refl _ _
  have hcc : (code != code) = false := by simp
  clear hsp him c1 ht
  go_enter Tryd.func3, Tryd.ntmps3
  go_wp2_with fail
  refine (toByteS_any a1 N1 C1 f1 _ HA1.out h1).mono ?_
  rintro e w1 ⟨rfl, ho, hb⟩
  have Rs1 : Hid (Own8 w1 w.heap.size N1 f1) := ho
  clear ho
  replace HA1 : Hid (Code8 w1 a1 N1 f1) := HA1.out.below hb
  replace HT : Hid (Tabs w1) := HT.out.below hb
  replace HB : Hid (Below w.heap.size w w1) := HB.out.trans (hb.mono HB.out.size)
  clear hb
  have Es1 : Hid (w.heap.size = w.heap.size) := rfl
  obtain ⟨s1, hs1⟩ : ∃ x, x = w.heap.size := ⟨_, rfl⟩
  rw [← hs1] at Rs1 ⊢
  clear hs1 Es1
  go_wp2_with fail
  refine (SP.out s1 _ Rs1.out.code).mono ?_
  rintro e w2 ⟨rfl, hb⟩
  clear Rs1
  replace HA1 : Hid (Code8 w2 a1 N1 f1) := HA1.out.below hb
  replace HT : Hid (Tabs w2) := HT.out.below hb
  replace HB : Hid (Below w.heap.size w w2) := HB.out.trans (hb.mono HB.out.size)
  clear hb
  clear SP
  go_wp2_with fail
  refine (toByteS_any a1 N1 C1 f1 _ HA1.out h1).mono ?_
  rintro e w3 ⟨rfl, ho, hb⟩
  have Rx1 : Hid (Own8 w3 w2.heap.size N1 f1) := ho
  clear ho
  replace HA1 : Hid (Code8 w3 a1 N1 f1) := HA1.out.below hb
  replace HT : Hid (Tabs w3) := HT.out.below hb
  replace HB : Hid (Below w.heap.size w w3) := HB.out.trans (hb.mono HB.out.size)
  clear hb
  generalize w2.heap.size = x1 at *
  go_wp2_with fail
  refine (IM.out x1 _ Rx1.out.code HT.out).mono ?_
  rintro e w4 ⟨rfl, hb⟩
  replace HA1 : Hid (Code8 w4 a1 N1 f1) := HA1.out.below hb
  replace Rx1 : Hid (Own8 w4 x1 N1 f1) := Rx1.out.below hb
  replace HT : Hid (Tabs w4) := HT.out.below hb
  replace HB : Hid (Below w.heap.size w w4) := HB.out.trans (hb.mono HB.out.size)
  clear hb
  clear IM
  clear HT
  go_wp2_with fail
  refine (toByteS_any a1 N1 C1 f1 _ HA1.out h1).mono ?_
  rintro e w5 ⟨rfl, ho, hb⟩
  have Ry1 : Hid (Own8 w5 w4.heap.size N1 f1) := ho
  clear ho
  replace HA1 : Hid (Code8 w5 a1 N1 f1) := HA1.out.below hb
  replace Rx1 : Hid (Own8 w5 x1 N1 f1) := Rx1.out.below hb
  replace HB : Hid (Below w.heap.size w w5) := HB.out.trans (hb.mono HB.out.size)
  clear hb
  generalize w4.heap.size = y1 at *
  go_wp2_with fail
  refine (eqByteS_yes _ _ N1 _ _ f1 _ Rx1.out.code Ry1.out.code h1).mono ?_
  rintro e w6 ⟨rfl, q, rfl⟩
  have hb : Below w5.heap.size w5 (w5.drewN q) := below_drewN8 (Below.refl _ _) q
  clear Ry1
  replace HA1 : Hid (Code8 (w5.drewN q) a1 N1 f1) := HA1.out.below hb
  replace Rx1 : Hid (Own8 (w5.drewN q) x1 N1 f1) := Rx1.out.below hb
  replace HB : Hid (Below w.heap.size w (w5.drewN q)) := HB.out.trans (hb.mono HB.out.size)
  clear hb
  generalize w5.drewN q = v1 at *
  go_wp2
  go_ret
  exact ⟨rfl, HB.out⟩
theorem lawHkdfExpand_big (t0 : ByteArray) (a1 : Option Addr) (N1 C1 : Nat) (n2 : Int) (hbig : ¬ (t0.size ≤ 1048576 ∧ N1 ≤ 1048576)) (w : World) :
    Calls Tryd.prog 3 #[.string t0, .slice a1 N1 C1, .int .i64 n2] w fun e w' => e = .returned (.bool true) ∧ Below w.heap.size w w' := by
  by_cases q0 : t0.size ≤ 1048576
  rotate_left
  · have g : (1048576 : Int) < (t0.size : Int) := by omega
    clear hbig
    go_enter Tryd.func3, Tryd.ntmps3
    go_wp2
    go_ret
    exact ⟨rfl, Below.refl _ _⟩
  have p0 : ¬ (1048576 : Int) < (t0.size : Int) := by omega
  have g : (1048576 : Int) < (N1 : Int) := by omega
  clear hbig
  go_enter Tryd.func3, Tryd.ntmps3
  go_wp2
  go_ret
  exact ⟨rfl, Below.refl _ _⟩
end Go.Proofs.YtbajdphiaibmgabDoor
