/-
  The exact law of Hkdf: what it asks of the program and of the model.
-/
import Derived.Test.YtbajdphiaibmgabDoorByteS
import Derived.Test.YtbajdphiaibmgabDoorAfter
namespace Go.Proofs.YtbajdphiaibmgabDoor
open Go.ChangeShapes Go.WideShapes Go.ChangeAt Go.RowKit
set_option maxRecDepth 100000 in
set_option maxHeartbeats 4000000 in
theorem lawHkdf_of (a0 : Option Addr) (N0 C0 : Nat) (f0 : Nat → Nat) (a1 : Option Addr) (N1 C1 : Nat) (f1 : Nat → Nat) (a2 : Option Addr) (N2 C2 : Nat) (f2 : Nat → Nat) (n3 : Int) (g : ByteArray) (code : Int) (h0 : N0 ≤ 1048576) (h1 : N1 ≤ 1048576) (h2 : N2 ≤ 1048576)
    (hsp : ∀ (b0 b1 b2 : Nat) (w : World), Code8 w (some ⟨b0, 0, none⟩) N0 f0 → Code8 w (some ⟨b1, 0, none⟩) N1 f1 → Code8 w (some ⟨b2, 0, none⟩) N2 f2 → Calls Tryd.prog 9 #[.slice (some ⟨b0, 0, none⟩) N0 N0, .slice (some ⟨b1, 0, none⟩) N1 N1, .slice (some ⟨b2, 0, none⟩) N2 N2, .int .i64 n3] w fun e w' => e = .returned (.tuple #[.string g, .int .i64 code]) ∧ Below w.heap.size w w')
    (him : ∀ (b0 b1 b2 : Nat) (w : World), Code8 w (some ⟨b0, 0, none⟩) N0 f0 → Code8 w (some ⟨b1, 0, none⟩) N1 f1 → Code8 w (some ⟨b2, 0, none⟩) N2 f2 → Tabs w → Calls Tryd.prog 10 #[.slice (some ⟨b0, 0, none⟩) N0 N0, .slice (some ⟨b1, 0, none⟩) N1 N1, .slice (some ⟨b2, 0, none⟩) N2 N2, .int .i64 n3] w fun e w' => e = .returned (.tuple #[.string g, .int .i64 code]) ∧ Below w.heap.size w w')
    (w : World) (c0 : Code8 w a0 N0 f0) (c1 : Code8 w a1 N1 f1) (c2 : Code8 w a2 N2 f2) (ht : Tabs w) :
    Calls Tryd.prog 4 #[.slice a0 N0 C0, .slice a1 N1 C1, .slice a2 N2 C2, .int .i64 n3] w fun e w' => e = .returned (.bool true) ∧ Below w.heap.size w w' := by
  have SP : Hid (∀ (b0 b1 b2 : Nat) (w : World), Code8 w (some ⟨b0, 0, none⟩) N0 f0 → Code8 w (some ⟨b1, 0, none⟩) N1 f1 → Code8 w (some ⟨b2, 0, none⟩) N2 f2 → Calls Tryd.prog 9 #[.slice (some ⟨b0, 0, none⟩) N0 N0, .slice (some ⟨b1, 0, none⟩) N1 N1, .slice (some ⟨b2, 0, none⟩) N2 N2, .int .i64 n3] w fun e w' => e = .returned (.tuple #[.string g, .int .i64 code]) ∧ Below w.heap.size w w') := hsp
  have IM : Hid (∀ (b0 b1 b2 : Nat) (w : World), Code8 w (some ⟨b0, 0, none⟩) N0 f0 → Code8 w (some ⟨b1, 0, none⟩) N1 f1 → Code8 w (some ⟨b2, 0, none⟩) N2 f2 → Tabs w → Calls Tryd.prog 10 #[.slice (some ⟨b0, 0, none⟩) N0 N0, .slice (some ⟨b1, 0, none⟩) N1 N1, .slice (some ⟨b2, 0, none⟩) N2 N2, .int .i64 n3] w fun e w' => e = .returned (.tuple #[.string g, .int .i64 code]) ∧ Below w.heap.size w w') := him
  have HA0 : Hid (Code8 w a0 N0 f0) := c0
  have e0 : ¬ (1048576 : Int) < (N0 : Int) := by omega
  have HA1 : Hid (Code8 w a1 N1 f1) := c1
  have e1 : ¬ (1048576 : Int) < (N1 : Int) := by omega
  have HA2 : Hid (Code8 w a2 N2 f2) := c2
  have e2 : ¬ (1048576 : Int) < (N2 : Int) := by omega
  have HT : Hid (Tabs w) := ht
  have HB : Hid (Below w.heap.size w w) := Below.refl _ _
  have hcc : (code != code) = false := by simp
  clear hsp him c0 c1 c2 ht
  go_enter Tryd.func4, Tryd.ntmps4
  go_wp2_with fail
  refine (toByteS_any a0 N0 C0 f0 _ HA0.out h0).mono ?_
  rintro e w1 ⟨rfl, ho, hb⟩
  have Rs0 : Hid (Own8 w1 w.heap.size N0 f0) := ho
  clear ho
  replace HA0 : Hid (Code8 w1 a0 N0 f0) := HA0.out.below hb
  replace HA1 : Hid (Code8 w1 a1 N1 f1) := HA1.out.below hb
  replace HA2 : Hid (Code8 w1 a2 N2 f2) := HA2.out.below hb
  replace HT : Hid (Tabs w1) := HT.out.below hb
  replace HB : Hid (Below w.heap.size w w1) := HB.out.trans (hb.mono HB.out.size)
  clear hb
  have Es0 : Hid (w.heap.size = w.heap.size) := rfl
  obtain ⟨s0, hs0⟩ : ∃ x, x = w.heap.size := ⟨_, rfl⟩
  rw [← hs0] at Rs0 ⊢
  clear hs0 Es0
  go_wp2_with fail
  refine (toByteS_any a1 N1 C1 f1 _ HA1.out h1).mono ?_
  rintro e w2 ⟨rfl, ho, hb⟩
  have Rs1 : Hid (Own8 w2 w1.heap.size N1 f1) := ho
  clear ho
  replace HA0 : Hid (Code8 w2 a0 N0 f0) := HA0.out.below hb
  replace HA1 : Hid (Code8 w2 a1 N1 f1) := HA1.out.below hb
  replace HA2 : Hid (Code8 w2 a2 N2 f2) := HA2.out.below hb
  replace Rs0 : Hid (Own8 w2 s0 N0 f0) := Rs0.out.below hb
  replace HT : Hid (Tabs w2) := HT.out.below hb
  replace HB : Hid (Below w.heap.size w w2) := HB.out.trans (hb.mono HB.out.size)
  clear hb
  generalize w1.heap.size = s1 at *
  go_wp2_with fail
  refine (toByteS_any a2 N2 C2 f2 _ HA2.out h2).mono ?_
  rintro e w3 ⟨rfl, ho, hb⟩
  have Rs2 : Hid (Own8 w3 w2.heap.size N2 f2) := ho
  clear ho
  replace HA0 : Hid (Code8 w3 a0 N0 f0) := HA0.out.below hb
  replace HA1 : Hid (Code8 w3 a1 N1 f1) := HA1.out.below hb
  replace HA2 : Hid (Code8 w3 a2 N2 f2) := HA2.out.below hb
  replace Rs0 : Hid (Own8 w3 s0 N0 f0) := Rs0.out.below hb
  replace Rs1 : Hid (Own8 w3 s1 N1 f1) := Rs1.out.below hb
  replace HT : Hid (Tabs w3) := HT.out.below hb
  replace HB : Hid (Below w.heap.size w w3) := HB.out.trans (hb.mono HB.out.size)
  clear hb
  generalize w2.heap.size = s2 at *
  go_wp2_with fail
  refine (SP.out s0 s1 s2 _ Rs0.out.code Rs1.out.code Rs2.out.code).mono ?_
  rintro e w4 ⟨rfl, hb⟩
  clear Rs0
  clear Rs1
  clear Rs2
  replace HA0 : Hid (Code8 w4 a0 N0 f0) := HA0.out.below hb
  replace HA1 : Hid (Code8 w4 a1 N1 f1) := HA1.out.below hb
  replace HA2 : Hid (Code8 w4 a2 N2 f2) := HA2.out.below hb
  replace HT : Hid (Tabs w4) := HT.out.below hb
  replace HB : Hid (Below w.heap.size w w4) := HB.out.trans (hb.mono HB.out.size)
  clear hb
  clear SP
  go_wp2_with fail
  refine (toByteS_any a0 N0 C0 f0 _ HA0.out h0).mono ?_
  rintro e w5 ⟨rfl, ho, hb⟩
  have Rx0 : Hid (Own8 w5 w4.heap.size N0 f0) := ho
  clear ho
  replace HA0 : Hid (Code8 w5 a0 N0 f0) := HA0.out.below hb
  replace HA1 : Hid (Code8 w5 a1 N1 f1) := HA1.out.below hb
  replace HA2 : Hid (Code8 w5 a2 N2 f2) := HA2.out.below hb
  replace HT : Hid (Tabs w5) := HT.out.below hb
  replace HB : Hid (Below w.heap.size w w5) := HB.out.trans (hb.mono HB.out.size)
  clear hb
  generalize w4.heap.size = x0 at *
  go_wp2_with fail
  refine (toByteS_any a1 N1 C1 f1 _ HA1.out h1).mono ?_
  rintro e w6 ⟨rfl, ho, hb⟩
  have Rx1 : Hid (Own8 w6 w5.heap.size N1 f1) := ho
  clear ho
  replace HA0 : Hid (Code8 w6 a0 N0 f0) := HA0.out.below hb
  replace HA1 : Hid (Code8 w6 a1 N1 f1) := HA1.out.below hb
  replace HA2 : Hid (Code8 w6 a2 N2 f2) := HA2.out.below hb
  replace Rx0 : Hid (Own8 w6 x0 N0 f0) := Rx0.out.below hb
  replace HT : Hid (Tabs w6) := HT.out.below hb
  replace HB : Hid (Below w.heap.size w w6) := HB.out.trans (hb.mono HB.out.size)
  clear hb
  generalize w5.heap.size = x1 at *
  go_wp2_with fail
  refine (toByteS_any a2 N2 C2 f2 _ HA2.out h2).mono ?_
  rintro e w7 ⟨rfl, ho, hb⟩
  have Rx2 : Hid (Own8 w7 w6.heap.size N2 f2) := ho
  clear ho
  replace HA0 : Hid (Code8 w7 a0 N0 f0) := HA0.out.below hb
  replace HA1 : Hid (Code8 w7 a1 N1 f1) := HA1.out.below hb
  replace HA2 : Hid (Code8 w7 a2 N2 f2) := HA2.out.below hb
  replace Rx0 : Hid (Own8 w7 x0 N0 f0) := Rx0.out.below hb
  replace Rx1 : Hid (Own8 w7 x1 N1 f1) := Rx1.out.below hb
  replace HT : Hid (Tabs w7) := HT.out.below hb
  replace HB : Hid (Below w.heap.size w w7) := HB.out.trans (hb.mono HB.out.size)
  clear hb
  generalize w6.heap.size = x2 at *
  go_wp2_with fail
  refine (IM.out x0 x1 x2 _ Rx0.out.code Rx1.out.code Rx2.out.code HT.out).mono ?_
  rintro e w8 ⟨rfl, hb⟩
  replace HA0 : Hid (Code8 w8 a0 N0 f0) := HA0.out.below hb
  replace HA1 : Hid (Code8 w8 a1 N1 f1) := HA1.out.below hb
  replace HA2 : Hid (Code8 w8 a2 N2 f2) := HA2.out.below hb
  replace Rx0 : Hid (Own8 w8 x0 N0 f0) := Rx0.out.below hb
  replace Rx1 : Hid (Own8 w8 x1 N1 f1) := Rx1.out.below hb
  replace Rx2 : Hid (Own8 w8 x2 N2 f2) := Rx2.out.below hb
  replace HT : Hid (Tabs w8) := HT.out.below hb
  replace HB : Hid (Below w.heap.size w w8) := HB.out.trans (hb.mono HB.out.size)
  clear hb
  clear IM
  clear HT
  go_wp2_with fail
  refine (toByteS_any a0 N0 C0 f0 _ HA0.out h0).mono ?_
  rintro e w9 ⟨rfl, ho, hb⟩
  have Ry0 : Hid (Own8 w9 w8.heap.size N0 f0) := ho
  clear ho
  replace HA0 : Hid (Code8 w9 a0 N0 f0) := HA0.out.below hb
  replace HA1 : Hid (Code8 w9 a1 N1 f1) := HA1.out.below hb
  replace HA2 : Hid (Code8 w9 a2 N2 f2) := HA2.out.below hb
  replace Rx0 : Hid (Own8 w9 x0 N0 f0) := Rx0.out.below hb
  replace Rx1 : Hid (Own8 w9 x1 N1 f1) := Rx1.out.below hb
  replace Rx2 : Hid (Own8 w9 x2 N2 f2) := Rx2.out.below hb
  replace HB : Hid (Below w.heap.size w w9) := HB.out.trans (hb.mono HB.out.size)
  clear hb
  generalize w8.heap.size = y0 at *
  go_wp2_with fail
  refine (eqByteS_yes _ _ N0 _ _ f0 _ Rx0.out.code Ry0.out.code h0).mono ?_
  rintro e w10 ⟨rfl, q, rfl⟩
  have hb : Below w9.heap.size w9 (w9.drewN q) := below_drewN8 (Below.refl _ _) q
  clear Ry0
  replace HA0 : Hid (Code8 (w9.drewN q) a0 N0 f0) := HA0.out.below hb
  replace HA1 : Hid (Code8 (w9.drewN q) a1 N1 f1) := HA1.out.below hb
  replace HA2 : Hid (Code8 (w9.drewN q) a2 N2 f2) := HA2.out.below hb
  replace Rx0 : Hid (Own8 (w9.drewN q) x0 N0 f0) := Rx0.out.below hb
  replace Rx1 : Hid (Own8 (w9.drewN q) x1 N1 f1) := Rx1.out.below hb
  replace Rx2 : Hid (Own8 (w9.drewN q) x2 N2 f2) := Rx2.out.below hb
  replace HB : Hid (Below w.heap.size w (w9.drewN q)) := HB.out.trans (hb.mono HB.out.size)
  clear hb
  generalize w9.drewN q = v0 at *
  go_wp2_with fail
  refine (toByteS_any a1 N1 C1 f1 _ HA1.out h1).mono ?_
  rintro e w11 ⟨rfl, ho, hb⟩
  have Ry1 : Hid (Own8 w11 v0.heap.size N1 f1) := ho
  clear ho
  replace HA0 : Hid (Code8 w11 a0 N0 f0) := HA0.out.below hb
  replace HA1 : Hid (Code8 w11 a1 N1 f1) := HA1.out.below hb
  replace HA2 : Hid (Code8 w11 a2 N2 f2) := HA2.out.below hb
  replace Rx0 : Hid (Own8 w11 x0 N0 f0) := Rx0.out.below hb
  replace Rx1 : Hid (Own8 w11 x1 N1 f1) := Rx1.out.below hb
  replace Rx2 : Hid (Own8 w11 x2 N2 f2) := Rx2.out.below hb
  replace HB : Hid (Below w.heap.size w w11) := HB.out.trans (hb.mono HB.out.size)
  clear hb
  generalize v0.heap.size = y1 at *
  go_wp2_with fail
  refine (eqByteS_yes _ _ N1 _ _ f1 _ Rx1.out.code Ry1.out.code h1).mono ?_
  rintro e w12 ⟨rfl, q, rfl⟩
  have hb : Below w11.heap.size w11 (w11.drewN q) := below_drewN8 (Below.refl _ _) q
  clear Ry1
  replace HA0 : Hid (Code8 (w11.drewN q) a0 N0 f0) := HA0.out.below hb
  replace HA1 : Hid (Code8 (w11.drewN q) a1 N1 f1) := HA1.out.below hb
  replace HA2 : Hid (Code8 (w11.drewN q) a2 N2 f2) := HA2.out.below hb
  replace Rx0 : Hid (Own8 (w11.drewN q) x0 N0 f0) := Rx0.out.below hb
  replace Rx1 : Hid (Own8 (w11.drewN q) x1 N1 f1) := Rx1.out.below hb
  replace Rx2 : Hid (Own8 (w11.drewN q) x2 N2 f2) := Rx2.out.below hb
  replace HB : Hid (Below w.heap.size w (w11.drewN q)) := HB.out.trans (hb.mono HB.out.size)
  clear hb
  generalize w11.drewN q = v1 at *
  go_wp2_with fail
  refine (toByteS_any a2 N2 C2 f2 _ HA2.out h2).mono ?_
  rintro e w13 ⟨rfl, ho, hb⟩
  have Ry2 : Hid (Own8 w13 v1.heap.size N2 f2) := ho
  clear ho
  replace HA0 : Hid (Code8 w13 a0 N0 f0) := HA0.out.below hb
  replace HA1 : Hid (Code8 w13 a1 N1 f1) := HA1.out.below hb
  replace HA2 : Hid (Code8 w13 a2 N2 f2) := HA2.out.below hb
  replace Rx0 : Hid (Own8 w13 x0 N0 f0) := Rx0.out.below hb
  replace Rx1 : Hid (Own8 w13 x1 N1 f1) := Rx1.out.below hb
  replace Rx2 : Hid (Own8 w13 x2 N2 f2) := Rx2.out.below hb
  replace HB : Hid (Below w.heap.size w w13) := HB.out.trans (hb.mono HB.out.size)
  clear hb
  generalize v1.heap.size = y2 at *
  go_wp2_with fail
  refine (eqByteS_yes _ _ N2 _ _ f2 _ Rx2.out.code Ry2.out.code h2).mono ?_
  rintro e w14 ⟨rfl, q, rfl⟩
  have hb : Below w13.heap.size w13 (w13.drewN q) := below_drewN8 (Below.refl _ _) q
  clear Ry2
  replace HA0 : Hid (Code8 (w13.drewN q) a0 N0 f0) := HA0.out.below hb
  replace HA1 : Hid (Code8 (w13.drewN q) a1 N1 f1) := HA1.out.below hb
  replace HA2 : Hid (Code8 (w13.drewN q) a2 N2 f2) := HA2.out.below hb
  replace Rx0 : Hid (Own8 (w13.drewN q) x0 N0 f0) := Rx0.out.below hb
  replace Rx1 : Hid (Own8 (w13.drewN q) x1 N1 f1) := Rx1.out.below hb
  replace Rx2 : Hid (Own8 (w13.drewN q) x2 N2 f2) := Rx2.out.below hb
  replace HB : Hid (Below w.heap.size w (w13.drewN q)) := HB.out.trans (hb.mono HB.out.size)
  clear hb
  generalize w13.drewN q = v2 at *
  go_wp2
  go_ret
  exact ⟨rfl, HB.out⟩
theorem lawHkdf_big (a0 : Option Addr) (N0 C0 : Nat) (a1 : Option Addr) (N1 C1 : Nat) (a2 : Option Addr) (N2 C2 : Nat) (n3 : Int) (hbig : ¬ (N0 ≤ 1048576 ∧ N1 ≤ 1048576 ∧ N2 ≤ 1048576)) (w : World) :
    Calls Tryd.prog 4 #[.slice a0 N0 C0, .slice a1 N1 C1, .slice a2 N2 C2, .int .i64 n3] w fun e w' => e = .returned (.bool true) ∧ Below w.heap.size w w' := by
  by_cases q0 : N0 ≤ 1048576
  rotate_left
  · have g : (1048576 : Int) < (N0 : Int) := by omega
    clear hbig
    go_enter Tryd.func4, Tryd.ntmps4
    go_wp2
    go_ret
    exact ⟨rfl, Below.refl _ _⟩
  have p0 : ¬ (1048576 : Int) < (N0 : Int) := by omega
  by_cases q1 : N1 ≤ 1048576
  rotate_left
  · have g : (1048576 : Int) < (N1 : Int) := by omega
    clear hbig
    go_enter Tryd.func4, Tryd.ntmps4
    go_wp2
    go_ret
    exact ⟨rfl, Below.refl _ _⟩
  have p1 : ¬ (1048576 : Int) < (N1 : Int) := by omega
  have g : (1048576 : Int) < (N2 : Int) := by omega
  clear hbig
  go_enter Tryd.func4, Tryd.ntmps4
  go_wp2
  go_ret
  exact ⟨rfl, Below.refl _ _⟩
end Go.Proofs.YtbajdphiaibmgabDoor
