/-
  Texts of the proof, joined: KeysS.
-/
import Derived.Test.YtkmakpbphdjbcaaGreatDoorQ38
namespace Go.Proofs.YtkmakpbphdjbcaaGreatDoor
open Go.ChangeShapes Go.WideShapes Go.ChangeAt Go.RowKit
set_option maxRecDepth 100000 in
set_option maxHeartbeats 2000000 in
theorem l04Keys_any (k : ByteArray) (hk : k.size = 32) (w : World) :
    Calls Tryz.prog 72 #[.string k] w fun e w' => e = .returned (.tuple #[.string (encS k), .string (tagS k)]) ∧ Below w.heap.size w w' := by
  have MA : Hid (∀ (b0 b1 c : Nat) (w : World), Code8 w (some ⟨b0, 0, none⟩) 4 sealF → Code8 w (some ⟨b1, 0, none⟩) 32 (strB k) → Calls Tryz.prog 86 #[.slice (some ⟨b0, 0, none⟩) 4 4, .slice (some ⟨b1, 0, none⟩) 32 c] w fun e w' => e = .returned (.string (secS k)) ∧ Below w.heap.size w w') := fun b0 b1 c w h0 h1 => l03Hmac_any b0 0 4 4 b1 0 32 c sealF (strB k) sealF_lt (strB_lt k) (by omega) (by omega) w h0 h1
  have EX : Hid (∀ (b : Nat) (w : World), Code8 w (some ⟨b, 0, none⟩) 4 keysF → Calls Tryz.prog 85 #[.string (secS k), .slice (some ⟨b, 0, none⟩) 4 4, .int .i64 64] w fun e w' => e = .returned (.string (kstr (pairF k) 0 64)) ∧ Below w.heap.size w w') := fun b w h => by
    have := l03Expand_any (secS k) (by rw [secS_size]; omega) b 0 4 4 64 keysF keysF_lt (by omega) (by omega) w h
    rw [secS_size] at this
    exact this
  have lG : ∀ i, pairF k i < 256 := pairF_lt k
  have hE : encS k = kstr (pairF k) 0 32 := rfl
  have hT : tagS k = kstr (pairF k) 32 32 := rfl
  rw [hE, hT]
  clear hE hT
  generalize pairF k = G at *
  generalize secS k = SE at *
  have hbs : (kstr G 0 64).size = 64 := kstr_size _ _ _
  have hx1 : (kstr G 0 64).extract 0 32 = kstr G 0 32 := by
    have := kstr_extract (kstr G 0 64) 0 32 (by rw [hbs]; omega)
    rw [Nat.zero_add] at this
    rw [this]
    exact kstr_congr (fun i hi => by rw [Nat.zero_add, strB_kstr _ 0 64 i (by rw [Nat.zero_add]; exact lG _) (by omega), Nat.zero_add])
  have hx2 : (kstr G 0 64).extract 32 64 = kstr G 32 32 := by
    have := kstr_extract (kstr G 0 64) 32 32 (by rw [hbs]; omega)
    rw [this]
    exact kstr_congr (fun i hi => by rw [strB_kstr _ 0 64 (32 + i) (by rw [Nat.zero_add]; exact lG _) (by omega), Nat.zero_add])
  generalize kstr G 0 64 = BO at *
  generalize kstr G 0 32 = S1 at *
  generalize kstr G 32 32 = S2 at *
  clear lG
  obtain ⟨wA, hwA⟩ : ∃ wA, wA = w.alloc (.cells #[.int .u8 115, .int .u8 101, .int .u8 97, .int .u8 108] 5 (4, 5)) := ⟨_, rfl⟩
  have hcv1 : (convert 22 22 (.slice (some ⟨w.heap.size, 0, none⟩) 4 4)).run Tryz.prog (w.alloc (.cells #[.int .u8 115, .int .u8 101, .int .u8 97, .int .u8 108] 5)) = .ok (.slice (some ⟨w.heap.size, 0, none⟩) 4 4) wA := by
    rw [hwA]
    exact conv_rowS w #[.int .u8 115, .int .u8 101, .int .u8 97, .int .u8 108] 4 4
  have AA : Below w.heap.size w wA := by rw [hwA]; exact (Below.refl _ _).alloc (Nat.le_refl _) _
  have SC : Code8 wA (some ⟨w.heap.size, 0, none⟩) 4 sealF := by rw [hwA]; exact seal_code w
  clear hwA
  obtain ⟨w2, c2, hcv2, hk2, hb2, _⟩ := bytesOfM k wA
  rw [hk] at hcv2 hk2
  have H0 : Hid (Code8 w2 (some ⟨w.heap.size, 0, none⟩) 4 sealF) := SC.below hb2
  have H1 : Hid (Code8 w2 (some ⟨wA.heap.size, 0, none⟩) 32 (strB k)) := hk2
  have B2 : Hid (Below w.heap.size w w2) := AA.trans (hb2.mono AA.size)
  clear AA hk2 hb2 SC
  generalize wA.heap.size = bA0 at *
  go_enter Tryz.func72, Tryz.ntmps72
  go_wp2_with fail
  refine (MA.out _ _ _ _ H0.out H1.out).mono ?_
  rintro e w3 ⟨rfl, hb3⟩
  have B3 : Hid (Below w.heap.size w w3) := B2.out.trans (hb3.mono B2.out.size)
  clear hb3 B2 H0 H1 hcv1 hcv2 MA
  obtain ⟨wB, hwB⟩ : ∃ wB, wB = w3.alloc (.cells #[.int .u8 107, .int .u8 101, .int .u8 121, .int .u8 115] 5 (4, 5)) := ⟨_, rfl⟩
  have hcv5 : (convert 22 22 (.slice (some ⟨w3.heap.size, 0, none⟩) 4 4)).run Tryz.prog (w3.alloc (.cells #[.int .u8 107, .int .u8 101, .int .u8 121, .int .u8 115] 5)) = .ok (.slice (some ⟨w3.heap.size, 0, none⟩) 4 4) wB := by
    rw [hwB]
    exact conv_rowS w3 #[.int .u8 107, .int .u8 101, .int .u8 121, .int .u8 115] 4 4
  have AA : Below w3.heap.size w3 wB := by rw [hwB]; exact (Below.refl _ _).alloc (Nat.le_refl _) _
  have B4 : Hid (Below w.heap.size w wB) := B3.out.trans (AA.mono B3.out.size)
  have KC : Hid (Code8 wB (some ⟨w3.heap.size, 0, none⟩) 4 keysF) := by show Code8 _ _ _ _; rw [hwB]; exact keys_code w3
  clear AA B3 hwB
  go_wp2_with fail
  refine (EX.out w3.heap.size _ KC.out).mono ?_
  rintro e w5 ⟨rfl, hb5⟩
  have B5 : Hid (Below w.heap.size w w5) := B4.out.trans (hb5.mono B4.out.size)
  clear hb5 B4 hcv5 EX
  go_wp2_with fail
  go_quiet (fail)
  go_wp2
  go_ret2
  exact ⟨rfl, below_drewN8 B5.out _⟩
end Go.Proofs.YtkmakpbphdjbcaaGreatDoor
