/-
  The two keys of a key: the model's l04Keys.
-/
import Derived.Test.YtbcaccmmbhbbdaaDoorJ01
import Derived.Test.YtbcaccmmbhbbdaaDoorByteS
import Derived.Test.YtbcaccmmbhbbdaaDoorSlices
import Derived.Test.YtbcaccmmbhbbdaaDoorAfter
import Derived.Test.YtbcaccmmbhbbdaaDoorJ11
import Derived.Test.YtbcaccmmbhbbdaaDoorJ12
import Derived.Test.YtbcaccmmbhbbdaaDoorJ15
namespace Go.Proofs.YtbcaccmmbhbbdaaDoor
open Go.ChangeShapes Go.WideShapes Go.ChangeAt Go.RowKit
set_option maxRecDepth 100000 in
set_option maxHeartbeats 2000000 in
theorem l04Keys_any (k : ByteArray) (hk : k.size = 32) (w : World) :
    Calls Tryd.prog 39 #[.string k] w fun e w' => e = .returned (.tuple #[.string (encS k), .string (tagS k)]) ∧ Below w.heap.size w w' := by
  have MA : Hid (∀ (b0 b1 c : Nat) (w : World), Code8 w (some ⟨b0, 0, none⟩) 4 sealF → Code8 w (some ⟨b1, 0, none⟩) 32 (strB k) → Calls Tryd.prog 51 #[.slice (some ⟨b0, 0, none⟩) 4 4, .slice (some ⟨b1, 0, none⟩) 32 c] w fun e w' => e = .returned (.string (secS k)) ∧ Below w.heap.size w w') := fun b0 b1 c w h0 h1 => l03Hmac_any b0 0 4 4 b1 0 32 c sealF (strB k) sealF_lt (strB_lt k) (by omega) (by omega) w h0 h1
  have EX : Hid (∀ (b : Nat) (w : World), Code8 w (some ⟨b, 0, none⟩) 4 keysF → Calls Tryd.prog 50 #[.string (secS k), .slice (some ⟨b, 0, none⟩) 4 4, .int .i64 64] w fun e w' => e = .returned (.string (kstr (pairF k) 0 64)) ∧ Below w.heap.size w w') := fun b w h => by
    have := l03Expand_any (secS k) (by rw [secS_size]; omega) b 0 4 4 64 keysF keysF_lt (by omega) (by omega) w h
    rw [secS_size] at this
    exact this
  have lG : ∀ i, pairF k i < 256 := pairF_lt k
  have hE : encS k = kstr (pairF k) 0 32 := rfl
  have hT : tagS k = kstr (pairF k) 32 32 := rfl
  rw [hE, hT]
  clear hE hT
  generalize pairF k = G at *
  generalize secS k = SE at *
  have hbs : (kstr G 0 64).size = 64 := kstr_size _ _ _
  have hx1 : (kstr G 0 64).extract 0 32 = kstr G 0 32 := by
    have := kstr_extract (kstr G 0 64) 0 32 (by rw [hbs]; omega)
    rw [Nat.zero_add] at this
    rw [this]
    exact kstr_congr (fun i hi => by rw [Nat.zero_add, strB_kstr _ 0 64 i (by rw [Nat.zero_add]; exact lG _) (by omega), Nat.zero_add])
  have hx2 : (kstr G 0 64).extract 32 64 = kstr G 32 32 := by
    have := kstr_extract (kstr G 0 64) 32 32 (by rw [hbs]; omega)
    rw [this]
    exact kstr_congr (fun i hi => by rw [strB_kstr _ 0 64 (32 + i) (by rw [Nat.zero_add]; exact lG _) (by omega), Nat.zero_add])
  generalize kstr G 0 64 = BO at *
  generalize kstr G 0 32 = S1 at *
  generalize kstr G 32 32 = S2 at *
  clear lG
  obtain ⟨wA, hwA⟩ : ∃ wA, wA = w.alloc (.cells #[.int .u8 115, .int .u8 101, .int .u8 97, .int .u8 108] 5 (4, 5)) := ⟨_, rfl⟩
  have hcv1 : (convert 22 22 (.slice (some ⟨w.heap.size, 0, none⟩) 4 4)).run Tryd.prog (w.alloc (.cells #[.int .u8 115, .int .u8 101, .int .u8 97, .int .u8 108] 5)) = .ok (.slice (some ⟨w.heap.size, 0, none⟩) 4 4) wA := by
    rw [hwA]
    exact conv_rowS w #[.int .u8 115, .int .u8 101, .int .u8 97, .int .u8 108] 4 4
  have AA : Below w.heap.size w wA := by rw [hwA]; exact (Below.refl _ _).alloc (Nat.le_refl _) _
  have SC : Code8 wA (some ⟨w.heap.size, 0, none⟩) 4 sealF := by rw [hwA]; exact seal_code w
  clear hwA
  obtain ⟨w2, c2, hcv2, hk2, hb2, _⟩ := bytesOfM k wA
  rw [hk] at hcv2 hk2
  have H0 : Hid (Code8 w2 (some ⟨w.heap.size, 0, none⟩) 4 sealF) := SC.below hb2
  have H1 : Hid (Code8 w2 (some ⟨wA.heap.size, 0, none⟩) 32 (strB k)) := hk2
  have B2 : Hid (Below w.heap.size w w2) := AA.trans (hb2.mono AA.size)
  clear AA hk2 hb2 SC
  generalize wA.heap.size = bA0 at *
  go_enter Tryd.func39, Tryd.ntmps39
  go_wp2_with fail
  refine (MA.out _ _ _ _ H0.out H1.out).mono ?_
  rintro e w3 ⟨rfl, hb3⟩
  have B3 : Hid (Below w.heap.size w w3) := B2.out.trans (hb3.mono B2.out.size)
  clear hb3 B2 H0 H1 hcv1 hcv2 MA
  obtain ⟨wB, hwB⟩ : ∃ wB, wB = w3.alloc (.cells #[.int .u8 107, .int .u8 101, .int .u8 121, .int .u8 115] 5 (4, 5)) := ⟨_, rfl⟩
  have hcv5 : (convert 22 22 (.slice (some ⟨w3.heap.size, 0, none⟩) 4 4)).run Tryd.prog (w3.alloc (.cells #[.int .u8 107, .int .u8 101, .int .u8 121, .int .u8 115] 5)) = .ok (.slice (some ⟨w3.heap.size, 0, none⟩) 4 4) wB := by
    rw [hwB]
    exact conv_rowS w3 #[.int .u8 107, .int .u8 101, .int .u8 121, .int .u8 115] 4 4
  have AA : Below w3.heap.size w3 wB := by rw [hwB]; exact (Below.refl _ _).alloc (Nat.le_refl _) _
  have B4 : Hid (Below w.heap.size w wB) := B3.out.trans (AA.mono B3.out.size)
  have KC : Hid (Code8 wB (some ⟨w3.heap.size, 0, none⟩) 4 keysF) := by show Code8 _ _ _ _; rw [hwB]; exact keys_code w3
  clear AA B3 hwB
  go_wp2_with fail
  refine (EX.out w3.heap.size _ KC.out).mono ?_
  rintro e w5 ⟨rfl, hb5⟩
  have B5 : Hid (Below w.heap.size w w5) := B4.out.trans (hb5.mono B4.out.size)
  clear hb5 B4 hcv5 EX
  go_wp2_with fail
  go_quiet (fail)
  go_wp2
  go_ret2
  exact ⟨rfl, below_drewN8 B5.out _⟩
end Go.Proofs.YtbcaccmmbhbbdaaDoor

/-
  laws.markByteS that goes on with the marks of another slice.
-/
namespace Go.Proofs.YtbcaccmmbhbbdaaDoor
open Go.ChangeShapes Go.WideShapes Go.ChangeAt Go.RowKit
theorem markOwnK (b n c k0 : Nat) (f : Nat → Nat) (w : World) (h : Own8 w b n f) (hn : n ≤ 1048576) (hk0 : k0 ≤ 2097152) :
    Calls Tryd.prog 21 #[.slice (some ⟨b, 0, none⟩) n c, .int .i64 (k0 : Int)] w fun e w' => e = .returned (.int .i64 ((k0 + n : Nat) : Int)) ∧ OnlyB b w w' := by
  have HR0 : Hid (Own8 w b n f) := h
  clear h
  go_enter Tryd.func21, Tryd.ntmps21
  go_wp2
  go_loopw [1, 5] (fun x i wr => ∃ (k : Nat) (F : Nat → Nat), k ≤ n ∧ i = .int .i64 k ∧ x = .int .i64 (k0 + k : Nat) ∧ Own8 wr b n F ∧ OnlyB b w wr) (fun _ i _ => n - (intOf i).toNat)
  case atStart => exact ⟨0, f, by omega, rfl, rfl, HR0.out, OnlyB.refl _ _⟩
  case round =>
    obtain ⟨k, F, hk, rfl, rfl, hrow, hb⟩ := hrel
    have HR : Hid (Own8 wr b n F) := hrow
    have HB : Hid (OnlyB b w wr) := hb
    by_cases hlt : k < n
    · have c2 := hrow.cell hlt
      have f2 := hrow.frozen k
      obtain ⟨M, hM⟩ : ∃ M : Nat, M = (k0 + k) % 256 := ⟨_, rfl⟩
      have ew : ((k0 : Int) + (k : Int)) % 256 = (M : Int) := by omega
      clear hrow hb hM
      go_wp2
      go_roundw
      case rel => exact ⟨k + 1, _, by omega, by go_num, by go_num, HR.out.set k M, HB.out.setCell k _⟩
      case measure => simp [intOf]; omega
    · have e : k = n := by omega
      have E : Hid (k = n) := e
      clear hrow hb e
      go_wp2
      go_ret
      exact ⟨by rw [E.out]; rfl, HB.out⟩
end Go.Proofs.YtbcaccmmbhbbdaaDoor

/-
  The exact law of SealBytes: what it asks of the program and of the model.
-/
namespace Go.Proofs.YtbcaccmmbhbbdaaDoor
open Go.ChangeShapes Go.WideShapes Go.ChangeAt Go.RowKit
set_option maxRecDepth 100000 in
set_option maxHeartbeats 4000000 in
theorem lawSealBytes_of (t0 t1 : ByteArray) (a2 : Option Addr) (N2 C2 : Nat) (a3 : Option Addr) (N3 C3 n : Nat) (f2 f3 g : Nat → Nat) (code : Int) (h0 : t0.size ≤ 1048576) (h1 : t1.size ≤ 1048576) (h2 : N2 ≤ 1048576) (h3 : N3 ≤ 1048576) (hn : n ≤ 1048576)
    (hsp : ∀ (b2 b3 : Nat) (w : World), Code8 w (some ⟨b2, 0, none⟩) N2 f2 → Code8 w (some ⟨b3, 0, none⟩) N3 f3 → Calls Tryd.prog 14 #[.string t0, .string t1, .slice (some ⟨b2, 0, none⟩) N2 N2, .slice (some ⟨b3, 0, none⟩) N3 N3] w fun e w' => RetI w w' e n g code ∧ Below w.heap.size w w')
    (him : ∀ (b2 b3 : Nat) (w : World), Code8 w (some ⟨b2, 0, none⟩) N2 f2 → Code8 w (some ⟨b3, 0, none⟩) N3 f3 → Tabs w → Calls Tryd.prog 13 #[.string t0, .string t1, .slice (some ⟨b2, 0, none⟩) N2 N2, .slice (some ⟨b3, 0, none⟩) N3 N3] w fun e w' => RetI w w' e n g code ∧ Below w.heap.size w w')
    (w : World) (c2 : Code8 w a2 N2 f2) (c3 : Code8 w a3 N3 f3) (ht : Tabs w) :
    Calls Tryd.prog 5 #[.string t0, .string t1, .slice a2 N2 C2, .slice a3 N3 C3] w fun e w' => e = .returned (.bool true) ∧ Below w.heap.size w w' := by
  have SP : Hid (∀ (b2 b3 : Nat) (w : World), Code8 w (some ⟨b2, 0, none⟩) N2 f2 → Code8 w (some ⟨b3, 0, none⟩) N3 f3 → Calls Tryd.prog 14 #[.string t0, .string t1, .slice (some ⟨b2, 0, none⟩) N2 N2, .slice (some ⟨b3, 0, none⟩) N3 N3] w fun e w' => RetI w w' e n g code ∧ Below w.heap.size w w') := hsp
  have IM : Hid (∀ (b2 b3 : Nat) (w : World), Code8 w (some ⟨b2, 0, none⟩) N2 f2 → Code8 w (some ⟨b3, 0, none⟩) N3 f3 → Tabs w → Calls Tryd.prog 13 #[.string t0, .string t1, .slice (some ⟨b2, 0, none⟩) N2 N2, .slice (some ⟨b3, 0, none⟩) N3 N3] w fun e w' => RetI w w' e n g code ∧ Below w.heap.size w w') := him
  have HA2 : Hid (Code8 w a2 N2 f2) := c2
  have e2 : ¬ (1048576 : Int) < (N2 : Int) := by omega
  have HA3 : Hid (Code8 w a3 N3 f3) := c3
  have e3 : ¬ (1048576 : Int) < (N3 : Int) := by omega
  have e0 : ¬ (1048576 : Int) < (t0.size : Int) := by omega
  have e1 : ¬ (1048576 : Int) < (t1.size : Int) := by omega
  have HT : Hid (Tabs w) := ht
  have HB : Hid (Below w.heap.size w w) := Below.refl _ _
  have hcc : (code != code) = false := by simp
  have hmm : (((n + 1 : Nat) : Int) != ((n + 1 : Nat) : Int)) = false := by simp
  have hmn : ¬ ((n + 1 : Nat) : Int) < 0 := by omega
  have hkn : ¬ ((N2 + 1 + N3 : Nat) : Int) < 0 := by omega
  clear hsp him c2 c3 ht
  go_enter Tryd.func5, Tryd.ntmps5
  go_wp2_with fail
  refine (toByteS_any a2 N2 C2 f2 _ (HA2.out.below HB.out) h2).mono ?_
  rintro e w1 ⟨rfl, ho, hb⟩
  have Rs2 : Hid (Own8 w1 w.heap.size N2 f2) := ho
  clear ho
  replace HB : Hid (Below w.heap.size w w1) := HB.out.trans (hb.mono HB.out.size)
  clear hb
  obtain ⟨s2, hs2⟩ : ∃ x, x = w.heap.size := ⟨_, rfl⟩
  rw [← hs2] at Rs2 ⊢
  clear hs2
  go_wp2_with fail
  refine (toByteS_any a3 N3 C3 f3 _ (HA3.out.below HB.out) h3).mono ?_
  rintro e w2 ⟨rfl, ho, hb⟩
  have Rs3 : Hid (Own8 w2 w1.heap.size N3 f3) := ho
  clear ho
  replace Rs2 : Hid (Own8 w2 s2 N2 f2) := Rs2.out.below hb
  replace HB : Hid (Below w.heap.size w w2) := HB.out.trans (hb.mono HB.out.size)
  clear hb
  generalize w1.heap.size = s3 at *
  go_wp2_with fail
  refine (SP.out s2 s3 _ Rs2.out.code Rs3.out.code).mono ?_
  rintro e wS ⟨⟨aw, cw, rfl, hw⟩, hb⟩
  have HW : Hid (Code8 wS aw n g) := hw.code
  clear hw Rs2 Rs3 SP
  replace HB : Hid (Below w.heap.size w wS) := HB.out.trans (hb.mono HB.out.size)
  clear hb
  have HS : Hid (Below wS.heap.size wS wS) := Below.refl _ _
  go_wp2_with fail
  refine (toByteS_any a2 N2 C2 f2 _ (HA2.out.below HB.out) h2).mono ?_
  rintro e w4 ⟨rfl, ho, hb⟩
  have Rx2 : Hid (Own8 w4 wS.heap.size N2 f2) := ho
  clear ho
  have Lwx2 : Hid (w.heap.size ≤ wS.heap.size) := HB.out.size
  have LSx2 : Hid (wS.heap.size ≤ wS.heap.size) := HS.out.size
  have LBx2 : Hid (wS.heap.size < w4.heap.size) := Rx2.out.lt
  replace HS : Hid (Below wS.heap.size wS w4) := HS.out.trans (hb.mono HS.out.size)
  replace HB : Hid (Below w.heap.size w w4) := HB.out.trans (hb.mono HB.out.size)
  clear hb
  obtain ⟨x2, hx2⟩ : ∃ x, x = wS.heap.size := ⟨_, rfl⟩
  replace LSx2 : Hid (wS.heap.size ≤ x2) := Nat.le_of_eq hx2.symm
  rw [← hx2] at Rx2 Lwx2 LBx2 ⊢
  clear hx2
  go_wp2_with fail
  refine (toByteS_any a3 N3 C3 f3 _ (HA3.out.below HB.out) h3).mono ?_
  rintro e w5 ⟨rfl, ho, hb⟩
  have Rx3 : Hid (Own8 w5 w4.heap.size N3 f3) := ho
  clear ho
  have Lwx3 : Hid (w.heap.size ≤ w4.heap.size) := HB.out.size
  have LSx3 : Hid (wS.heap.size ≤ w4.heap.size) := HS.out.size
  have LBx3 : Hid (w4.heap.size < w5.heap.size) := Rx3.out.lt
  have L23 : Hid (x2 < w4.heap.size) := Rx2.out.lt
  replace Rx2 : Hid (Own8 w5 x2 N2 f2) := Rx2.out.below hb
  replace HS : Hid (Below wS.heap.size wS w5) := HS.out.trans (hb.mono HS.out.size)
  replace HB : Hid (Below w.heap.size w w5) := HB.out.trans (hb.mono HB.out.size)
  clear hb
  generalize w4.heap.size = x3 at *
  go_wp2_with fail
  refine (IM.out x2 x3 _ Rx2.out.code Rx3.out.code (HT.out.below HB.out)).mono ?_
  rintro e w6 ⟨⟨ag, cg, rfl, hg⟩, hb⟩
  have HG : Hid (OwnS w6 w5.heap.size ag n g) := hg
  have SG : Hid (w5.heap.size ≤ w6.heap.size) := hb.size
  have G2 : Hid (x2 < w5.heap.size) := Rx2.out.lt
  have G3 : Hid (x3 < w5.heap.size) := Rx3.out.lt
  clear hg
  replace Rx2 : Hid (Own8 w6 x2 N2 f2) := Rx2.out.below hb
  replace Rx3 : Hid (Own8 w6 x3 N3 f3) := Rx3.out.below hb
  replace HS : Hid (Below wS.heap.size wS w6) := HS.out.trans (hb.mono HS.out.size)
  replace HB : Hid (Below w.heap.size w w6) := HB.out.trans (hb.mono HB.out.size)
  clear hb
  generalize w5.heap.size = gB at *
  go_wp2_with fail
  refine (eqByteS_yes ag aw n cg cw g _ HG.out.code (HW.out.below HS.out) hn).mono ?_
  rintro e w7 ⟨rfl, q, rfl⟩
  have hb : Below w6.heap.size w6 (w6.drewN q) := below_drewN8 (Below.refl _ _) q
  replace Rx2 : Hid (Own8 (w6.drewN q) x2 N2 f2) := Rx2.out.below hb
  replace Rx3 : Hid (Own8 (w6.drewN q) x3 N3 f3) := Rx3.out.below hb
  replace HS : Hid (Below wS.heap.size wS (w6.drewN q)) := HS.out.trans (hb.mono HS.out.size)
  replace HG : Hid (OwnS (w6.drewN q) gB ag n g) := HG.out.below hb
  replace SG : Hid (gB ≤ (w6.drewN q).heap.size) := Nat.le_trans SG.out hb.size
  replace HB : Hid (Below w.heap.size w (w6.drewN q)) := HB.out.trans (hb.mono HB.out.size)
  clear hb
  generalize w6.drewN q = v7 at *
  go_wp2_with fail
  refine (toByteS_any a2 N2 C2 f2 _ (HA2.out.below HB.out) h2).mono ?_
  rintro e w8 ⟨rfl, ho, hb⟩
  have Ry2 : Hid (Own8 w8 v7.heap.size N2 f2) := ho
  clear ho
  replace Rx2 : Hid (Own8 w8 x2 N2 f2) := Rx2.out.below hb
  replace Rx3 : Hid (Own8 w8 x3 N3 f3) := Rx3.out.below hb
  replace HS : Hid (Below wS.heap.size wS w8) := HS.out.trans (hb.mono HS.out.size)
  replace HG : Hid (OwnS w8 gB ag n g) := HG.out.below hb
  replace SG : Hid (gB ≤ w8.heap.size) := Nat.le_trans SG.out hb.size
  replace HB : Hid (Below w.heap.size w w8) := HB.out.trans (hb.mono HB.out.size)
  clear hb
  generalize v7.heap.size = y2 at *
  go_wp2_with fail
  refine (eqByteS_yes _ _ N2 _ _ f2 _ Rx2.out.code Ry2.out.code h2).mono ?_
  rintro e w9 ⟨rfl, q, rfl⟩
  have hb : Below w8.heap.size w8 (w8.drewN q) := below_drewN8 (Below.refl _ _) q
  replace Rx2 : Hid (Own8 (w8.drewN q) x2 N2 f2) := Rx2.out.below hb
  replace Rx3 : Hid (Own8 (w8.drewN q) x3 N3 f3) := Rx3.out.below hb
  replace Ry2 : Hid (Own8 (w8.drewN q) y2 N2 f2) := Ry2.out.below hb
  replace HS : Hid (Below wS.heap.size wS (w8.drewN q)) := HS.out.trans (hb.mono HS.out.size)
  replace HG : Hid (OwnS (w8.drewN q) gB ag n g) := HG.out.below hb
  replace SG : Hid (gB ≤ (w8.drewN q).heap.size) := Nat.le_trans SG.out hb.size
  replace HB : Hid (Below w.heap.size w (w8.drewN q)) := HB.out.trans (hb.mono HB.out.size)
  clear hb
  generalize w8.drewN q = v9 at *
  clear Ry2
  go_wp2_with fail
  refine (toByteS_any a3 N3 C3 f3 _ (HA3.out.below HB.out) h3).mono ?_
  rintro e w10 ⟨rfl, ho, hb⟩
  have Ry3 : Hid (Own8 w10 v9.heap.size N3 f3) := ho
  clear ho
  replace Rx2 : Hid (Own8 w10 x2 N2 f2) := Rx2.out.below hb
  replace Rx3 : Hid (Own8 w10 x3 N3 f3) := Rx3.out.below hb
  replace HS : Hid (Below wS.heap.size wS w10) := HS.out.trans (hb.mono HS.out.size)
  replace HG : Hid (OwnS w10 gB ag n g) := HG.out.below hb
  replace SG : Hid (gB ≤ w10.heap.size) := Nat.le_trans SG.out hb.size
  replace HB : Hid (Below w.heap.size w w10) := HB.out.trans (hb.mono HB.out.size)
  clear hb
  generalize v9.heap.size = y3 at *
  go_wp2_with fail
  refine (eqByteS_yes _ _ N3 _ _ f3 _ Rx3.out.code Ry3.out.code h3).mono ?_
  rintro e w11 ⟨rfl, q, rfl⟩
  have hb : Below w10.heap.size w10 (w10.drewN q) := below_drewN8 (Below.refl _ _) q
  replace Rx2 : Hid (Own8 (w10.drewN q) x2 N2 f2) := Rx2.out.below hb
  replace Rx3 : Hid (Own8 (w10.drewN q) x3 N3 f3) := Rx3.out.below hb
  replace Ry3 : Hid (Own8 (w10.drewN q) y3 N3 f3) := Ry3.out.below hb
  replace HS : Hid (Below wS.heap.size wS (w10.drewN q)) := HS.out.trans (hb.mono HS.out.size)
  replace HG : Hid (OwnS (w10.drewN q) gB ag n g) := HG.out.below hb
  replace SG : Hid (gB ≤ (w10.drewN q).heap.size) := Nat.le_trans SG.out hb.size
  replace HB : Hid (Below w.heap.size w (w10.drewN q)) := HB.out.trans (hb.mono HB.out.size)
  clear hb
  generalize w10.drewN q = v11 at *
  clear Ry3
  go_wp2_with fail
  refine (markOwn x2 N2 N2 f2 _ Rx2.out h2).mono ?_
  rintro e w12 ⟨rfl, -, ho⟩
  have sz := SG.out
  have BX : Below x2 v11 w12 := ho.toBelow (Nat.le_refl _) (by have := G2.out; omega)
  replace HG : Hid (OwnS w12 gB ag n g) := HG.out.onlyB ho G2.out
  replace SG : Hid (gB ≤ w12.heap.size) := Nat.le_trans sz ho.size
  replace HB : Hid (Below w.heap.size w w12) := HB.out.trans (BX.mono Lwx2.out)
  replace HS : Hid (Below wS.heap.size wS w12) := HS.out.trans (BX.mono LSx2.out)
  replace Rx3 : Hid (Own8 w12 x3 N3 f3) := Rx3.out.onlyB ho (by have := L23.out; omega)
  clear BX ho sz Rx2
  go_wp2_with fail
  refine (markOwnK x3 N3 N3 (N2 + 1) f3 _ Rx3.out h3 (by omega)).mono ?_
  rintro e w13 ⟨rfl, ho⟩
  have sz := SG.out
  have BX : Below x3 w12 w13 := ho.toBelow (Nat.le_refl _) (by have := G3.out; omega)
  replace HG : Hid (OwnS w13 gB ag n g) := HG.out.onlyB ho G3.out
  replace SG : Hid (gB ≤ w13.heap.size) := Nat.le_trans sz ho.size
  replace HB : Hid (Below w.heap.size w w13) := HB.out.trans (BX.mono Lwx3.out)
  replace HS : Hid (Below wS.heap.size wS w13) := HS.out.trans (BX.mono LSx3.out)
  clear BX ho sz Rx3
  go_wp2_with fail
  refine (eqByteS_yes ag aw n cg cw g _ HG.out.code (HW.out.below HS.out) hn).mono ?_
  rintro e w14 ⟨rfl, q, rfl⟩
  have hb : Below w13.heap.size w13 (w13.drewN q) := below_drewN8 (Below.refl _ _) q
  replace HS : Hid (Below wS.heap.size wS (w13.drewN q)) := HS.out.trans (hb.mono HS.out.size)
  replace HG : Hid (OwnS (w13.drewN q) gB ag n g) := HG.out.below hb
  replace SG : Hid (gB ≤ (w13.drewN q).heap.size) := Nat.le_trans SG.out hb.size
  replace HB : Hid (Below w.heap.size w (w13.drewN q)) := HB.out.trans (hb.mono HB.out.size)
  clear hb
  generalize w13.drewN q = v14 at *
  go_wp2_with fail
  refine (markS ag gB n cg g _ HG.out SG.out hn).mono ?_
  rintro e w15 ⟨rfl, hga, hba⟩
  replace HG : Hid (OwnS w15 gB ag n mk8) := hga
  replace SG : Hid (gB ≤ w15.heap.size) := Nat.le_trans SG.out hba.size
  replace HB : Hid (Below w.heap.size w w15) := HB.out.trans (hba.mono (by have := Lwx2.out; have := G2.out; omega))
  replace HS : Hid (Below wS.heap.size wS w15) := HS.out.trans (hba.mono (by have := LSx2.out; have := G2.out; omega))
  clear hga hba
  go_wp2_with fail
  refine (heldByteS_yes ag n cg _ HG.out.code hn).mono ?_
  rintro e w16 ⟨rfl, q, rfl⟩
  have hb : Below w15.heap.size w15 (w15.drewN q) := below_drewN8 (Below.refl _ _) q
  replace HS : Hid (Below wS.heap.size wS (w15.drewN q)) := HS.out.trans (hb.mono HS.out.size)
  replace HG : Hid (OwnS (w15.drewN q) gB ag n mk8) := HG.out.below hb
  replace SG : Hid (gB ≤ (w15.drewN q).heap.size) := Nat.le_trans SG.out hb.size
  replace HB : Hid (Below w.heap.size w (w15.drewN q)) := HB.out.trans (hb.mono HB.out.size)
  clear hb
  generalize w15.drewN q = v16 at *
  go_wp2_with fail
  refine (toByteS_any a2 N2 C2 f2 _ (HA2.out.below HB.out) h2).mono ?_
  rintro e w17 ⟨rfl, ho, hb⟩
  have Rz2 : Hid (Own8 w17 v16.heap.size N2 f2) := ho
  clear ho
  replace HS : Hid (Below wS.heap.size wS w17) := HS.out.trans (hb.mono HS.out.size)
  replace HG : Hid (OwnS w17 gB ag n mk8) := HG.out.below hb
  replace SG : Hid (gB ≤ w17.heap.size) := Nat.le_trans SG.out hb.size
  replace HB : Hid (Below w.heap.size w w17) := HB.out.trans (hb.mono HB.out.size)
  clear hb
  generalize v16.heap.size = z2 at *
  go_wp2_with fail
  refine (toByteS_any a3 N3 C3 f3 _ (HA3.out.below HB.out) h3).mono ?_
  rintro e w18 ⟨rfl, ho, hb⟩
  have Rz3 : Hid (Own8 w18 w17.heap.size N3 f3) := ho
  clear ho
  replace Rz2 : Hid (Own8 w18 z2 N2 f2) := Rz2.out.below hb
  replace HS : Hid (Below wS.heap.size wS w18) := HS.out.trans (hb.mono HS.out.size)
  replace HG : Hid (OwnS w18 gB ag n mk8) := HG.out.below hb
  replace SG : Hid (gB ≤ w18.heap.size) := Nat.le_trans SG.out hb.size
  replace HB : Hid (Below w.heap.size w w18) := HB.out.trans (hb.mono HB.out.size)
  clear hb
  generalize w17.heap.size = z3 at *
  go_wp2_with fail
  refine (IM.out z2 z3 _ Rz2.out.code Rz3.out.code (HT.out.below HB.out)).mono ?_
  rintro e w19 ⟨⟨ah, ch, rfl, hh⟩, hb⟩
  have HH : Hid (Code8 w19 ah n g) := hh.code
  clear hh Rz2 Rz3 IM HT
  replace HS : Hid (Below wS.heap.size wS w19) := HS.out.trans (hb.mono HS.out.size)
  replace HG : Hid (OwnS w19 gB ag n mk8) := HG.out.below hb
  replace SG : Hid (gB ≤ w19.heap.size) := Nat.le_trans SG.out hb.size
  replace HB : Hid (Below w.heap.size w w19) := HB.out.trans (hb.mono HB.out.size)
  clear hb
  go_wp2_with fail
  refine (eqByteS_yes ah aw n ch cw g _ HH.out (HW.out.below HS.out) hn).mono ?_
  rintro e w20 ⟨rfl, q, rfl⟩
  have hb : Below w19.heap.size w19 (w19.drewN q) := below_drewN8 (Below.refl _ _) q
  replace HS : Hid (Below wS.heap.size wS (w19.drewN q)) := HS.out.trans (hb.mono HS.out.size)
  replace HG : Hid (OwnS (w19.drewN q) gB ag n mk8) := HG.out.below hb
  replace SG : Hid (gB ≤ (w19.drewN q).heap.size) := Nat.le_trans SG.out hb.size
  replace HB : Hid (Below w.heap.size w (w19.drewN q)) := HB.out.trans (hb.mono HB.out.size)
  clear hb
  generalize w19.drewN q = v20 at *
  clear HH
  go_wp2_with fail
  refine (heldByteS_yes ag n cg _ HG.out.code hn).mono ?_
  rintro e w21 ⟨rfl, q, rfl⟩
  have hb : Below v20.heap.size v20 (v20.drewN q) := below_drewN8 (Below.refl _ _) q
  replace HS : Hid (Below wS.heap.size wS (v20.drewN q)) := HS.out.trans (hb.mono HS.out.size)
  replace HG : Hid (OwnS (v20.drewN q) gB ag n mk8) := HG.out.below hb
  replace SG : Hid (gB ≤ (v20.drewN q).heap.size) := Nat.le_trans SG.out hb.size
  replace HB : Hid (Below w.heap.size w (v20.drewN q)) := HB.out.trans (hb.mono HB.out.size)
  clear hb
  generalize v20.drewN q = v21 at *
  go_wp2
  go_ret
  exact ⟨rfl, HB.out⟩
theorem lawSealBytes_big (t0 t1 : ByteArray) (a2 : Option Addr) (N2 C2 : Nat) (a3 : Option Addr) (N3 C3 : Nat) (hbig : ¬ (t0.size ≤ 1048576 ∧ t1.size ≤ 1048576 ∧ N2 ≤ 1048576 ∧ N3 ≤ 1048576)) (w : World) :
    Calls Tryd.prog 5 #[.string t0, .string t1, .slice a2 N2 C2, .slice a3 N3 C3] w fun e w' => e = .returned (.bool true) ∧ Below w.heap.size w w' := by
  by_cases q0 : t0.size ≤ 1048576
  rotate_left
  · have g : (1048576 : Int) < (t0.size : Int) := by omega
    clear hbig
    go_enter Tryd.func5, Tryd.ntmps5
    go_wp2
    go_ret
    exact ⟨rfl, Below.refl _ _⟩
  have p0 : ¬ (1048576 : Int) < (t0.size : Int) := by omega
  by_cases q1 : t1.size ≤ 1048576
  rotate_left
  · have g : (1048576 : Int) < (t1.size : Int) := by omega
    clear hbig
    go_enter Tryd.func5, Tryd.ntmps5
    go_wp2
    go_ret
    exact ⟨rfl, Below.refl _ _⟩
  have p1 : ¬ (1048576 : Int) < (t1.size : Int) := by omega
  by_cases q2 : N2 ≤ 1048576
  rotate_left
  · have g : (1048576 : Int) < (N2 : Int) := by omega
    clear hbig
    go_enter Tryd.func5, Tryd.ntmps5
    go_wp2
    go_ret
    exact ⟨rfl, Below.refl _ _⟩
  have p2 : ¬ (1048576 : Int) < (N2 : Int) := by omega
  have g : (1048576 : Int) < (N3 : Int) := by omega
  clear hbig
  go_enter Tryd.func5, Tryd.ntmps5
  go_wp2
  go_ret
  exact ⟨rfl, Below.refl _ _⟩
end Go.Proofs.YtbcaccmmbhbbdaaDoor

/-
  The model's seal: l04Seal, l04Code, SealBytes.
-/
namespace Go.Proofs.YtbcaccmmbhbbdaaDoor
open Go.ChangeShapes Go.WideShapes Go.ChangeAt Go.RowKit
set_option maxRecDepth 100000 in
set_option maxHeartbeats 2000000 in
theorem l04Seal_any (k s : ByteArray) (xb xo m xc b o n c : Nat) (fx f : Nat → Nat) (hk : k.size = 32) (hs : s.size = 12) (hm : m ≤ 65536) (hn : n ≤ 65536) (hfx : ∀ i, fx i < 256) (hf : ∀ i, f i < 256) (w : World) (hx : Code8 w (some ⟨xb, xo, none⟩) m fx) (hc : Code8 w (some ⟨b, o, none⟩) n f) :
    Calls Tryd.prog 37 #[.string k, .string s, .slice (some ⟨xb, xo, none⟩) m xc, .slice (some ⟨b, o, none⟩) n c] w fun e w' => RetB w w' e (n + 16) (sealedF k s m fx n f) ∧ Below w.heap.size w w' := by
  obtain ⟨i0, hi⟩ := info_parts Tryd.info8
  have HI : Hid (Tryd.prog.info? 5 = some i0 ∧ i0.zero = some (.int .u8 0) ∧ i0.size = 1 ∧ i0.bytes = 1) := hi
  have KE : Hid (∀ w : World, Calls Tryd.prog 39 #[.string k] w fun e w' => e = .returned (.tuple #[.string (encS k), .string (tagS k)]) ∧ Below w.heap.size w w') := fun w => l04Keys_any k hk w
  have CX : Hid (∀ w : World, Code8 w (some ⟨b, o, none⟩) n f → Calls Tryd.prog 48 #[.string (encS k), .string s, .slice (some ⟨b, o, none⟩) n c] w fun e w' => RetC w w' e n (streamF k s f) ∧ Below w.heap.size w w') := fun w h => l02CtrC_any (encS k) s 8 b o n c f (.inr rfl) (by rw [encS_size]) hs hn hf w h
  have TG : Hid (∀ (g cg : Nat) (w : World), Code8 w (some ⟨xb, xo, none⟩) m fx → Code8 w (some ⟨g, 0, none⟩) n (streamF k s f) → Calls Tryd.prog 49 #[.string (tagS k), .string s, .slice (some ⟨xb, xo, none⟩) m xc, .slice (some ⟨g, 0, none⟩) n cg] w fun e w' => e = .returned (.string (tagT k s m fx n (streamF k s f))) ∧ Below w.heap.size w w') := fun g cg w h1 h2 => l04Tag_any k s xb xo m xc g 0 n cg fx _ hs hm hn hfx (streamF_lt k s hf) w h1 h2
  have EQ : Hid (sealedF k s m fx n f = fun i => if i < n then streamF k s f i else strB (tagT k s m fx n (streamF k s f)) (i - n)) := rfl
  rw [EQ.out]
  have hts : (tagT k s m fx n (streamF k s f)).size = 16 := tagT_size _ _ _ _ _ _
  clear EQ
  generalize tagT k s m fx n (streamF k s f) = TT at *
  generalize streamF k s f = F at *
  generalize encS k = E at *
  generalize tagS k = TK at *
  have HX : Hid (Code8 w (some ⟨xb, xo, none⟩) m fx) := hx
  have HC : Hid (Code8 w (some ⟨b, o, none⟩) n f) := hc
  clear hx hc hfx hf hk hs hi
  go_enter Tryd.func37, Tryd.ntmps37
  go_wp2_with fail
  refine (KE.out _).mono ?_
  rintro e w1 ⟨rfl, hb1⟩
  have B1 : Hid (Below w.heap.size w w1) := hb1
  clear hb1 KE
  go_wp2_with fail
  refine (CX.out _ (HC.out.below B1.out)).mono ?_
  rintro e w2 ⟨⟨g, cg, ⟨hg, hcg⟩, rfl, ho⟩, hb2⟩
  have B2 : Hid (Below w.heap.size w w2) := B1.out.trans (hb2.mono B1.out.size)
  have O2 : Hid (OwnC cg w2 g n F) := ho
  have hgw : w.heap.size ≤ g := Nat.le_trans B1.out.size hg
  clear ho hb2 hg B1 HC CX
  go_wp2_with fail
  refine (TG.out g cg _ (HX.out.below B2.out) O2.out.code).mono ?_
  rintro e w3 ⟨rfl, hb3⟩
  have B3 : Hid (Below w.heap.size w w3) := B2.out.trans (hb3.mono B2.out.size)
  have O3 : Hid (w3.ownsRow w.heap.size 5 1 (.slice (some ⟨g, 0, none⟩) n cg) n (bv n F)) := own_of_ownC (O2.out.below hb3) hgw
  have hs3 : w.heap.size ≤ w3.heap.size := B3.out.size
  clear hb3 B2 O2 HX TG
  go_wp2_with (at_builtin; refine Lib.wpList_append_own_string _ rfl (.tmp 21) _ 22 9 rfl w.heap.size 5 i0 Tryd.underlying22 Tryd.underlying9 HI.out.1 HI.out.2.1 HI.out.2.2.1 HI.out.2.2.2 (.slice (some ⟨g, 0, none⟩) n cg) n _ rfl O3.out TT rfl (by rw [hts]; unfold maxLen; omega) (by rw [hts]; omega) hs3 ?_)
  intro v' w4 hown hgrow hnil
  have BG : Below w.heap.size w3 w4 := (Below.refl _ w3).grown hgrow hs3 (fun b hb => (O3.out.lt b hb).1)
  have B4 : Hid (Below w.heap.size w w4) := B3.out.trans BG
  have ES : Lib.strCells TT = bv 16 (strB TT) := (bv_textM TT 16 hts).symm
  rw [ES, bv_append] at hown
  obtain ⟨g4, c4, hg4, rfl, h8⟩ := own8_of_own hown hnil
  have O4 : Hid (Own8 w4 g4 (n + 16) (fun i => if i < n then F i else strB TT (i - n))) := h8
  clear hown hgrow hnil BG h8 B3 O3 ES
  go_wp2
  go_ret
  exact ⟨⟨g4, c4, hg4, rfl, O4.out⟩, B4.out⟩
theorem l04Code_ok (k s : ByteArray) (a b : Option Addr) (m x n c r : Nat) (hk : k.size = 32) (hs : s.size = 12) (hm : m ≤ 65536) (hr : r ≤ 65536) (hn : n ≤ 65536 - r) (w : World) :
    Calls Tryd.prog 36 #[.string k, .string s, .slice a m x, .slice b n c, .int .i64 (r : Int)] w fun e w' => e = .returned (.int .i64 0) ∧ w = w' := by
  have e1 : ¬ (65536 : Int) < (m : Int) := by omega
  have e2 : ¬ (65536 : Int) - (r : Int) < (n : Int) := by omega
  have e5 : ((k.size : Int) != 32) = false := by rw [hk]; rfl
  have e6 : ((s.size : Int) != 12) = false := by rw [hs]; rfl
  clear hk hs
  go_enter Tryd.func36, Tryd.ntmps36
  go_wp2
  go_ret
  exact ⟨rfl, rfl⟩
theorem l04Code_bad (k s : ByteArray) (a b : Option Addr) (m x n c r : Nat) (hm : m ≤ 65536) (hr : r ≤ 65536) (hn : n ≤ 65536 - r) (h : ¬ (k.size = 32 ∧ s.size = 12)) (w : World) :
    Calls Tryd.prog 36 #[.string k, .string s, .slice a m x, .slice b n c, .int .i64 (r : Int)] w fun e w' => e = .returned (.int .i64 1) ∧ w = w' := by
  have e1 : ¬ (65536 : Int) < (m : Int) := by omega
  have e2 : ¬ (65536 : Int) - (r : Int) < (n : Int) := by omega
  by_cases h1 : k.size = 32
  · have e5 : ((k.size : Int) != 32) = false := by rw [h1]; rfl
    have e6 : ((s.size : Int) != 12) = true := by rw [bne_iff_ne]; omega
    clear h h1
    go_enter Tryd.func36, Tryd.ntmps36
    go_wp2
    go_ret
    exact ⟨rfl, rfl⟩
  · have e5 : ((k.size : Int) != 32) = true := by rw [bne_iff_ne]; omega
    clear h h1
    go_enter Tryd.func36, Tryd.ntmps36
    go_wp2
    go_ret
    exact ⟨rfl, rfl⟩
theorem l04Code_long (k s : ByteArray) (a b : Option Addr) (m x n c r : Nat) (hm : m ≤ 65536) (hr : r ≤ 65536) (hn : 65536 - r < n) (w : World) :
    Calls Tryd.prog 36 #[.string k, .string s, .slice a m x, .slice b n c, .int .i64 (r : Int)] w fun e w' => e = .returned (.int .i64 2) ∧ w = w' := by
  have e1 : ¬ (65536 : Int) < (m : Int) := by omega
  have e2 : (65536 : Int) - (r : Int) < (n : Int) := by omega
  go_enter Tryd.func36, Tryd.ntmps36
  go_wp2
  go_ret
  exact ⟨rfl, rfl⟩
theorem specSeal_big (k s : ByteArray) (a b : Option Addr) (m x n c : Nat) (f : Nat → Nat) (h : 65536 < k.size ∨ 65536 < s.size ∨ 65536 < m ∨ 65536 < n) (w : World) :
    Calls Tryd.prog 14 #[.string k, .string s, .slice a m x, .slice b n c] w fun e w' => RetB2 w w' e 0 f (.int .i64 2) ∧ Below w.heap.size w w' := by
  have M : Hid (RetB2 w (w.alloc (.cells #[] 5)) (.returned (.tuple #[.slice (some ⟨w.heap.size, 0, none⟩) 0 0, .int .i64 2])) 0 f (.int .i64 2)) := RetB2.made w f _
  have B : Hid (Below w.heap.size w (w.alloc (.cells #[] 5))) := (Below.refl _ _).alloc (Nat.le_refl _) _
  by_cases h0 : 65536 < k.size
  · have e1 : (65536 : Int) < k.size := by omega
    clear h h0
    go_enter Tryd.func14, Tryd.ntmps14
    go_wp2
    go_ret2
    exact ⟨M.out, B.out⟩
  · have e1 : ¬ (65536 : Int) < k.size := by omega
    by_cases h1 : 65536 < s.size
    · have e2 : (65536 : Int) < s.size := by omega
      clear h h0 h1
      go_enter Tryd.func14, Tryd.ntmps14
      go_wp2
      go_ret2
      exact ⟨M.out, B.out⟩
    · have e2 : ¬ (65536 : Int) < s.size := by omega
      by_cases h2 : 65536 < m
      · have e3 : (65536 : Int) < m := by omega
        clear h h0 h1 h2
        go_enter Tryd.func14, Tryd.ntmps14
        go_wp2
        go_ret2
        exact ⟨M.out, B.out⟩
      · have e3 : ¬ (65536 : Int) < m := by omega
        have e4 : (65536 : Int) < n := by omega
        clear h h0 h1 h2
        go_enter Tryd.func14, Tryd.ntmps14
        go_wp2
        go_ret2
        exact ⟨M.out, B.out⟩
theorem specSeal_no (k s : ByteArray) (a b : Option Addr) (m x n c : Nat) (f : Nat → Nat) (code : Int) (hc : code ≠ 0) (h0 : k.size ≤ 65536) (h1 : s.size ≤ 65536) (h2 : m ≤ 65536) (h3 : n ≤ 65536) (hf : ∀ w : World, Calls Tryd.prog 36 #[.string k, .string s, .slice a m x, .slice b n c, .int .i64 16] w fun e w' => e = .returned (.int .i64 code) ∧ w = w') (w : World) :
    Calls Tryd.prog 14 #[.string k, .string s, .slice a m x, .slice b n c] w fun e w' => RetB2 w w' e 0 f (.int .i64 code) ∧ Below w.heap.size w w' := by
  have M : Hid (RetB2 w (w.alloc (.cells #[] 5)) (.returned (.tuple #[.slice (some ⟨w.heap.size, 0, none⟩) 0 0, .int .i64 code])) 0 f (.int .i64 code)) := RetB2.made w f _
  have B : Hid (Below w.heap.size w (w.alloc (.cells #[] 5))) := (Below.refl _ _).alloc (Nat.le_refl _) _
  have CO : Hid (∀ w : World, Calls Tryd.prog 36 #[.string k, .string s, .slice a m x, .slice b n c, .int .i64 16] w fun e w' => e = .returned (.int .i64 code) ∧ w = w') := hf
  have e1 : ¬ (65536 : Int) < k.size := by omega
  have e2 : ¬ (65536 : Int) < s.size := by omega
  have e3 : ¬ (65536 : Int) < (m : Int) := by omega
  have e4 : ¬ (65536 : Int) < (n : Int) := by omega
  have e5 : (code != 0) = true := by rw [bne_iff_ne]; exact hc
  clear hf hc
  go_enter Tryd.func14, Tryd.ntmps14
  go_wp2_with fail
  refine (CO.out _).mono ?_
  rintro e w' ⟨rfl, rfl⟩
  go_wp2
  go_ret2
  exact ⟨M.out, B.out⟩
theorem specSeal_yes (k s : ByteArray) (xb xo m xc b o n c : Nat) (fx f : Nat → Nat) (hk : k.size = 32) (hs : s.size = 12) (hm : m ≤ 65536) (hn : n ≤ 65520) (hfx : ∀ i, fx i < 256) (hf : ∀ i, f i < 256) (w : World) (hx : Code8 w (some ⟨xb, xo, none⟩) m fx) (hc : Code8 w (some ⟨b, o, none⟩) n f) :
    Calls Tryd.prog 14 #[.string k, .string s, .slice (some ⟨xb, xo, none⟩) m xc, .slice (some ⟨b, o, none⟩) n c] w fun e w' => RetB2 w w' e (n + 16) (sealedF k s m fx n f) (.int .i64 0) ∧ Below w.heap.size w w' := by
  have CO : Hid (∀ w : World, Calls Tryd.prog 36 #[.string k, .string s, .slice (some ⟨xb, xo, none⟩) m xc, .slice (some ⟨b, o, none⟩) n c, .int .i64 16] w fun e w' => e = .returned (.int .i64 0) ∧ w = w') := l04Code_ok k s _ _ m xc n c 16 hk hs hm (by omega) (by omega)
  have SE : Hid (∀ w : World, Code8 w (some ⟨xb, xo, none⟩) m fx → Code8 w (some ⟨b, o, none⟩) n f → Calls Tryd.prog 37 #[.string k, .string s, .slice (some ⟨xb, xo, none⟩) m xc, .slice (some ⟨b, o, none⟩) n c] w fun e w' => RetB w w' e (n + 16) (sealedF k s m fx n f) ∧ Below w.heap.size w w') := fun w h1 h2 => l04Seal_any k s xb xo m xc b o n c fx f hk hs hm (by omega) hfx hf w h1 h2
  generalize sealedF k s m fx n f = F at *
  have e1 : ¬ (65536 : Int) < k.size := by omega
  have e2 : ¬ (65536 : Int) < s.size := by omega
  have e3 : ¬ (65536 : Int) < (m : Int) := by omega
  have e4 : ¬ (65536 : Int) < (n : Int) := by omega
  have HX : Hid (Code8 w (some ⟨xb, xo, none⟩) m fx) := hx
  have HC : Hid (Code8 w (some ⟨b, o, none⟩) n f) := hc
  clear hx hc hfx hf hk hs
  go_enter Tryd.func14, Tryd.ntmps14
  go_wp2_with fail
  refine (CO.out _).mono ?_
  rintro e w' ⟨rfl, rfl⟩
  go_wp2_with fail
  refine (SE.out _ HX.out HC.out).mono ?_
  rintro e w1 ⟨⟨g, cg, hg, rfl, ho⟩, hb⟩
  have O1 : Hid (Own8 w1 g (n + 16) F) := ho
  have B1 : Hid (Below w.heap.size w w1) := hb
  clear ho hb CO SE HX HC
  go_wp2
  go_ret2
  exact ⟨⟨g, cg, hg, rfl, O1.out⟩, B1.out⟩
theorem law_sealBytes (k s : ByteArray) (a2 : Option Addr) (N2 C2 : Nat) (z2 : List Int) (a3 : Option Addr) (N3 C3 : Nat) (z3 : List Int) (w : World) (h2 : IsRow .u8 w a2 N2 C2 z2) (h3 : IsRow .u8 w a3 N3 C3 z3) (ht : Tabs w) :
    Calls Tryd.prog 5 #[.string k, .string s, .slice a2 N2 C2, .slice a3 N3 C3] w fun e w' => e = .returned (.bool true) ∧ Below w.heap.size w w' := by
  by_cases h0 : k.size ≤ 1048576 ∧ s.size ≤ 1048576 ∧ N2 ≤ 1048576 ∧ N3 ≤ 1048576
  · obtain ⟨hk0, hs0, hx0, hn0⟩ := h0
    obtain ⟨fx, hfx, hcx⟩ := code8_of_row h2
    obtain ⟨f, hf, hc⟩ := code8_of_row h3
    by_cases hb : 65536 < k.size ∨ 65536 < s.size ∨ 65536 < N2 ∨ 65536 < N3
    · exact lawSealBytes_of k s a2 N2 C2 a3 N3 C3 0 fx f f 2 hk0 hs0 hx0 hn0 (by omega) (fun b2 b3 w _ _ => (specSeal_big k s _ _ N2 N2 N3 N3 f hb w).mono fun _ _ h => ⟨h.1.retI, h.2⟩) (fun b2 b3 w _ _ _ => (implSeal_no k s _ _ N2 N2 N3 N3 2 (by decide) (sfault_long k s N2 N3 65520 (by omega)) w).mono fun _ _ h => ⟨by rw [h.1]; exact RetI.nil, by rw [← h.2]; exact Below.refl _ _⟩) w hcx hc ht
    · by_cases hl : 65520 < N3
      · exact lawSealBytes_of k s a2 N2 C2 a3 N3 C3 0 fx f f 2 hk0 hs0 hx0 hn0 (by omega) (fun b2 b3 w _ _ => (specSeal_no k s _ _ N2 N2 N3 N3 f 2 (by decide) (by omega) (by omega) (by omega) (by omega) (l04Code_long k s _ _ N2 N2 N3 N3 16 (by omega) (by omega) (by omega)) w).mono fun _ _ h => ⟨h.1.retI, h.2⟩) (fun b2 b3 w _ _ _ => (implSeal_no k s _ _ N2 N2 N3 N3 2 (by decide) (sfault_long k s N2 N3 65520 (by omega)) w).mono fun _ _ h => ⟨by rw [h.1]; exact RetI.nil, by rw [← h.2]; exact Below.refl _ _⟩) w hcx hc ht
      · by_cases hk : k.size = 32 ∧ s.size = 12
        · exact lawSealBytes_of k s a2 N2 C2 a3 N3 C3 (N3 + 16) fx f (sealedF k s N2 fx N3 f) 0 hk0 hs0 hx0 hn0 (by omega) (fun b2 b3 w q2 q3 => (specSeal_yes k s b2 0 N2 N2 b3 0 N3 N3 fx f hk.1 hk.2 (by omega) (by omega) hfx hf w q2 q3).mono fun _ _ h => ⟨h.1.retI, h.2⟩) (fun b2 b3 w q2 q3 qt => (implSeal_yes k s b2 0 N2 N2 b3 0 N3 N3 fx f hk.1 hk.2 (by omega) (by omega) hfx hf w q2 q3 qt).mono fun _ _ h => ⟨h.1.retI, h.2⟩) w hcx hc ht
        · exact lawSealBytes_of k s a2 N2 C2 a3 N3 C3 0 fx f f 1 hk0 hs0 hx0 hn0 (by omega) (fun b2 b3 w _ _ => (specSeal_no k s _ _ N2 N2 N3 N3 f 1 (by decide) (by omega) (by omega) (by omega) (by omega) (l04Code_bad k s _ _ N2 N2 N3 N3 16 (by omega) (by omega) (by omega) hk) w).mono fun _ _ h => ⟨h.1.retI, h.2⟩) (fun b2 b3 w _ _ _ => (implSeal_no k s _ _ N2 N2 N3 N3 1 (by decide) (sfault_bad k s N2 N3 65520 (by omega) (by omega) (by omega) (by omega) hk) w).mono fun _ _ h => ⟨by rw [h.1]; exact RetI.nil, by rw [← h.2]; exact Below.refl _ _⟩) w hcx hc ht
  · exact lawSealBytes_big k s a2 N2 C2 a3 N3 C3 h0 w
end Go.Proofs.YtbcaccmmbhbbdaaDoor
