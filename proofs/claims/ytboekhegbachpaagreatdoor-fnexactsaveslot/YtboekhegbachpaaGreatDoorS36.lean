/-
  Texts of the proof, joined: KeysS, SealS.
-/
import Derived.Test.YtboekhegbachpaaGreatDoorS19
import Derived.Test.YtboekhegbachpaaGreatDoorS29
import Derived.Test.YtboekhegbachpaaGreatDoorS33
import Derived.Test.YtboekhegbachpaaGreatDoorS34
import Derived.Test.YtboekhegbachpaaGreatDoorS35
namespace Go.Proofs.YtboekhegbachpaaGreatDoor
open Go.ChangeShapes Go.WideShapes Go.ChangeAt Go.RowKit
set_option maxRecDepth 100000 in
set_option maxHeartbeats 2000000 in
theorem l04Keys_any (k : ByteArray) (hk : k.size = 32) (w : World) :
  Calls Tryz.prog 72 #[.string k] w fun e w' => e = .returned (.tuple #[.string (encS k), .string (tagS k)]) ∧ Below w.heap.size w w' := by
 have MA : Hid (∀ (b0 b1 c : Nat) (w : World), Code8 w (some ⟨b0, 0, none⟩) 4 sealF → Code8 w (some ⟨b1, 0, none⟩) 32 (strB k) → Calls Tryz.prog 83 #[.slice (some ⟨b0, 0, none⟩) 4 4, .slice (some ⟨b1, 0, none⟩) 32 c] w fun e w' => e = .returned (.string (secS k)) ∧ Below w.heap.size w w') := fun b0 b1 c w h0 h1 => l03Hmac_any b0 0 4 4 b1 0 32 c sealF (strB k) sealF_lt (strB_lt k) (by omega) (by omega) w h0 h1
 have EX : Hid (∀ (b : Nat) (w : World), Code8 w (some ⟨b, 0, none⟩) 4 keysF → Calls Tryz.prog 82 #[.string (secS k), .slice (some ⟨b, 0, none⟩) 4 4, .int .i64 64] w fun e w' => e = .returned (.string (kstr (pairF k) 0 64)) ∧ Below w.heap.size w w') := fun b w h => by
  have := l03Expand_any (secS k) (by rw [secS_size]; omega) b 0 4 4 64 keysF keysF_lt (by omega) (by omega) w h
  rw [secS_size] at this
  exact this
 have lG : ∀ i, pairF k i < 256 := pairF_lt k
 have hE : encS k = kstr (pairF k) 0 32 := rfl
 have hT : tagS k = kstr (pairF k) 32 32 := rfl
 rw [hE, hT]
 clear hE hT
 generalize pairF k = G at *
 generalize secS k = SE at *
 have hbs : (kstr G 0 64).size = 64 := kstr_size _ _ _
 have hx1 : (kstr G 0 64).extract 0 32 = kstr G 0 32 := by
  have := kstr_extract (kstr G 0 64) 0 32 (by rw [hbs]; omega)
  rw [Nat.zero_add] at this
  rw [this]
  exact kstr_congr (fun i hi => by rw [Nat.zero_add, strB_kstr _ 0 64 i (by rw [Nat.zero_add]; exact lG _) (by omega), Nat.zero_add])
 have hx2 : (kstr G 0 64).extract 32 64 = kstr G 32 32 := by
  have := kstr_extract (kstr G 0 64) 32 32 (by rw [hbs]; omega)
  rw [this]
  exact kstr_congr (fun i hi => by rw [strB_kstr _ 0 64 (32 + i) (by rw [Nat.zero_add]; exact lG _) (by omega), Nat.zero_add])
 generalize kstr G 0 64 = BO at *
 generalize kstr G 0 32 = S1 at *
 generalize kstr G 32 32 = S2 at *
 clear lG
 obtain ⟨wA, hwA⟩ : ∃ wA, wA = w.alloc (.cells #[.int .u8 115, .int .u8 101, .int .u8 97, .int .u8 108] 5 (4, 5)) := ⟨_, rfl⟩
 have hcv1 : (convert 84 84 (.slice (some ⟨w.heap.size, 0, none⟩) 4 4)).run Tryz.prog (w.alloc (.cells #[.int .u8 115, .int .u8 101, .int .u8 97, .int .u8 108] 5)) = .ok (.slice (some ⟨w.heap.size, 0, none⟩) 4 4) wA := by
  rw [hwA]
  exact conv_rowS w #[.int .u8 115, .int .u8 101, .int .u8 97, .int .u8 108] 4 4
 have AA : Below w.heap.size w wA := by rw [hwA]; exact (Below.refl _ _).alloc (Nat.le_refl _) _
 have SC : Code8 wA (some ⟨w.heap.size, 0, none⟩) 4 sealF := by rw [hwA]; exact seal_code w
 clear hwA
 obtain ⟨w2, c2, hcv2, hk2, hb2, _⟩ := bytesOfM k wA
 rw [hk] at hcv2 hk2
 have H0 : Hid (Code8 w2 (some ⟨w.heap.size, 0, none⟩) 4 sealF) := SC.below hb2
 have H1 : Hid (Code8 w2 (some ⟨wA.heap.size, 0, none⟩) 32 (strB k)) := hk2
 have B2 : Hid (Below w.heap.size w w2) := AA.trans (hb2.mono AA.size)
 clear AA hk2 hb2 SC
 generalize wA.heap.size = bA0 at *
 go_enter Tryz.func72, Tryz.ntmps72
 go_wp2_with fail
 refine (MA.out _ _ _ _ H0.out H1.out).mono ?_
 rintro e w3 ⟨rfl, hb3⟩
 have B3 : Hid (Below w.heap.size w w3) := B2.out.trans (hb3.mono B2.out.size)
 clear hb3 B2 H0 H1 hcv1 hcv2 MA
 obtain ⟨wB, hwB⟩ : ∃ wB, wB = w3.alloc (.cells #[.int .u8 107, .int .u8 101, .int .u8 121, .int .u8 115] 5 (4, 5)) := ⟨_, rfl⟩
 have hcv5 : (convert 84 84 (.slice (some ⟨w3.heap.size, 0, none⟩) 4 4)).run Tryz.prog (w3.alloc (.cells #[.int .u8 107, .int .u8 101, .int .u8 121, .int .u8 115] 5)) = .ok (.slice (some ⟨w3.heap.size, 0, none⟩) 4 4) wB := by
  rw [hwB]
  exact conv_rowS w3 #[.int .u8 107, .int .u8 101, .int .u8 121, .int .u8 115] 4 4
 have AA : Below w3.heap.size w3 wB := by rw [hwB]; exact (Below.refl _ _).alloc (Nat.le_refl _) _
 have B4 : Hid (Below w.heap.size w wB) := B3.out.trans (AA.mono B3.out.size)
 have KC : Hid (Code8 wB (some ⟨w3.heap.size, 0, none⟩) 4 keysF) := by show Code8 _ _ _ _; rw [hwB]; exact keys_code w3
 clear AA B3 hwB
 go_wp2_with fail
 refine (EX.out w3.heap.size _ KC.out).mono ?_
 rintro e w5 ⟨rfl, hb5⟩
 have B5 : Hid (Below w.heap.size w w5) := B4.out.trans (hb5.mono B4.out.size)
 clear hb5 B4 hcv5 EX
 go_wp2_with fail
 go_quiet (fail)
 go_wp2
 go_ret2
 exact ⟨rfl, below_drewN8 B5.out _⟩
end Go.Proofs.YtboekhegbachpaaGreatDoor
namespace Go.Proofs.YtboekhegbachpaaGreatDoor
open Go.ChangeShapes Go.WideShapes Go.ChangeAt Go.RowKit
set_option maxRecDepth 100000 in
set_option maxHeartbeats 2000000 in
theorem l04Seal_any (k s : ByteArray) (xb xo m xc b o n c : Nat) (fx f : Nat → Nat) (hk : k.size = 32) (hs : s.size = 12) (hm : m ≤ 65536) (hn : n ≤ 65536) (hfx : ∀ i, fx i < 256) (hf : ∀ i, f i < 256) (w : World) (hx : Code8 w (some ⟨xb, xo, none⟩) m fx) (hc : Code8 w (some ⟨b, o, none⟩) n f) :
  Calls Tryz.prog 65 #[.string k, .string s, .slice (some ⟨xb, xo, none⟩) m xc, .slice (some ⟨b, o, none⟩) n c] w fun e w' => RetB w w' e (n + 16) (sealedF k s m fx n f) ∧ Below w.heap.size w w' := by
 obtain ⟨i0, hi⟩ := info_parts Tryz.info8
 have HI : Hid (Tryz.prog.info? 5 = some i0 ∧ i0.zero = some (.int .u8 0) ∧ i0.size = 1 ∧ i0.bytes = 1) := hi
 have KE : Hid (∀ w : World, Calls Tryz.prog 72 #[.string k] w fun e w' => e = .returned (.tuple #[.string (encS k), .string (tagS k)]) ∧ Below w.heap.size w w') := fun w => l04Keys_any k hk w
 have CX : Hid (∀ w : World, Code8 w (some ⟨b, o, none⟩) n f → Calls Tryz.prog 74 #[.string (encS k), .string s, .slice (some ⟨b, o, none⟩) n c] w fun e w' => RetC w w' e n (streamF k s f) ∧ Below w.heap.size w w') := fun w h => l02CtrC_any (encS k) s 8 b o n c f (.inr rfl) (by rw [encS_size]) hs hn hf w h
 have TG : Hid (∀ (g cg : Nat) (w : World), Code8 w (some ⟨xb, xo, none⟩) m fx → Code8 w (some ⟨g, 0, none⟩) n (streamF k s f) → Calls Tryz.prog 73 #[.string (tagS k), .string s, .slice (some ⟨xb, xo, none⟩) m xc, .slice (some ⟨g, 0, none⟩) n cg] w fun e w' => e = .returned (.string (tagT k s m fx n (streamF k s f))) ∧ Below w.heap.size w w') := fun g cg w h1 h2 => l04Tag_any k s xb xo m xc g 0 n cg fx _ hs hm hn hfx (streamF_lt k s hf) w h1 h2
 have EQ : Hid (sealedF k s m fx n f = fun i => if i < n then streamF k s f i else strB (tagT k s m fx n (streamF k s f)) (i - n)) := rfl
 rw [EQ.out]
 have hts : (tagT k s m fx n (streamF k s f)).size = 16 := tagT_size _ _ _ _ _ _
 clear EQ
 generalize tagT k s m fx n (streamF k s f) = TT at *
 generalize streamF k s f = F at *
 generalize encS k = E at *
 generalize tagS k = TK at *
 have HX : Hid (Code8 w (some ⟨xb, xo, none⟩) m fx) := hx
 have HC : Hid (Code8 w (some ⟨b, o, none⟩) n f) := hc
 clear hx hc hfx hf hk hs hi
 go_enter Tryz.func65, Tryz.ntmps65
 go_wp2_with fail
 refine (KE.out _).mono ?_
 rintro e w1 ⟨rfl, hb1⟩
 have B1 : Hid (Below w.heap.size w w1) := hb1
 clear hb1 KE
 go_wp2_with fail
 refine (CX.out _ (HC.out.below B1.out)).mono ?_
 rintro e w2 ⟨⟨g, cg, ⟨hg, hcg⟩, rfl, ho⟩, hb2⟩
 have B2 : Hid (Below w.heap.size w w2) := B1.out.trans (hb2.mono B1.out.size)
 have O2 : Hid (OwnC cg w2 g n F) := ho
 have hgw : w.heap.size ≤ g := Nat.le_trans B1.out.size hg
 clear ho hb2 hg B1 HC CX
 go_wp2_with fail
 refine (TG.out g cg _ (HX.out.below B2.out) O2.out.code).mono ?_
 rintro e w3 ⟨rfl, hb3⟩
 have B3 : Hid (Below w.heap.size w w3) := B2.out.trans (hb3.mono B2.out.size)
 have O3 : Hid (w3.ownsRow w.heap.size 5 1 (.slice (some ⟨g, 0, none⟩) n cg) n (bv n F)) := own_of_ownC (O2.out.below hb3) hgw
 have hs3 : w.heap.size ≤ w3.heap.size := B3.out.size
 clear hb3 B2 O2 HX TG
 go_wp2_with (at_builtin; refine Lib.wpList_append_own_string _ rfl (.tmp 21) _ 84 9 rfl w.heap.size 5 i0 Tryz.underlying84 Tryz.underlying9 HI.out.1 HI.out.2.1 HI.out.2.2.1 HI.out.2.2.2 (.slice (some ⟨g, 0, none⟩) n cg) n _ rfl O3.out TT rfl (by rw [hts]; unfold maxLen; omega) (by rw [hts]; omega) hs3 ?_)
 intro v' w4 hown hgrow hnil
 have BG : Below w.heap.size w3 w4 := (Below.refl _ w3).grown hgrow hs3 (fun b hb => (O3.out.lt b hb).1)
 have B4 : Hid (Below w.heap.size w w4) := B3.out.trans BG
 have ES : Lib.strCells TT = bv 16 (strB TT) := (bv_textM TT 16 hts).symm
 rw [ES, bv_append] at hown
 obtain ⟨g4, c4, hg4, rfl, h8⟩ := own8_of_own hown hnil
 have O4 : Hid (Own8 w4 g4 (n + 16) (fun i => if i < n then F i else strB TT (i - n))) := h8
 clear hown hgrow hnil BG h8 B3 O3 ES
 go_wp2
 go_ret
 exact ⟨⟨g4, c4, hg4, rfl, O4.out⟩, B4.out⟩
end Go.Proofs.YtboekhegbachpaaGreatDoor
