/-
  The two keys of a key: the model's l04Keys.
-/
import Derived.Test.YthfnbbjjiipcpaaDoorJ02
import Derived.Test.YthfnbbjjiipcpaaDoorByteS
import Derived.Test.YthfnbbjjiipcpaaDoorSlices
import Derived.Test.YthfnbbjjiipcpaaDoorAfter
import Derived.Test.YthfnbbjjiipcpaaDoorJ12
import Derived.Test.YthfnbbjjiipcpaaDoorJ13
import Derived.Test.YthfnbbjjiipcpaaDoorJ16
namespace Go.Proofs.YthfnbbjjiipcpaaDoor
open Go.ChangeShapes Go.WideShapes Go.ChangeAt Go.RowKit
set_option maxRecDepth 100000 in
set_option maxHeartbeats 2000000 in
theorem l04Keys_any (k : ByteArray) (hk : k.size = 32) (w : World) :
    Calls Tryd.prog 52 #[.string k] w fun e w' => e = .returned (.tuple #[.string (encS k), .string (tagS k)]) ∧ Below w.heap.size w w' := by
  have MA : Hid (∀ (b0 b1 c : Nat) (w : World), Code8 w (some ⟨b0, 0, none⟩) 4 sealF → Code8 w (some ⟨b1, 0, none⟩) 32 (strB k) → Calls Tryd.prog 85 #[.slice (some ⟨b0, 0, none⟩) 4 4, .slice (some ⟨b1, 0, none⟩) 32 c] w fun e w' => e = .returned (.string (secS k)) ∧ Below w.heap.size w w') := fun b0 b1 c w h0 h1 => l03Hmac_any b0 0 4 4 b1 0 32 c sealF (strB k) sealF_lt (strB_lt k) (by omega) (by omega) w h0 h1
  have EX : Hid (∀ (b : Nat) (w : World), Code8 w (some ⟨b, 0, none⟩) 4 keysF → Calls Tryd.prog 84 #[.string (secS k), .slice (some ⟨b, 0, none⟩) 4 4, .int .i64 64] w fun e w' => e = .returned (.string (kstr (pairF k) 0 64)) ∧ Below w.heap.size w w') := fun b w h => by
    have := l03Expand_any (secS k) (by rw [secS_size]; omega) b 0 4 4 64 keysF keysF_lt (by omega) (by omega) w h
    rw [secS_size] at this
    exact this
  have lG : ∀ i, pairF k i < 256 := pairF_lt k
  have hE : encS k = kstr (pairF k) 0 32 := rfl
  have hT : tagS k = kstr (pairF k) 32 32 := rfl
  rw [hE, hT]
  clear hE hT
  generalize pairF k = G at *
  generalize secS k = SE at *
  have hbs : (kstr G 0 64).size = 64 := kstr_size _ _ _
  have hx1 : (kstr G 0 64).extract 0 32 = kstr G 0 32 := by
    have := kstr_extract (kstr G 0 64) 0 32 (by rw [hbs]; omega)
    rw [Nat.zero_add] at this
    rw [this]
    exact kstr_congr (fun i hi => by rw [Nat.zero_add, strB_kstr _ 0 64 i (by rw [Nat.zero_add]; exact lG _) (by omega), Nat.zero_add])
  have hx2 : (kstr G 0 64).extract 32 64 = kstr G 32 32 := by
    have := kstr_extract (kstr G 0 64) 32 32 (by rw [hbs]; omega)
    rw [this]
    exact kstr_congr (fun i hi => by rw [strB_kstr _ 0 64 (32 + i) (by rw [Nat.zero_add]; exact lG _) (by omega), Nat.zero_add])
  generalize kstr G 0 64 = BO at *
  generalize kstr G 0 32 = S1 at *
  generalize kstr G 32 32 = S2 at *
  clear lG
  obtain ⟨wA, hwA⟩ : ∃ wA, wA = w.alloc (.cells #[.int .u8 115, .int .u8 101, .int .u8 97, .int .u8 108] 5 (4, 5)) := ⟨_, rfl⟩
  have hcv1 : (convert 22 22 (.slice (some ⟨w.heap.size, 0, none⟩) 4 4)).run Tryd.prog (w.alloc (.cells #[.int .u8 115, .int .u8 101, .int .u8 97, .int .u8 108] 5)) = .ok (.slice (some ⟨w.heap.size, 0, none⟩) 4 4) wA := by
    rw [hwA]
    exact conv_rowS w #[.int .u8 115, .int .u8 101, .int .u8 97, .int .u8 108] 4 4
  have AA : Below w.heap.size w wA := by rw [hwA]; exact (Below.refl _ _).alloc (Nat.le_refl _) _
  have SC : Code8 wA (some ⟨w.heap.size, 0, none⟩) 4 sealF := by rw [hwA]; exact seal_code w
  clear hwA
  obtain ⟨w2, c2, hcv2, hk2, hb2, _⟩ := bytesOfM k wA
  rw [hk] at hcv2 hk2
  have H0 : Hid (Code8 w2 (some ⟨w.heap.size, 0, none⟩) 4 sealF) := SC.below hb2
  have H1 : Hid (Code8 w2 (some ⟨wA.heap.size, 0, none⟩) 32 (strB k)) := hk2
  have B2 : Hid (Below w.heap.size w w2) := AA.trans (hb2.mono AA.size)
  clear AA hk2 hb2 SC
  generalize wA.heap.size = bA0 at *
  go_enter Tryd.func52, Tryd.ntmps52
  go_wp2_with fail
  refine (MA.out _ _ _ _ H0.out H1.out).mono ?_
  rintro e w3 ⟨rfl, hb3⟩
  have B3 : Hid (Below w.heap.size w w3) := B2.out.trans (hb3.mono B2.out.size)
  clear hb3 B2 H0 H1 hcv1 hcv2 MA
  obtain ⟨wB, hwB⟩ : ∃ wB, wB = w3.alloc (.cells #[.int .u8 107, .int .u8 101, .int .u8 121, .int .u8 115] 5 (4, 5)) := ⟨_, rfl⟩
  have hcv5 : (convert 22 22 (.slice (some ⟨w3.heap.size, 0, none⟩) 4 4)).run Tryd.prog (w3.alloc (.cells #[.int .u8 107, .int .u8 101, .int .u8 121, .int .u8 115] 5)) = .ok (.slice (some ⟨w3.heap.size, 0, none⟩) 4 4) wB := by
    rw [hwB]
    exact conv_rowS w3 #[.int .u8 107, .int .u8 101, .int .u8 121, .int .u8 115] 4 4
  have AA : Below w3.heap.size w3 wB := by rw [hwB]; exact (Below.refl _ _).alloc (Nat.le_refl _) _
  have B4 : Hid (Below w.heap.size w wB) := B3.out.trans (AA.mono B3.out.size)
  have KC : Hid (Code8 wB (some ⟨w3.heap.size, 0, none⟩) 4 keysF) := by show Code8 _ _ _ _; rw [hwB]; exact keys_code w3
  clear AA B3 hwB
  go_wp2_with fail
  refine (EX.out w3.heap.size _ KC.out).mono ?_
  rintro e w5 ⟨rfl, hb5⟩
  have B5 : Hid (Below w.heap.size w w5) := B4.out.trans (hb5.mono B4.out.size)
  clear hb5 B4 hcv5 EX
  go_wp2_with fail
  go_quiet (fail)
  go_wp2
  go_ret2
  exact ⟨rfl, below_drewN8 B5.out _⟩
end Go.Proofs.YthfnbbjjiipcpaaDoor

/-
  laws.markByteS that goes on with the marks of another slice.
-/
namespace Go.Proofs.YthfnbbjjiipcpaaDoor
open Go.ChangeShapes Go.WideShapes Go.ChangeAt Go.RowKit
end Go.Proofs.YthfnbbjjiipcpaaDoor

/-
  The exact law of SealBytes: what it asks of the program and of the model.
-/
namespace Go.Proofs.YthfnbbjjiipcpaaDoor
open Go.ChangeShapes Go.WideShapes Go.ChangeAt Go.RowKit
end Go.Proofs.YthfnbbjjiipcpaaDoor

/-
  The model's seal: l04Seal, l04Code, SealBytes.
-/
namespace Go.Proofs.YthfnbbjjiipcpaaDoor
open Go.ChangeShapes Go.WideShapes Go.ChangeAt Go.RowKit
set_option maxRecDepth 100000 in
set_option maxHeartbeats 2000000 in
theorem l04Seal_any (k s : ByteArray) (xb xo m xc b o n c : Nat) (fx f : Nat → Nat) (hk : k.size = 32) (hs : s.size = 12) (hm : m ≤ 65536) (hn : n ≤ 65536) (hfx : ∀ i, fx i < 256) (hf : ∀ i, f i < 256) (w : World) (hx : Code8 w (some ⟨xb, xo, none⟩) m fx) (hc : Code8 w (some ⟨b, o, none⟩) n f) :
    Calls Tryd.prog 50 #[.string k, .string s, .slice (some ⟨xb, xo, none⟩) m xc, .slice (some ⟨b, o, none⟩) n c] w fun e w' => RetB w w' e (n + 16) (sealedF k s m fx n f) ∧ Below w.heap.size w w' := by
  obtain ⟨i0, hi⟩ := info_parts Tryd.info8
  have HI : Hid (Tryd.prog.info? 5 = some i0 ∧ i0.zero = some (.int .u8 0) ∧ i0.size = 1 ∧ i0.bytes = 1) := hi
  have KE : Hid (∀ w : World, Calls Tryd.prog 52 #[.string k] w fun e w' => e = .returned (.tuple #[.string (encS k), .string (tagS k)]) ∧ Below w.heap.size w w') := fun w => l04Keys_any k hk w
  have CX : Hid (∀ w : World, Code8 w (some ⟨b, o, none⟩) n f → Calls Tryd.prog 82 #[.string (encS k), .string s, .slice (some ⟨b, o, none⟩) n c] w fun e w' => RetC w w' e n (streamF k s f) ∧ Below w.heap.size w w') := fun w h => l02CtrC_any (encS k) s 8 b o n c f (.inr rfl) (by rw [encS_size]) hs hn hf w h
  have TG : Hid (∀ (g cg : Nat) (w : World), Code8 w (some ⟨xb, xo, none⟩) m fx → Code8 w (some ⟨g, 0, none⟩) n (streamF k s f) → Calls Tryd.prog 83 #[.string (tagS k), .string s, .slice (some ⟨xb, xo, none⟩) m xc, .slice (some ⟨g, 0, none⟩) n cg] w fun e w' => e = .returned (.string (tagT k s m fx n (streamF k s f))) ∧ Below w.heap.size w w') := fun g cg w h1 h2 => l04Tag_any k s xb xo m xc g 0 n cg fx _ hs hm hn hfx (streamF_lt k s hf) w h1 h2
  have EQ : Hid (sealedF k s m fx n f = fun i => if i < n then streamF k s f i else strB (tagT k s m fx n (streamF k s f)) (i - n)) := rfl
  rw [EQ.out]
  have hts : (tagT k s m fx n (streamF k s f)).size = 16 := tagT_size _ _ _ _ _ _
  clear EQ
  generalize tagT k s m fx n (streamF k s f) = TT at *
  generalize streamF k s f = F at *
  generalize encS k = E at *
  generalize tagS k = TK at *
  have HX : Hid (Code8 w (some ⟨xb, xo, none⟩) m fx) := hx
  have HC : Hid (Code8 w (some ⟨b, o, none⟩) n f) := hc
  clear hx hc hfx hf hk hs hi
  go_enter Tryd.func50, Tryd.ntmps50
  go_wp2_with fail
  refine (KE.out _).mono ?_
  rintro e w1 ⟨rfl, hb1⟩
  have B1 : Hid (Below w.heap.size w w1) := hb1
  clear hb1 KE
  go_wp2_with fail
  refine (CX.out _ (HC.out.below B1.out)).mono ?_
  rintro e w2 ⟨⟨g, cg, ⟨hg, hcg⟩, rfl, ho⟩, hb2⟩
  have B2 : Hid (Below w.heap.size w w2) := B1.out.trans (hb2.mono B1.out.size)
  have O2 : Hid (OwnC cg w2 g n F) := ho
  have hgw : w.heap.size ≤ g := Nat.le_trans B1.out.size hg
  clear ho hb2 hg B1 HC CX
  go_wp2_with fail
  refine (TG.out g cg _ (HX.out.below B2.out) O2.out.code).mono ?_
  rintro e w3 ⟨rfl, hb3⟩
  have B3 : Hid (Below w.heap.size w w3) := B2.out.trans (hb3.mono B2.out.size)
  have O3 : Hid (w3.ownsRow w.heap.size 5 1 (.slice (some ⟨g, 0, none⟩) n cg) n (bv n F)) := own_of_ownC (O2.out.below hb3) hgw
  have hs3 : w.heap.size ≤ w3.heap.size := B3.out.size
  clear hb3 B2 O2 HX TG
  go_wp2_with (at_builtin; refine Lib.wpList_append_own_string _ rfl (.tmp 21) _ 22 9 rfl w.heap.size 5 i0 Tryd.underlying22 Tryd.underlying9 HI.out.1 HI.out.2.1 HI.out.2.2.1 HI.out.2.2.2 (.slice (some ⟨g, 0, none⟩) n cg) n _ rfl O3.out TT rfl (by rw [hts]; unfold maxLen; omega) (by rw [hts]; omega) hs3 ?_)
  intro v' w4 hown hgrow hnil
  have BG : Below w.heap.size w3 w4 := (Below.refl _ w3).grown hgrow hs3 (fun b hb => (O3.out.lt b hb).1)
  have B4 : Hid (Below w.heap.size w w4) := B3.out.trans BG
  have ES : Lib.strCells TT = bv 16 (strB TT) := (bv_textM TT 16 hts).symm
  rw [ES, bv_append] at hown
  obtain ⟨g4, c4, hg4, rfl, h8⟩ := own8_of_own hown hnil
  have O4 : Hid (Own8 w4 g4 (n + 16) (fun i => if i < n then F i else strB TT (i - n))) := h8
  clear hown hgrow hnil BG h8 B3 O3 ES
  go_wp2
  go_ret
  exact ⟨⟨g4, c4, hg4, rfl, O4.out⟩, B4.out⟩
theorem l04Code_ok (k s : ByteArray) (a b : Option Addr) (m x n c r : Nat) (hk : k.size = 32) (hs : s.size = 12) (hm : m ≤ 65536) (hr : r ≤ 65536) (hn : n ≤ 65536 - r) (w : World) :
    Calls Tryd.prog 49 #[.string k, .string s, .slice a m x, .slice b n c, .int .i64 (r : Int)] w fun e w' => e = .returned (.int .i64 0) ∧ w = w' := by
  have e1 : ¬ (65536 : Int) < (m : Int) := by omega
  have e2 : ¬ (65536 : Int) - (r : Int) < (n : Int) := by omega
  have e5 : ((k.size : Int) != 32) = false := by rw [hk]; rfl
  have e6 : ((s.size : Int) != 12) = false := by rw [hs]; rfl
  clear hk hs
  go_enter Tryd.func49, Tryd.ntmps49
  go_wp2
  go_ret
  exact ⟨rfl, rfl⟩
theorem l04Code_bad (k s : ByteArray) (a b : Option Addr) (m x n c r : Nat) (hm : m ≤ 65536) (hr : r ≤ 65536) (hn : n ≤ 65536 - r) (h : ¬ (k.size = 32 ∧ s.size = 12)) (w : World) :
    Calls Tryd.prog 49 #[.string k, .string s, .slice a m x, .slice b n c, .int .i64 (r : Int)] w fun e w' => e = .returned (.int .i64 1) ∧ w = w' := by
  have e1 : ¬ (65536 : Int) < (m : Int) := by omega
  have e2 : ¬ (65536 : Int) - (r : Int) < (n : Int) := by omega
  by_cases h1 : k.size = 32
  · have e5 : ((k.size : Int) != 32) = false := by rw [h1]; rfl
    have e6 : ((s.size : Int) != 12) = true := by rw [bne_iff_ne]; omega
    clear h h1
    go_enter Tryd.func49, Tryd.ntmps49
    go_wp2
    go_ret
    exact ⟨rfl, rfl⟩
  · have e5 : ((k.size : Int) != 32) = true := by rw [bne_iff_ne]; omega
    clear h h1
    go_enter Tryd.func49, Tryd.ntmps49
    go_wp2
    go_ret
    exact ⟨rfl, rfl⟩
theorem l04Code_long (k s : ByteArray) (a b : Option Addr) (m x n c r : Nat) (hm : m ≤ 65536) (hr : r ≤ 65536) (hn : 65536 - r < n) (w : World) :
    Calls Tryd.prog 49 #[.string k, .string s, .slice a m x, .slice b n c, .int .i64 (r : Int)] w fun e w' => e = .returned (.int .i64 2) ∧ w = w' := by
  have e1 : ¬ (65536 : Int) < (m : Int) := by omega
  have e2 : (65536 : Int) - (r : Int) < (n : Int) := by omega
  go_enter Tryd.func49, Tryd.ntmps49
  go_wp2
  go_ret
  exact ⟨rfl, rfl⟩
theorem specSeal_big (k s : ByteArray) (a b : Option Addr) (m x n c : Nat) (f : Nat → Nat) (h : 65536 < k.size ∨ 65536 < s.size ∨ 65536 < m ∨ 65536 < n) (w : World) :
    Calls Tryd.prog 15 #[.string k, .string s, .slice a m x, .slice b n c] w fun e w' => RetB2 w w' e 0 f (.int .i64 2) ∧ Below w.heap.size w w' := by
  have M : Hid (RetB2 w (w.alloc (.cells #[] 5)) (.returned (.tuple #[.slice (some ⟨w.heap.size, 0, none⟩) 0 0, .int .i64 2])) 0 f (.int .i64 2)) := RetB2.made w f _
  have B : Hid (Below w.heap.size w (w.alloc (.cells #[] 5))) := (Below.refl _ _).alloc (Nat.le_refl _) _
  by_cases h0 : 65536 < k.size
  · have e1 : (65536 : Int) < k.size := by omega
    clear h h0
    go_enter Tryd.func15, Tryd.ntmps15
    go_wp2
    go_ret2
    exact ⟨M.out, B.out⟩
  · have e1 : ¬ (65536 : Int) < k.size := by omega
    by_cases h1 : 65536 < s.size
    · have e2 : (65536 : Int) < s.size := by omega
      clear h h0 h1
      go_enter Tryd.func15, Tryd.ntmps15
      go_wp2
      go_ret2
      exact ⟨M.out, B.out⟩
    · have e2 : ¬ (65536 : Int) < s.size := by omega
      by_cases h2 : 65536 < m
      · have e3 : (65536 : Int) < m := by omega
        clear h h0 h1 h2
        go_enter Tryd.func15, Tryd.ntmps15
        go_wp2
        go_ret2
        exact ⟨M.out, B.out⟩
      · have e3 : ¬ (65536 : Int) < m := by omega
        have e4 : (65536 : Int) < n := by omega
        clear h h0 h1 h2
        go_enter Tryd.func15, Tryd.ntmps15
        go_wp2
        go_ret2
        exact ⟨M.out, B.out⟩
theorem specSeal_no (k s : ByteArray) (a b : Option Addr) (m x n c : Nat) (f : Nat → Nat) (code : Int) (hc : code ≠ 0) (h0 : k.size ≤ 65536) (h1 : s.size ≤ 65536) (h2 : m ≤ 65536) (h3 : n ≤ 65536) (hf : ∀ w : World, Calls Tryd.prog 49 #[.string k, .string s, .slice a m x, .slice b n c, .int .i64 16] w fun e w' => e = .returned (.int .i64 code) ∧ w = w') (w : World) :
    Calls Tryd.prog 15 #[.string k, .string s, .slice a m x, .slice b n c] w fun e w' => RetB2 w w' e 0 f (.int .i64 code) ∧ Below w.heap.size w w' := by
  have M : Hid (RetB2 w (w.alloc (.cells #[] 5)) (.returned (.tuple #[.slice (some ⟨w.heap.size, 0, none⟩) 0 0, .int .i64 code])) 0 f (.int .i64 code)) := RetB2.made w f _
  have B : Hid (Below w.heap.size w (w.alloc (.cells #[] 5))) := (Below.refl _ _).alloc (Nat.le_refl _) _
  have CO : Hid (∀ w : World, Calls Tryd.prog 49 #[.string k, .string s, .slice a m x, .slice b n c, .int .i64 16] w fun e w' => e = .returned (.int .i64 code) ∧ w = w') := hf
  have e1 : ¬ (65536 : Int) < k.size := by omega
  have e2 : ¬ (65536 : Int) < s.size := by omega
  have e3 : ¬ (65536 : Int) < (m : Int) := by omega
  have e4 : ¬ (65536 : Int) < (n : Int) := by omega
  have e5 : (code != 0) = true := by rw [bne_iff_ne]; exact hc
  clear hf hc
  go_enter Tryd.func15, Tryd.ntmps15
  go_wp2_with fail
  refine (CO.out _).mono ?_
  rintro e w' ⟨rfl, rfl⟩
  go_wp2
  go_ret2
  exact ⟨M.out, B.out⟩
theorem specSeal_yes (k s : ByteArray) (xb xo m xc b o n c : Nat) (fx f : Nat → Nat) (hk : k.size = 32) (hs : s.size = 12) (hm : m ≤ 65536) (hn : n ≤ 65520) (hfx : ∀ i, fx i < 256) (hf : ∀ i, f i < 256) (w : World) (hx : Code8 w (some ⟨xb, xo, none⟩) m fx) (hc : Code8 w (some ⟨b, o, none⟩) n f) :
    Calls Tryd.prog 15 #[.string k, .string s, .slice (some ⟨xb, xo, none⟩) m xc, .slice (some ⟨b, o, none⟩) n c] w fun e w' => RetB2 w w' e (n + 16) (sealedF k s m fx n f) (.int .i64 0) ∧ Below w.heap.size w w' := by
  have CO : Hid (∀ w : World, Calls Tryd.prog 49 #[.string k, .string s, .slice (some ⟨xb, xo, none⟩) m xc, .slice (some ⟨b, o, none⟩) n c, .int .i64 16] w fun e w' => e = .returned (.int .i64 0) ∧ w = w') := l04Code_ok k s _ _ m xc n c 16 hk hs hm (by omega) (by omega)
  have SE : Hid (∀ w : World, Code8 w (some ⟨xb, xo, none⟩) m fx → Code8 w (some ⟨b, o, none⟩) n f → Calls Tryd.prog 50 #[.string k, .string s, .slice (some ⟨xb, xo, none⟩) m xc, .slice (some ⟨b, o, none⟩) n c] w fun e w' => RetB w w' e (n + 16) (sealedF k s m fx n f) ∧ Below w.heap.size w w') := fun w h1 h2 => l04Seal_any k s xb xo m xc b o n c fx f hk hs hm (by omega) hfx hf w h1 h2
  generalize sealedF k s m fx n f = F at *
  have e1 : ¬ (65536 : Int) < k.size := by omega
  have e2 : ¬ (65536 : Int) < s.size := by omega
  have e3 : ¬ (65536 : Int) < (m : Int) := by omega
  have e4 : ¬ (65536 : Int) < (n : Int) := by omega
  have HX : Hid (Code8 w (some ⟨xb, xo, none⟩) m fx) := hx
  have HC : Hid (Code8 w (some ⟨b, o, none⟩) n f) := hc
  clear hx hc hfx hf hk hs
  go_enter Tryd.func15, Tryd.ntmps15
  go_wp2_with fail
  refine (CO.out _).mono ?_
  rintro e w' ⟨rfl, rfl⟩
  go_wp2_with fail
  refine (SE.out _ HX.out HC.out).mono ?_
  rintro e w1 ⟨⟨g, cg, hg, rfl, ho⟩, hb⟩
  have O1 : Hid (Own8 w1 g (n + 16) F) := ho
  have B1 : Hid (Below w.heap.size w w1) := hb
  clear ho hb CO SE HX HC
  go_wp2
  go_ret2
  exact ⟨⟨g, cg, hg, rfl, O1.out⟩, B1.out⟩
end Go.Proofs.YthfnbbjjiipcpaaDoor
