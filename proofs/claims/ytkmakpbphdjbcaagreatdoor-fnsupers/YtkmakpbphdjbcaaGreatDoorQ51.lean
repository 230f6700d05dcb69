/-
  Texts of the proof, joined: SealS.
-/
import Derived.Test.YtkmakpbphdjbcaaGreatDoorQ47
import Derived.Test.YtkmakpbphdjbcaaGreatDoorQ48
import Derived.Test.YtkmakpbphdjbcaaGreatDoorQ49
import Derived.Test.YtkmakpbphdjbcaaGreatDoorQ50
import Derived.Test.YtkmakpbphdjbcaaGreatDoorQ35
namespace Go.Proofs.YtkmakpbphdjbcaaGreatDoor
open Go.ChangeShapes Go.WideShapes Go.ChangeAt Go.RowKit
set_option maxRecDepth 100000 in
set_option maxHeartbeats 2000000 in
theorem l04Seal_any (k s : ByteArray) (xb xo m xc b o n c : Nat) (fx f : Nat → Nat) (hk : k.size = 32) (hs : s.size = 12) (hm : m ≤ 65536) (hn : n ≤ 65536) (hfx : ∀ i, fx i < 256) (hf : ∀ i, f i < 256) (w : World) (hx : Code8 w (some ⟨xb, xo, none⟩) m fx) (hc : Code8 w (some ⟨b, o, none⟩) n f) :
    Calls Tryz.prog 59 #[.string k, .string s, .slice (some ⟨xb, xo, none⟩) m xc, .slice (some ⟨b, o, none⟩) n c] w fun e w' => RetB w w' e (n + 16) (sealedF k s m fx n f) ∧ Below w.heap.size w w' := by
  obtain ⟨i0, hi⟩ := info_parts Tryz.info8
  have HI : Hid (Tryz.prog.info? 5 = some i0 ∧ i0.zero = some (.int .u8 0) ∧ i0.size = 1 ∧ i0.bytes = 1) := hi
  have KE : Hid (∀ w : World, Calls Tryz.prog 72 #[.string k] w fun e w' => e = .returned (.tuple #[.string (encS k), .string (tagS k)]) ∧ Below w.heap.size w w') := fun w => l04Keys_any k hk w
  have CX : Hid (∀ w : World, Code8 w (some ⟨b, o, none⟩) n f → Calls Tryz.prog 73 #[.string (encS k), .string s, .slice (some ⟨b, o, none⟩) n c] w fun e w' => RetC w w' e n (streamF k s f) ∧ Below w.heap.size w w') := fun w h => l02CtrC_any (encS k) s 8 b o n c f (.inr rfl) (by rw [encS_size]) hs hn hf w h
  have TG : Hid (∀ (g cg : Nat) (w : World), Code8 w (some ⟨xb, xo, none⟩) m fx → Code8 w (some ⟨g, 0, none⟩) n (streamF k s f) → Calls Tryz.prog 74 #[.string (tagS k), .string s, .slice (some ⟨xb, xo, none⟩) m xc, .slice (some ⟨g, 0, none⟩) n cg] w fun e w' => e = .returned (.string (tagT k s m fx n (streamF k s f))) ∧ Below w.heap.size w w') := fun g cg w h1 h2 => l04Tag_any k s xb xo m xc g 0 n cg fx _ hs hm hn hfx (streamF_lt k s hf) w h1 h2
  have EQ : Hid (sealedF k s m fx n f = fun i => if i < n then streamF k s f i else strB (tagT k s m fx n (streamF k s f)) (i - n)) := rfl
  rw [EQ.out]
  have hts : (tagT k s m fx n (streamF k s f)).size = 16 := tagT_size _ _ _ _ _ _
  clear EQ
  generalize tagT k s m fx n (streamF k s f) = TT at *
  generalize streamF k s f = F at *
  generalize encS k = E at *
  generalize tagS k = TK at *
  have HX : Hid (Code8 w (some ⟨xb, xo, none⟩) m fx) := hx
  have HC : Hid (Code8 w (some ⟨b, o, none⟩) n f) := hc
  clear hx hc hfx hf hk hs hi
  go_enter Tryz.func59, Tryz.ntmps59
  go_wp2_with fail
  refine (KE.out _).mono ?_
  rintro e w1 ⟨rfl, hb1⟩
  have B1 : Hid (Below w.heap.size w w1) := hb1
  clear hb1 KE
  go_wp2_with fail
  refine (CX.out _ (HC.out.below B1.out)).mono ?_
  rintro e w2 ⟨⟨g, cg, ⟨hg, hcg⟩, rfl, ho⟩, hb2⟩
  have B2 : Hid (Below w.heap.size w w2) := B1.out.trans (hb2.mono B1.out.size)
  have O2 : Hid (OwnC cg w2 g n F) := ho
  have hgw : w.heap.size ≤ g := Nat.le_trans B1.out.size hg
  clear ho hb2 hg B1 HC CX
  go_wp2_with fail
  refine (TG.out g cg _ (HX.out.below B2.out) O2.out.code).mono ?_
  rintro e w3 ⟨rfl, hb3⟩
  have B3 : Hid (Below w.heap.size w w3) := B2.out.trans (hb3.mono B2.out.size)
  have O3 : Hid (w3.ownsRow w.heap.size 5 1 (.slice (some ⟨g, 0, none⟩) n cg) n (bv n F)) := own_of_ownC (O2.out.below hb3) hgw
  have hs3 : w.heap.size ≤ w3.heap.size := B3.out.size
  clear hb3 B2 O2 HX TG
  go_wp2_with (at_builtin; refine Lib.wpList_append_own_string _ rfl (.tmp 21) _ 22 9 rfl w.heap.size 5 i0 Tryz.underlying22 Tryz.underlying9 HI.out.1 HI.out.2.1 HI.out.2.2.1 HI.out.2.2.2 (.slice (some ⟨g, 0, none⟩) n cg) n _ rfl O3.out TT rfl (by rw [hts]; unfold maxLen; omega) (by rw [hts]; omega) hs3 ?_)
  intro v' w4 hown hgrow hnil
  have BG : Below w.heap.size w3 w4 := (Below.refl _ w3).grown hgrow hs3 (fun b hb => (O3.out.lt b hb).1)
  have B4 : Hid (Below w.heap.size w w4) := B3.out.trans BG
  have ES : Lib.strCells TT = bv 16 (strB TT) := (bv_textM TT 16 hts).symm
  rw [ES, bv_append] at hown
  obtain ⟨g4, c4, hg4, rfl, h8⟩ := own8_of_own hown hnil
  have O4 : Hid (Own8 w4 g4 (n + 16) (fun i => if i < n then F i else strB TT (i - n))) := h8
  clear hown hgrow hnil BG h8 B3 O3 ES
  go_wp2
  go_ret
  exact ⟨⟨g4, c4, hg4, rfl, O4.out⟩, B4.out⟩
end Go.Proofs.YtkmakpbphdjbcaaGreatDoor
