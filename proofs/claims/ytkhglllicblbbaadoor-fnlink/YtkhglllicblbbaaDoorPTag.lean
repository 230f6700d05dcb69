/-
  Tags of packets: packetTag of the program and l07Tag of the model.
-/
import Derived.Test.YtkhglllicblbbaaDoorMacS
import Derived.Test.YtkhglllicblbbaaDoorNumV
import Derived.Test.YtkhglllicblbbaaDoorNonce
import Derived.Test.YtkhglllicblbbaaDoorRowM
import Derived.Lib.AppendStr
namespace Go.Proofs.YtkhglllicblbbaaDoor
open Go.ChangeShapes Go.WideShapes Go.ChangeAt Go.RowKit
set_option linter.unusedVariables false
/-- The tag of a packet. -/
def ptag (K body : ByteArray) (x : Nat) : ByteArray := (macS 32 (strB K) (4 + body.size) (Sha.cat 4 (fourF x) (strB body))).extract 0 16
theorem num_four (x : Nat) (f : Nat → Nat) : numF 0 4 x f = fourF x := by
  funext i
  have := four_num 0 x f i
  rwa [Nat.zero_add] at this
theorem cat_strCells (n : Nat) (F : Nat → Nat) (s : ByteArray) : bv n F ++ Lib.strCells s = bv (n + s.size) (Sha.cat n F (strB s)) := by
  rw [show Lib.strCells s = bv s.size (strB s) from (bv_textM s s.size rfl).symm, bv_append]
  rfl
theorem ptag_size (K body : ByteArray) (x : Nat) : (ptag K body x).size = 16 := by
  unfold ptag
  rw [ByteArray.size_extract, macS_size]
  rfl
set_option maxRecDepth 100000 in
set_option maxHeartbeats 2000000 in
theorem packetTag_any (K body : ByteArray) (x : Nat) (hK : K.size = 32) (hx : x < 4294967296) (hb : body.size ≤ 1048576) (w : World) (ht : Tabs w) :
    Calls Tryd.prog 67 #[.string K, .int .i64 (x : Int), .string body] w fun e w' => e = .returned (.string (ptag K body x)) ∧ Below w.heap.size w w' := by
  obtain ⟨i0, hi⟩ := info_parts Tryd.info8
  have HI : Hid (Tryd.prog.info? 5 = some i0 ∧ i0.zero = some (.int .u8 0) ∧ i0.size = 1 ∧ i0.bytes = 1) := hi
  have AN : Hid (∀ w : World, Calls Tryd.prog 61 #[.slice none 0 0, .int .i64 (x : Int), .int .i64 4] w fun e w' => RetO w.heap.size w' e 4 (fourF x) ∧ Below w.heap.size w w') := fun w => by
    have := appendNumber_nil x 4 (by omega) (by omega) w
    rwa [num_four] at this
  have HT : Hid (Tabs w) := ht
  obtain ⟨M, hM⟩ : ∃ M, M = macS 32 (strB K) (4 + body.size) (Sha.cat 4 (fourF x) (strB body)) := ⟨_, rfl⟩
  have hMs : M.size = 32 := by rw [hM]; exact macS_size _ _ _ _
  have HP : Hid (ptag K body x = M.extract 0 16) := by rw [hM]; exact rfl
  have NK : Hid (∀ (b c : Nat) (w : World), Code8 w (some ⟨b, 0, none⟩) 32 (strB K) → Tabs w → Calls Tryd.prog 59 #[.slice (some ⟨b, 0, none⟩) 32 c] w fun e w' => e = .returned (.agg (bA 64 (Sha.keyF 32 (strB K)))) ∧ Below w.heap.size w w') := fun b c w h ht => by
    exact newMacKey_any b 0 32 c (strB K) (strB_lt K) (by omega) w h ht
  have MC : Hid (∀ (b c : Nat) (w : World), Code8 w (some ⟨b, 0, none⟩) (4 + body.size) (Sha.cat 4 (fourF x) (strB body)) → Tabs w → Calls Tryd.prog 60 #[.agg (bA 64 (Sha.keyF 32 (strB K))), .slice (some ⟨b, 0, none⟩) (4 + body.size) c] w fun e w' => e = .returned (.string M) ∧ Below w.heap.size w w') := fun b c w h ht => by
    rw [hM]
    exact mac_any _ (Sha.keyF_lt (strB_lt K)) b 0 _ c _ (Sha.cat_lt (fourF_lt x) (strB_lt body)) (by omega) w h ht
  generalize bA 64 (Sha.keyF 32 (strB K)) = KA at *
  generalize ptag K body x = PT at *
  generalize hC : Sha.cat 4 (fourF x) (strB body) = C at *
  have HC : Hid (bv 4 (fourF x) ++ Lib.strCells body = bv (4 + body.size) C) := by
    rw [← hC]; exact cat_strCells 4 (fourF x) body
  have HK : Hid (K.size = 32) := hK
  clear hi ht hM hC hK
  go_enter Tryd.func67, Tryd.ntmps67
  go_wp2_with fail
  refine (AN.out _).mono ?_
  rintro e w1 ⟨⟨g, c, rfl, hown⟩, hb1⟩
  have HO : Hid (w1.ownsRow w.heap.size 5 1 (.slice (some ⟨g, 0, none⟩) 4 c) 4 (bv 4 (fourF x))) := hown
  have B1 : Hid (Below w.heap.size w w1) := hb1
  have hsz : w.heap.size ≤ w1.heap.size := hb1.size
  clear hown hb1 AN
  go_wp2_with (at_builtin; refine Lib.wpList_append_own_string _ rfl _ _ 22 9 rfl w.heap.size 5 i0 Tryd.underlying22 Tryd.underlying9 HI.out.1 HI.out.2.1 HI.out.2.2.1 HI.out.2.2.2 (.slice (some ⟨g, 0, none⟩) 4 c) 4 _ rfl HO.out body rfl (by unfold maxLen; omega) (by omega) hsz ?_)
  intro v2 w2 hown2 hgrow2 hnil2
  rw [HC.out] at hown2
  have BG := grown_below HO.out hgrow2 hsz
  have B2 : Hid (Below w.heap.size w w2) := B1.out.trans BG
  obtain ⟨g2, c2, ⟨hg2, hc2⟩, rfl, ho8⟩ := own8_of_own (n := 4 + body.size) hown2 hnil2
  have K2 : Hid (Code8 w2 (some ⟨g2, 0, none⟩) (4 + body.size) C) := ho8.code
  clear hown2 hgrow2 hnil2 BG HO B1 hsz ho8 hg2 hc2 HI
  obtain ⟨w3, gc, cv, hk3, hb3, -⟩ := bytesOfM K w2
  rw [HK.out] at cv hk3
  have K3 : Hid (Code8 w3 (some ⟨w2.heap.size, 0, none⟩) 32 (strB K)) := hk3
  have K2' : Hid (Code8 w3 (some ⟨g2, 0, none⟩) (4 + body.size) C) := K2.out.below hb3
  have B3 : Hid (Below w.heap.size w w3) := B2.out.trans (hb3.mono B2.out.size)
  clear hk3 hb3 K2 B2
  go_wp2_with fail
  clear cv
  generalize w2.heap.size = b2 at *
  refine (NK.out b2 gc _ K3.out (HT.out.below B3.out)).mono ?_
  rintro e w4 ⟨rfl, hb4⟩
  have K4 : Hid (Code8 w4 (some ⟨g2, 0, none⟩) (4 + body.size) C) := K2'.out.below hb4
  have B4 : Hid (Below w.heap.size w w4) := B3.out.trans (hb4.mono B3.out.size)
  clear hb4 K3 K2' B3 NK
  go_wp2_with fail
  refine (MC.out g2 c2 _ K4.out (HT.out.below B4.out)).mono ?_
  rintro e w5 ⟨rfl, hb5⟩
  have B5 : Hid (Below w.heap.size w w5) := B4.out.trans (hb5.mono B4.out.size)
  clear hb5 K4 B4 MC HT HC
  go_wp2
  go_ret
  exact ⟨by rw [HP.out]; rfl, B5.out⟩
theorem l02FourR_any (k : Nat) (hk : k < 4294967296) (w : World) :
    Calls Tryd.prog 103 #[.int .i64 (k : Int)] w fun e w' => e = .returned (.slice (some ⟨w.heap.size, 0, none⟩) 4 4) ∧ Row8 w' w.heap.size 5 4 (fourF k) ∧ Below w.heap.size w w' := by
  go_enter Tryd.func103, Tryd.ntmps103
  go_wp2
  go_ret
  refine ⟨rfl, World.rowIs_alloc w #[.int .u8 ((k : Int) / 16777216), .int .u8 ((k : Int) / 65536 % 256), .int .u8 ((k : Int) / 256 % 256), .int .u8 ((k : Int) % 256)] 5 _ (fun i hi => ?_), (Below.refl _ _).alloc (Nat.le_refl _) _⟩
  have hi' : i < 4 := by simpa using hi
  rcases (show i = 0 ∨ i = 1 ∨ i = 2 ∨ i = 3 by omega) with rfl | rfl | rfl | rfl
  · exact congrArg some (numEq8 (by show (k : Int) / 16777216 = ((k / 16777216 % 256 : Nat) : Int); omega))
  · exact congrArg some (numEq8 (by show (k : Int) / 65536 % 256 = ((k / 65536 % 256 : Nat) : Int); omega))
  · exact congrArg some (numEq8 (by show (k : Int) / 256 % 256 = ((k / 256 % 256 : Nat) : Int); omega))
  · exact congrArg some (numEq8 (by show (k : Int) % 256 = ((k / 1 % 256 : Nat) : Int); omega))
set_option maxRecDepth 100000 in
set_option maxHeartbeats 2000000 in
theorem l07Tag_any (K body : ByteArray) (x : Nat) (hK : K.size = 32) (hx : x < 4294967296) (hb : body.size ≤ 1048576) (w : World) :
    Calls Tryd.prog 69 #[.string K, .int .i64 (x : Int), .string body] w fun e w' => e = .returned (.string (ptag K body x)) ∧ Below w.heap.size w w' := by
  obtain ⟨i0, hi⟩ := info_parts Tryd.info8
  have HI : Hid (Tryd.prog.info? 5 = some i0 ∧ i0.zero = some (.int .u8 0) ∧ i0.size = 1 ∧ i0.bytes = 1) := hi
  have FO : Hid (∀ w : World, Calls Tryd.prog 103 #[.int .i64 (x : Int)] w fun e w' => e = .returned (.slice (some ⟨w.heap.size, 0, none⟩) 4 4) ∧ Row8 w' w.heap.size 5 4 (fourF x) ∧ Below w.heap.size w w') := fun w => l02FourR_any x hx w
  obtain ⟨M, hM⟩ : ∃ M, M = macS 32 (strB K) (4 + body.size) (Sha.cat 4 (fourF x) (strB body)) := ⟨_, rfl⟩
  have hMs : M.size = 32 := by rw [hM]; exact macS_size _ _ _ _
  have HP : Hid (ptag K body x = M.extract 0 16) := by rw [hM]; exact rfl
  have MC : Hid (∀ (b d g c : Nat) (w : World), Code8 w (some ⟨b, 0, none⟩) 32 (strB K) → Code8 w (some ⟨g, 0, none⟩) (4 + body.size) (Sha.cat 4 (fourF x) (strB body)) → Calls Tryd.prog 102 #[.slice (some ⟨b, 0, none⟩) 32 d, .slice (some ⟨g, 0, none⟩) (4 + body.size) c] w fun e w' => e = .returned (.string M) ∧ Below w.heap.size w w') := fun b d g c w h h' => by
    rw [hM]
    exact l03Hmac_any b 0 32 d g 0 _ c (strB K) _ (strB_lt K) (Sha.cat_lt (fourF_lt x) (strB_lt body)) (by omega) (by omega) w h h'
  generalize ptag K body x = PT at *
  generalize hC : Sha.cat 4 (fourF x) (strB body) = C at *
  have HC : Hid (bv 4 (fourF x) ++ Lib.strCells body = bv (4 + body.size) C) := by
    rw [← hC]; exact cat_strCells 4 (fourF x) body
  have HK : Hid (K.size = 32) := hK
  clear hi hM hC hK
  obtain ⟨w1, gc, cv, hk1, hb1, -⟩ := bytesOfM K w
  rw [HK.out] at cv hk1
  have K1 : Hid (Code8 w1 (some ⟨w.heap.size, 0, none⟩) 32 (strB K)) := hk1
  have B1 : Hid (Below w.heap.size w w1) := hb1
  clear hk1 hb1
  go_enter Tryd.func69, Tryd.ntmps69
  go_wp2_with fail
  clear cv
  refine (FO.out _).mono ?_
  rintro e w2 ⟨rfl, hr2, hb2⟩
  have HO : Hid (w2.ownsRow w1.heap.size 5 1 (.slice (some ⟨w1.heap.size, 0, none⟩) 4 4) 4 (bv 4 (fourF x))) := own_of_row hr2 (Nat.le_refl _)
  have K2 : Hid (Code8 w2 (some ⟨w.heap.size, 0, none⟩) 32 (strB K)) := K1.out.below hb2
  have B2 : Hid (Below w.heap.size w w2) := B1.out.trans (hb2.mono B1.out.size)
  have hsz : w1.heap.size ≤ w2.heap.size := hb2.size
  have LT : Hid (w.heap.size ≤ w1.heap.size) := B1.out.size
  have K1l : Hid (Code8 w1 (some ⟨w.heap.size, 0, none⟩) 32 (strB K)) := K1.out
  clear hr2 hb2 FO B1 K1
  go_wp2_with (at_builtin; refine Lib.wpList_append_own_string _ rfl _ _ 22 9 rfl w1.heap.size 5 i0 Tryd.underlying22 Tryd.underlying9 HI.out.1 HI.out.2.1 HI.out.2.2.1 HI.out.2.2.2 (.slice (some ⟨w1.heap.size, 0, none⟩) 4 4) 4 _ rfl HO.out body rfl (by unfold maxLen; omega) (by omega) hsz ?_)
  intro v3 w3 hown3 hgrow3 hnil3
  rw [HC.out] at hown3
  have BG : Below w1.heap.size w2 w3 := grown_below HO.out hgrow3 hsz
  have K3 : Hid (Code8 w3 (some ⟨w.heap.size, 0, none⟩) 32 (strB K)) := fun i hi => by
    obtain ⟨cb, off, e, hc⟩ := K2.out i hi
    refine ⟨cb, off, e, ?_⟩
    have hlt : cb < w1.heap.size := by
      obtain ⟨cb', off', e', hc'⟩ := K1l.out i hi
      rw [e] at e'
      cases e'
      exact strBlock hc'
    rw [BG.cell hlt]
    exact hc
  have B3 : Hid (Below w.heap.size w w3) := B2.out.trans (BG.mono LT.out)
  obtain ⟨g3, c3, ⟨hg3, hc3⟩, rfl, ho8⟩ := own8_of_own (n := 4 + body.size) hown3 hnil3
  have J3 : Hid (Code8 w3 (some ⟨g3, 0, none⟩) (4 + body.size) C) := ho8.code
  clear hown3 hgrow3 hnil3 BG HO K2 B2 hsz ho8 hg3 hc3 HI K1l LT
  go_wp2_with fail
  refine (MC.out w.heap.size gc g3 c3 _ K3.out J3.out).mono ?_
  rintro e w4 ⟨rfl, hb4⟩
  have B4 : Hid (Below w.heap.size w w4) := B3.out.trans (hb4.mono B3.out.size)
  clear hb4 K3 J3 B3 MC HC
  go_wp2
  go_ret
  exact ⟨by rw [HP.out]; rfl, B4.out⟩
end Go.Proofs.YtkhglllicblbbaaDoor
