/-
  Keys of links: LinkKey of the program and of the model, and its exact law.
-/
import Derived.Test.YtkhglllicblbbaaDoorMacS
import Derived.Test.YtkhglllicblbbaaDoorNonce
import Derived.Test.YtkhglllicblbbaaDoorRowM
import Derived.Test.YtkhglllicblbbaaDoorAnyH
import Derived.Test.YtkhglllicblbbaaDoorInAny
import Derived.Test.YtkhglllicblbbaaDoorStrS
import Derived.Lib.AppendZeros
namespace Go.Proofs.YtkhglllicblbbaaDoor
open Go.ChangeShapes Go.WideShapes Go.ChangeAt Go.RowKit
set_option linter.unusedVariables false
def linkX (i : Nat) : Nat := if i = 0 then 108 else if i = 1 then 105 else if i = 2 then 110 else 107
theorem linkX_lt (i : Nat) : linkX i < 256 := by unfold linkX; split; omega; split; omega; split <;> omega
def prX (x y i : Nat) : Nat := if i = 0 then x else y
/-- What is tagged for a key. -/
def lkF (x y z : Nat) : Nat → Nat := numF 6 4 z (Sha.cat 4 linkX (prX x y))
theorem lkF_lt (x y z : Nat) (hx : x < 256) (hy : y < 256) (i : Nat) : lkF x y z i < 256 := by
  unfold lkF numF
  split
  · unfold Sha.cat
    split
    · exact linkX_lt _
    · unfold prX; split <;> omega
  · exact Nat.mod_lt _ (by omega)
theorem lk_text (x y z : Nat) : kstr linkX 0 4 ++ kstr (prX x y) 0 2 ++ kstr (fourF z) 0 4 = kstr (lkF x y z) 0 10 := by
  have e0 : kstr linkX 0 4 = kstr (lkF x y z) 0 4 := kstr_congr (fun i hi => by
    unfold lkF numF Sha.cat
    rw [if_pos (by omega), if_pos (by omega)])
  have e1 : kstr (prX x y) 0 2 = kstr (lkF x y z) 4 2 := kstr_congr (fun i hi => by
    unfold lkF numF Sha.cat
    rw [if_pos (by omega), if_neg (by omega), Nat.zero_add, show 4 + i - 4 = i from by omega])
  have e2 : kstr (fourF z) 0 4 = kstr (lkF x y z) 6 4 := kstr_congr (fun i hi => by
    rw [Nat.zero_add]
    exact (four_num 6 z _ i).symm)
  rw [e0, e1, e2, kstr_append, kstr_append]
theorem lit_link : (⟨#[108, 105, 110, 107]⟩ : ByteArray) = kstr linkX 0 4 := by
  apply ba_ext
  rw [kstr_data]
  rfl
/-- The key of a link. -/
def lkey (K : ByteArray) (x y z : Nat) : ByteArray := macS 32 (strB K) 10 (lkF x y z)
theorem lkey_size (K : ByteArray) (x y z : Nat) : (lkey K x y z).size = 32 := macS_size _ _ _ _
theorem conv_rowL (w : World) (C : Array Value) (n c : Nat) : (convert 22 22 (.slice (some ⟨w.heap.size, 0, none⟩) n c)).run Tryd.prog (w.alloc (.cells C 5)) = .ok (.slice (some ⟨w.heap.size, 0, none⟩) n c) (w.alloc (.cells C 5 (C.size, C.size + 1))) := by
  have hsh : (w.alloc (.cells C 5)).shape? w.heap.size = some (5, C.size) := by
    have : (w.alloc (.cells C 5)).heap[w.heap.size]? = some (.cells C 5) := by
      show (w.heap.push (.cells C 5))[w.heap.size]? = _
      simp
    unfold World.shape?
    rw [this]
  have hfr : (w.alloc (.cells C 5)).freeze ⟨w.heap.size, C.size, none⟩ 1 = w.alloc (.cells C 5 (C.size, C.size + 1)) := by
    have hm : ∀ (a : Array Obj) (x : Obj) (f : Obj → Obj), (a.push x).modify a.size f = a.push (f x) := by
      intro a x f
      apply Array.ext
      · simp
      · intro i h1 h2
        simp only [Array.getElem_modify, Array.getElem_push]
        by_cases h : a.size = i
        · subst h
          simp
        · have hi : i < a.size := by simp at h1; omega
          simp [h, hi]
    unfold World.freeze
    rw [if_neg (by decide)]
    show ({ w.alloc (.cells C 5) with heap := (w.heap.push (.cells C 5)).modify w.heap.size _ } : World) = _
    rw [hm]
    rfl
  simp [convert, run_underlying Tryd.underlying22, run_underlying Tryd.underlying5, markStringish, hsh]
  exact hfr
theorem link_rowM (w : World) : RowM (w.alloc (.cells #[.int .u8 108, .int .u8 105, .int .u8 110, .int .u8 107] 5 (4, 5))) w.heap.size 4 4 linkX := by
  refine ⟨Nat.le_refl _, fun i hi => ?_, fun i hi => ⟨?_, ?_⟩, by simp⟩
  · rw [World.cell?_alloc_mark]
    rcases (show i = 0 ∨ i = 1 ∨ i = 2 ∨ i = 3 by omega) with rfl | rfl | rfl | rfl <;> (simp [linkX])
  · rw [World.cell?_alloc_mark]
    rcases (show i = 0 ∨ i = 1 ∨ i = 2 ∨ i = 3 by omega) with rfl | rfl | rfl | rfl <;> rfl
  · rw [World.frozen?_alloc_mark]
    simp
    intro h
    omega
theorem pair_code (w : World) (x y : Nat) : Code8 (w.alloc (.cells #[.int .u8 (x : Int), .int .u8 (y : Int)] 5)) (some ⟨w.heap.size, 0, none⟩) 2 (prX x y) := code8_of (fun i hi => by
  rw [Nat.zero_add]
  rcases (show i = 0 ∨ i = 1 by omega) with rfl | rfl <;> simp [prX])
theorem ByteS_mod (x : Nat) (h : x < 256) : (x : Int) % 256 = (x : Int) := by omega
/-- What LinkKey answers. -/
def LkA (K : ByteArray) (x y z : Int) (s : ByteArray) (code : Int) : Prop :=
  (65536 < K.size ∧ s = ⟨#[]⟩ ∧ code = 2) ∨ (K.size ≤ 65536 ∧ K.size ≠ 32 ∧ s = ⟨#[]⟩ ∧ code = 1) ∨ (K.size = 32 ∧ ¬ ((0 ≤ x ∧ x ≤ 255) ∧ (0 ≤ y ∧ y ≤ 255) ∧ (0 ≤ z ∧ z ≤ 4294967295)) ∧ s = ⟨#[]⟩ ∧ code = 4) ∨ (K.size = 32 ∧ ((0 ≤ x ∧ x ≤ 255) ∧ (0 ≤ y ∧ y ≤ 255) ∧ (0 ≤ z ∧ z ≤ 4294967295)) ∧ s = lkey K x.toNat y.toNat z.toNat ∧ code = 0)
theorem lkA_ex (K : ByteArray) (x y z : Int) : ∃ s code, LkA K x y z s code := by
  by_cases h1 : 65536 < K.size
  · exact ⟨_, _, .inl ⟨h1, rfl, rfl⟩⟩
  · by_cases h2 : K.size = 32
    · by_cases h3 : (0 ≤ x ∧ x ≤ 255) ∧ (0 ≤ y ∧ y ≤ 255) ∧ (0 ≤ z ∧ z ≤ 4294967295)
      · exact ⟨_, _, .inr (.inr (.inr ⟨h2, h3, rfl, rfl⟩))⟩
      · exact ⟨_, _, .inr (.inr (.inl ⟨h2, h3, rfl, rfl⟩))⟩
    · exact ⟨_, _, .inr (.inl ⟨by omega, h2, rfl, rfl⟩)⟩
theorem isByte_anyL (x : Int) (r : Bool) (hr : r = decide (0 ≤ x ∧ x ≤ 255)) (w : World) :
    Calls Tryd.prog 57 #[.int .i64 x] w fun e w' => e = .returned (.bool r) ∧ w = w' := by
  by_cases h1 : 0 ≤ x
  · by_cases h2 : x ≤ 255
    · obtain rfl : r = true := by rw [hr]; simp; omega
      clear hr
      go_enter Tryd.func57, Tryd.ntmps57
      go_wp2
      go_ret
      exact ⟨rfl, rfl⟩
    · obtain rfl : r = false := by rw [hr]; simp; omega
      clear hr
      go_enter Tryd.func57, Tryd.ntmps57
      go_wp2
      go_ret
      exact ⟨rfl, rfl⟩
  · obtain rfl : r = false := by rw [hr]; simp; omega
    clear hr
    go_enter Tryd.func57, Tryd.ntmps57
    go_wp2
    go_ret
    exact ⟨rfl, rfl⟩
theorem isWord_anyL (x : Int) (r : Bool) (hr : r = decide (0 ≤ x ∧ x ≤ 4294967295)) (w : World) :
    Calls Tryd.prog 58 #[.int .i64 x] w fun e w' => e = .returned (.bool r) ∧ w = w' := by
  by_cases h1 : 0 ≤ x
  · by_cases h2 : x ≤ 4294967295
    · obtain rfl : r = true := by rw [hr]; simp; omega
      clear hr
      go_enter Tryd.func58, Tryd.ntmps58
      go_wp2
      go_ret
      exact ⟨rfl, rfl⟩
    · obtain rfl : r = false := by rw [hr]; simp; omega
      clear hr
      go_enter Tryd.func58, Tryd.ntmps58
      go_wp2
      go_ret
      exact ⟨rfl, rfl⟩
  · obtain rfl : r = false := by rw [hr]; simp; omega
    clear hr
    go_enter Tryd.func58, Tryd.ntmps58
    go_wp2
    go_ret
    exact ⟨rfl, rfl⟩
set_option maxRecDepth 100000 in
set_option maxHeartbeats 2000000 in
theorem implLKey_ok (K : ByteArray) (x y z : Nat) (h1 : K.size = 32) (hx : x ≤ 255) (hy : y ≤ 255) (hz : z ≤ 4294967295) (w : World) (ht : Tabs w) :
    Calls Tryd.prog 20 #[.string K, .int .i64 (x : Int), .int .i64 (y : Int), .int .i64 (z : Int)] w fun e w' => e = .returned (.tuple #[.string (lkey K x y z), .int .i64 0]) ∧ Below w.heap.size w w' := by
  have e1 : ¬ (65536 : Int) < (K.size : Int) := by omega
  have e3 : ((K.size : Int) != 32) = false := by simp; omega
  have I1 : Hid (∀ w : World, Calls Tryd.prog 57 #[.int .i64 (x : Int)] w fun e w' => e = .returned (.bool true) ∧ w = w') := fun w => isByte_anyL x true (by simp; omega) w
  have I2 : Hid (∀ w : World, Calls Tryd.prog 57 #[.int .i64 (y : Int)] w fun e w' => e = .returned (.bool true) ∧ w = w') := fun w => isByte_anyL y true (by simp; omega) w
  have I3 : Hid (∀ w : World, Calls Tryd.prog 58 #[.int .i64 (z : Int)] w fun e w' => e = .returned (.bool true) ∧ w = w') := fun w => isWord_anyL z true (by simp; omega) w
  have cx : (x : Int) % 256 = (x : Int) := by omega
  have cy : (y : Int) % 256 = (y : Int) := by omega
  have NK : Hid (∀ (b c : Nat) (w : World), Code8 w (some ⟨b, 0, none⟩) 32 (strB K) → Tabs w → Calls Tryd.prog 59 #[.slice (some ⟨b, 0, none⟩) 32 c] w fun e w' => e = .returned (.agg (bA 64 (Sha.keyF 32 (strB K)))) ∧ Below w.heap.size w w') := fun b c w h ht => newMacKey_any b 0 32 c (strB K) (strB_lt K) (by omega) w h ht
  obtain ⟨M, hM⟩ : ∃ M, M = lkey K x y z := ⟨_, rfl⟩
  have MC : Hid (∀ (b c : Nat) (w : World), Code8 w (some ⟨b, 0, none⟩) 10 (lkF x y z) → Tabs w → Calls Tryd.prog 60 #[.agg (bA 64 (Sha.keyF 32 (strB K))), .slice (some ⟨b, 0, none⟩) 10 c] w fun e w' => e = .returned (.string M) ∧ Below w.heap.size w w') := fun b c w h ht => by
    rw [hM]
    exact mac_any _ (Sha.keyF_lt (strB_lt K)) b 0 10 c _ (lkF_lt x y z (by omega) (by omega)) (by omega) w h ht
  have AN : Hid (∀ (B g c : Nat) (w : World), B ≤ g → B ≤ w.heap.size → RowM w g 6 c (Sha.cat 4 linkX (prX x y)) → Calls Tryd.prog 61 #[.slice (some ⟨g, 0, none⟩) 6 c, .int .i64 (z : Int), .int .i64 4] w fun e w' => RetM B w' e 10 (lkF x y z) ∧ Below B w w') := fun B g c w hg hB h => appendNumberM_any B g 6 c z 4 _ (by omega) (by omega) w hg hB h
  rw [← hM]
  generalize bA 64 (Sha.keyF 32 (strB K)) = KA at *
  generalize lkF x y z = LF at *
  have HT : Hid (Tabs w) := ht
  have HK : Hid (K.size = 32) := h1
  clear hM ht h1 hx hy hz
  go_enter Tryd.func20, Tryd.ntmps20
  go_wp2_with fail
  refine (I1.out _).mono ?_
  rintro e w1 ⟨rfl, rfl⟩
  go_wp2_with fail
  refine (I2.out _).mono ?_
  rintro e w1 ⟨rfl, rfl⟩
  go_wp2_with fail
  refine (I3.out _).mono ?_
  rintro e w1 ⟨rfl, rfl⟩
  clear I1 I2 I3
  have hcv1 : (convert 22 22 (.slice (some ⟨w.heap.size, 0, none⟩) 4 4)).run Tryd.prog (w.alloc (.cells #[.int .u8 108, .int .u8 105, .int .u8 110, .int .u8 107] 5)) = .ok (.slice (some ⟨w.heap.size, 0, none⟩) 4 4) (w.alloc (.cells #[.int .u8 108, .int .u8 105, .int .u8 110, .int .u8 107] 5 (4, 5))) := conv_rowL w #[.int .u8 108, .int .u8 105, .int .u8 110, .int .u8 107] 4 4
  have B1 : Below w.heap.size w (w.alloc (.cells #[.int .u8 108, .int .u8 105, .int .u8 110, .int .u8 107] 5 (4, 5))) := (Below.refl _ _).alloc (Nat.le_refl _) _
  have hs1 : (w.alloc (.cells #[.int .u8 108, .int .u8 105, .int .u8 110, .int .u8 107] 5 (4, 5))).heap.size = w.heap.size + 1 := by simp
  have R1 := link_rowM w
  have C2 := pair_code (w.alloc (.cells #[.int .u8 108, .int .u8 105, .int .u8 110, .int .u8 107] 5 (4, 5))) x y
  have B2 : Below (w.heap.size + 1) (w.alloc (.cells #[.int .u8 108, .int .u8 105, .int .u8 110, .int .u8 107] 5 (4, 5))) ((w.alloc (.cells #[.int .u8 108, .int .u8 105, .int .u8 110, .int .u8 107] 5 (4, 5))).alloc (.cells #[.int .u8 (x : Int), .int .u8 (y : Int)] 5)) := (Below.refl _ _).alloc (by rw [hs1]; exact Nat.le_refl _) _
  have R2 : RowM ((w.alloc (.cells #[.int .u8 108, .int .u8 105, .int .u8 110, .int .u8 107] 5 (4, 5))).alloc (.cells #[.int .u8 (x : Int), .int .u8 (y : Int)] 5)) w.heap.size 4 4 linkX := R1.below (by rw [hs1]; exact B2)
  have B02 : Below w.heap.size w ((w.alloc (.cells #[.int .u8 108, .int .u8 105, .int .u8 110, .int .u8 107] 5 (4, 5))).alloc (.cells #[.int .u8 (x : Int), .int .u8 (y : Int)] 5)) := B1.trans (B2.mono (Nat.le_succ _))
  rw [hs1] at C2
  obtain ⟨g3, c3, w3, hr, hm, hb3, hg3⟩ := appendM ((w.alloc (.cells #[.int .u8 108, .int .u8 105, .int .u8 110, .int .u8 107] 5 (4, 5))).alloc (.cells #[.int .u8 (x : Int), .int .u8 (y : Int)] 5)) w.heap.size w.heap.size 4 4 linkX (w.heap.size + 1) 0 2 2 (prX x y) (Nat.le_refl _) B02.size (by omega) R2 C2 22
  have HR : Hid _ := hr
  have B3 : Hid (Below w.heap.size w w3) := B02.trans hb3
  have R3 : Hid (RowM w3 g3 6 c3 (Sha.cat 4 linkX (prX x y))) := hm
  have HG3 : Hid (w.heap.size ≤ g3) := hg3
  clear B1 hs1 R1 C2 B2 R2 B02 hr hm hb3 hg3
  obtain ⟨w4, gc, cv, hk4, hb4, -⟩ := bytesOfM K w3
  rw [HK.out] at cv hk4
  have K4 : Hid (Code8 w4 (some ⟨w3.heap.size, 0, none⟩) 32 (strB K)) := hk4
  have B4 : Hid (Below w.heap.size w w4) := B3.out.trans (hb4.mono B3.out.size)
  have R4 : Hid (RowM w4 g3 6 c3 (Sha.cat 4 linkX (prX x y))) := R3.out.below hb4
  clear hk4 hb4 B3 R3
  go_wp2_with (at_builtin; refine Lib.wpList_append_run _ rfl (.tmp 31) (.tmp 36) _ _ rfl _ _ rfl rfl _ _ HR.out ?_)
  clear HR hcv1 cx cy cv e1 e3
  generalize w3.heap.size = b3 at *
  refine (NK.out b3 gc _ K4.out (HT.out.below B4.out)).mono ?_
  rintro e w5 ⟨rfl, hb5⟩
  have B5 : Hid (Below w.heap.size w w5) := B4.out.trans (hb5.mono B4.out.size)
  have R5 : Hid (RowM w5 g3 6 c3 (Sha.cat 4 linkX (prX x y))) := R4.out.below hb5
  clear hb5 B4 R4 K4 NK
  go_wp2_with fail
  refine (AN.out w.heap.size g3 c3 _ HG3.out B5.out.size R5.out).mono ?_
  rintro e w6 ⟨⟨g6, c6, rfl, hg6, hr6⟩, hb6⟩
  have B6 : Hid (Below w.heap.size w w6) := B5.out.trans hb6
  have K6 : Hid (Code8 w6 (some ⟨g6, 0, none⟩) 10 LF) := hr6.code
  clear hr6 hb6 B5 R5 AN hg6 HG3
  go_wp2_with fail
  refine (MC.out g6 c6 _ K6.out (HT.out.below B6.out)).mono ?_
  rintro e w7 ⟨rfl, hb7⟩
  have B7 : Hid (Below w.heap.size w w7) := B6.out.trans (hb7.mono B6.out.size)
  clear hb7 B6 K6 MC HT
  go_wp2
  go_ret2
  exact ⟨rfl, B7.out⟩
set_option maxRecDepth 100000 in
set_option maxHeartbeats 2000000 in
theorem implLKey_any (K : ByteArray) (x y z : Int) (s : ByteArray) (code : Int) (h : LkA K x y z s code) (w : World) (ht : Tabs w) :
    Calls Tryd.prog 20 #[.string K, .int .i64 x, .int .i64 y, .int .i64 z] w fun e w' => e = .returned (.tuple #[.string s, .int .i64 code]) ∧ Below w.heap.size w w' := by
  rcases h with ⟨h1, rfl, rfl⟩ | ⟨h1, h2, rfl, rfl⟩ | ⟨h1, h3, rfl, rfl⟩ | ⟨h1, ⟨⟨x0, x1⟩, ⟨y0, y1⟩, z0, z1⟩, rfl, rfl⟩
  · have e1 : (65536 : Int) < (K.size : Int) := by omega
    clear h1 ht
    go_enter Tryd.func20, Tryd.ntmps20
    go_wp2
    go_ret2
    exact ⟨rfl, Below.refl _ _⟩
  · have e1 : ¬ (65536 : Int) < (K.size : Int) := by omega
    have e3 : ((K.size : Int) != 32) = true := by simp; omega
    clear h1 h2 ht
    go_enter Tryd.func20, Tryd.ntmps20
    go_wp2
    go_ret2
    exact ⟨rfl, Below.refl _ _⟩
  · have e1 : ¬ (65536 : Int) < (K.size : Int) := by omega
    have e3 : ((K.size : Int) != 32) = false := by simp; omega
    by_cases g1 : 0 ≤ x ∧ x ≤ 255
    · have I1 : Hid (∀ w : World, Calls Tryd.prog 57 #[.int .i64 x] w fun e w' => e = .returned (.bool true) ∧ w = w') := fun w => isByte_anyL x true (by simp; omega) w
      by_cases g2 : 0 ≤ y ∧ y ≤ 255
      · have I2 : Hid (∀ w : World, Calls Tryd.prog 57 #[.int .i64 y] w fun e w' => e = .returned (.bool true) ∧ w = w') := fun w => isByte_anyL y true (by simp; omega) w
        have I3 : Hid (∀ w : World, Calls Tryd.prog 58 #[.int .i64 z] w fun e w' => e = .returned (.bool false) ∧ w = w') := fun w => isWord_anyL z false (by simp; omega) w
        clear g1 g2 h3 h1 ht
        go_enter Tryd.func20, Tryd.ntmps20
        go_wp2_with fail
        refine (I1.out _).mono ?_
        rintro e w1 ⟨rfl, rfl⟩
        go_wp2_with fail
        refine (I2.out _).mono ?_
        rintro e w1 ⟨rfl, rfl⟩
        go_wp2_with fail
        refine (I3.out _).mono ?_
        rintro e w1 ⟨rfl, rfl⟩
        go_wp2
        go_ret2
        exact ⟨rfl, Below.refl _ _⟩
      · have I2 : Hid (∀ w : World, Calls Tryd.prog 57 #[.int .i64 y] w fun e w' => e = .returned (.bool false) ∧ w = w') := fun w => isByte_anyL y false (by simp; omega) w
        clear g1 g2 h3 h1 ht
        go_enter Tryd.func20, Tryd.ntmps20
        go_wp2_with fail
        refine (I1.out _).mono ?_
        rintro e w1 ⟨rfl, rfl⟩
        go_wp2_with fail
        refine (I2.out _).mono ?_
        rintro e w1 ⟨rfl, rfl⟩
        go_wp2
        go_ret2
        exact ⟨rfl, Below.refl _ _⟩
    · have I1 : Hid (∀ w : World, Calls Tryd.prog 57 #[.int .i64 x] w fun e w' => e = .returned (.bool false) ∧ w = w') := fun w => isByte_anyL x false (by simp; omega) w
      clear g1 h3 h1 ht
      go_enter Tryd.func20, Tryd.ntmps20
      go_wp2_with fail
      refine (I1.out _).mono ?_
      rintro e w1 ⟨rfl, rfl⟩
      go_wp2
      go_ret2
      exact ⟨rfl, Below.refl _ _⟩
  · obtain ⟨x, rfl⟩ : ∃ q : Nat, x = (q : Int) := ⟨x.toNat, by omega⟩
    obtain ⟨y, rfl⟩ : ∃ q : Nat, y = (q : Int) := ⟨y.toNat, by omega⟩
    obtain ⟨z, rfl⟩ : ∃ q : Nat, z = (q : Int) := ⟨z.toNat, by omega⟩
    exact implLKey_ok K x y z h1 (by omega) (by omega) (by omega) w ht

set_option maxRecDepth 100000 in
set_option maxHeartbeats 20000000 in
theorem l07Key_any (K : ByteArray) (x y z : Nat) (h1 : K.size = 32) (hx : x ≤ 255) (hy : y ≤ 255) (hz : z ≤ 4294967295) (w : World) :
    Calls Tryd.prog 64 #[.string K, .int .i64 (x : Int), .int .i64 (y : Int), .int .i64 (z : Int)] w fun e w' => e = .returned (.string (lkey K x y z)) ∧ Below w.heap.size w w' := by
  have FO : Hid (∀ w : World, Calls Tryd.prog 103 #[.int .i64 (z : Int)] w fun e w' => (e = .returned (.slice (some ⟨w.heap.size, 0, none⟩) 4 4) ∧ Own8 w' w.heap.size 4 (fourF z)) ∧ Below w.heap.size w w') := fun w => (l02FourB_any z (by omega) w).mono fun e w' h => ⟨⟨h.1, h.2.1⟩, h.2.2⟩
  have HM : Hid (∀ (b c b2 c2 : Nat) (w : World), Code8 w (some ⟨b, 0, none⟩) 32 (strB K) → Code8 w (some ⟨b2, 0, none⟩) 10 (lkF x y z) → Calls Tryd.prog 102 #[.slice (some ⟨b, 0, none⟩) 32 c, .slice (some ⟨b2, 0, none⟩) 10 c2] w fun e w' => e = .returned (.string (lkey K x y z)) ∧ Below w.heap.size w w') := fun b c b2 c2 w h h' => l03Hmac_any b 0 32 c b2 0 10 c2 (strB K) _ (strB_lt K) (lkF_lt x y z (by omega) (by omega)) (by omega) (by omega) w h h'
  have cx : (x : Int) % 256 = (x : Int) := by omega
  have cy : (y : Int) % 256 = (y : Int) := by omega
  have wx : IntKind.u8.wrap (x : Int) = (x : Int) := by show (x : Int) % 256 = _; omega
  have wy : IntKind.u8.wrap (y : Int) = (y : Int) := by show (y : Int) % 256 = _; omega
  have ll := lit_link
  have z1 : (kstr linkX 0 4).size = 4 := kstr_size _ _ _
  have z2 : (kstr (prX x y) 0 2).size = 2 := kstr_size _ _ _
  have z4 : (kstr (fourF z) 0 4).size = 4 := kstr_size _ _ _
  have TX : Hid (kstr linkX 0 4 ++ kstr (prX x y) 0 2 ++ kstr (fourF z) 0 4 = kstr (lkF x y z) 0 10) := lk_text x y z
  have TB : Hid (∀ i, i < 10 → strB (kstr (lkF x y z) 0 10) i = lkF x y z i) := fun i hi => by rw [strB_kstr _ 0 10 i (by rw [Nat.zero_add]; exact lkF_lt x y z (by omega) (by omega) _) hi, Nat.zero_add]
  have TZ : Hid ((kstr (lkF x y z) 0 10).size = 10) := kstr_size _ _ _
  have HK : Hid (K.size = 32) := h1
  have PE : Hid (∀ w : World, Code8 (w.alloc (.cells #[.int .u8 (x : Int), .int .u8 (y : Int)] 5)) (some ⟨w.heap.size, 0, none⟩) 2 (prX x y)) := fun w => pair_code w x y
  generalize lkey K x y z = LK at *
  generalize kstr (lkF x y z) 0 10 = TT at *
  generalize lkF x y z = LF at *
  generalize hS1 : kstr linkX 0 4 = S1 at *
  generalize hS2 : kstr (prX x y) 0 2 = S2 at *
  generalize hS4 : kstr (fourF z) 0 4 = S4 at *
  have H2 : Hid (kstr (prX x y) 0 2 = S2) := hS2
  have H4 : Hid (kstr (fourF z) 0 4 = S4) := hS4
  clear h1 hx hy hz hS1 hS2 hS4
  go_enter Tryd.func64, Tryd.ntmps64
  go_upto_region 1 with fail
  have A1 : Hid (Below w.heap.size w w) := Below.refl _ _
  have T0 : Hid True := trivial
  replace A1 : Hid (Below w.heap.size w w.drew) := (Below.refl _ _).drew
  have H : True := trivial
  refine wp_region_noPanic ?_
  refine wp_region_held_drew (S := fun _ => True) (by kernel_rfl) H (fun _ => ?_)
  generalize w.drew = v1 at *
  refine wpAnyH_take (i := 0) (v := .string K) rfl (by kernel_rfl) (by kernel_rfl) (by kernel_rfl) (fun _ _ _ h => h) (Or.inl ⟨by rfl, ?_⟩) H ?_
  · intro w' hSw; go_simp
  change wpAnyH _ _ _ _ _ _ _ { tmps := #[_, _, _, _, _, _, _, _, _, _, _, _, _, _, _, _, _, _, _, _, _, _, _, _], defers := _ } _
  refine wpAnyH_take (i := 2) (v := .int .i64 (x : Int)) rfl (by kernel_rfl) (by kernel_rfl) (by kernel_rfl) (fun _ _ _ h => h) (Or.inl ⟨by rfl, ?_⟩) H ?_
  · intro w' hSw; go_simp
  change wpAnyH _ _ _ _ _ _ _ { tmps := #[_, _, _, _, _, _, _, _, _, _, _, _, _, _, _, _, _, _, _, _, _, _, _, _], defers := _ } _
  refine wpAnyH_take (i := 3) (v := .int .u8 (x : Int)) rfl (by kernel_rfl) (by kernel_rfl) (by kernel_rfl) (fun _ _ _ h => h) (Or.inl ⟨by rfl, ?_⟩) H ?_
  · intro w' hSw; go_simp
  change wpAnyH _ _ _ _ _ _ _ { tmps := #[_, _, _, _, _, _, _, _, _, _, _, _, _, _, _, _, _, _, _, _, _, _, _, _], defers := _ } _
  refine wpAnyH_take (i := 4) (v := .int .i64 (y : Int)) rfl (by kernel_rfl) (by kernel_rfl) (by kernel_rfl) (fun _ _ _ h => h) (Or.inl ⟨by rfl, ?_⟩) H ?_
  · intro w' hSw; go_simp
  change wpAnyH _ _ _ _ _ _ _ { tmps := #[_, _, _, _, _, _, _, _, _, _, _, _, _, _, _, _, _, _, _, _, _, _, _, _], defers := _ } _
  refine wpAnyH_take (i := 5) (v := .int .u8 (y : Int)) rfl (by kernel_rfl) (by kernel_rfl) (by kernel_rfl) (fun _ _ _ h => h) (Or.inl ⟨by rfl, ?_⟩) H ?_
  · intro w' hSw; go_simp
  change wpAnyH _ _ _ _ _ _ _ { tmps := #[_, _, _, _, _, _, _, _, _, _, _, _, _, _, _, _, _, _, _, _, _, _, _, _], defers := _ } _
  refine wpAnyH_take (i := 9) (v := .int .i64 (z : Int)) rfl (by kernel_rfl) (by kernel_rfl) (by kernel_rfl) (fun _ _ _ h => h) (Or.inl ⟨by rfl, ?_⟩) H ?_
  · intro w' hSw; go_simp
  change wpAnyH _ _ _ _ _ _ _ { tmps := #[_, _, _, _, _, _, _, _, _, _, _, _, _, _, _, _, _, _, _, _, _, _, _, _], defers := _ } _
  refine wpAnyH_ready (rs := [1, 6, 10]) (by kernel_rfl) (by simp) ?_
  refine (AllReadyH.cons rfl (fun KK hK => ?_) (AllReadyH.cons rfl (fun KK hK => ?_) (AllReadyH.cons rfl (fun KK hK => ?_) AllReadyH.nil)))
  · skip
    obtain ⟨v2, kc, hcv, hx, hb, hgc⟩ := bytesOfM K v1
    rw [HK.out] at hcv hx
    go_simp
    replace A1 : Hid (Below w.heap.size w v2) := A1.out.trans (hb.mono A1.out.size)
    replace H : True := trivial
    have CK : Hid (Code8 v2 (some ⟨v1.heap.size, 0, none⟩) 32 (strB K)) := hx
    obtain ⟨kb, hkb⟩ : ∃ x, x = v1.heap.size := ⟨_, rfl⟩
    rw [← hkb] at CK ⊢
    clear hcv hx hb hkb hgc
    refine hK.out _ _ H (fun _ => ?_)
    clear hK KK
    change wpAnyH _ _ _ _ _ _ _ { tmps := #[_, _, _, _, _, _, _, _, _, _, _, _, _, _, _, _, _, _, _, _, _, _, _, _], defers := _ } _
    refine wpAnyH_ready (rs := [6, 10]) (by kernel_rfl) (by simp) ?_
    refine (AllReadyH.cons rfl (fun KK hK => ?_) (AllReadyH.cons rfl (fun KK hK => ?_) AllReadyH.nil))
    · skip
      have hb : Below v2.heap.size v2 (v2.alloc (.cells #[.int .u8 (x : Int), .int .u8 (y : Int)] 5)) := (Below.refl _ _).alloc (Nat.le_refl _) _
      have CP : Hid (Code8 (v2.alloc (.cells #[.int .u8 (x : Int), .int .u8 (y : Int)] 5)) (some ⟨v2.heap.size, 0, none⟩) 2 (prX x y)) := PE.out _
      go_simp
      replace H : True := trivial
      generalize (v2.alloc (.cells #[.int .u8 (x : Int), .int .u8 (y : Int)] 5)) = v3 at *
      replace A1 : Hid (Below w.heap.size w v3) := A1.out.trans (hb.mono A1.out.size)
      replace CK : Hid (Code8 v3 (some ⟨kb, 0, none⟩) 32 (strB K)) := CK.out.below hb
      obtain ⟨pb, hpb⟩ : ∃ x, x = v2.heap.size := ⟨_, rfl⟩
      rw [← hpb] at CP ⊢
      clear hb hpb
      refine hK.out _ _ H (fun _ => ?_)
      clear hK KK
      change wpAnyH _ _ _ _ _ _ _ { tmps := #[_, _, _, _, _, _, _, _, _, _, _, _, _, _, _, _, _, _, _, _, _, _, _, _], defers := _ } _
      refine wpAnyH_strong (S' := fun w' => (Code8 w' (some ⟨pb, 0, none⟩) 2 (prX x y)) ∧ (True)) (fun _ h => h.2) _ _ _ _ ?_
      replace H : (Code8 v3 (some ⟨pb, 0, none⟩) 2 (prX x y)) ∧ (True) := ⟨CP.out, H⟩
      clear CP
      refine wpAnyH_take (i := 7) (v := .string S2) rfl (by kernel_rfl) (by kernel_rfl) (by kernel_rfl) (fun _ _ _ h => h) (Or.inl ⟨by rfl, ?_⟩) H ?_
      · intro w' hSw; have q0 := kstr_of_code (c := 2) hSw.1; rw [H2.out] at q0; clear hSw; go_simp
      change wpAnyH _ _ _ _ _ _ _ { tmps := #[_, _, _, _, _, _, _, _, _, _, _, _, _, _, _, _, _, _, _, _, _, _, _, _], defers := _ } _
      refine wpAnyH_take (i := 8) (v := .string (S1 ++ S2)) rfl (by kernel_rfl) (by kernel_rfl) (by kernel_rfl) (fun _ _ _ h => h) (Or.inl ⟨by rfl, ?_⟩) H ?_
      · intro w' hSw; go_simp
      change wpAnyH _ _ _ _ _ _ _ { tmps := #[_, _, _, _, _, _, _, _, _, _, _, _, _, _, _, _, _, _, _, _, _, _, _, _], defers := _ } _
      refine wpAnyH_ready (rs := [10]) (by kernel_rfl) (by simp) ?_
      refine (AllReadyH.cons rfl (fun KK hK => ?_) AllReadyH.nil)
      go_simp
      refine (FO.out _).mono ?_
      rintro e v4 ⟨⟨rfl, ho⟩, hb⟩
      replace A1 : Hid (Below w.heap.size w v4) := A1.out.trans (hb.mono A1.out.size)
      replace CK : Hid (Code8 v4 (some ⟨kb, 0, none⟩) 32 (strB K)) := CK.out.below hb
      replace H : (Code8 v4 (some ⟨pb, 0, none⟩) 2 (prX x y)) ∧ (True) := ⟨(H.1).below hb, trivial⟩
      have CF : Hid (Code8 v4 (some ⟨v3.heap.size, 0, none⟩) 4 (fourF z)) := ho.code
      obtain ⟨fb, hfb⟩ : ∃ x, x = v3.heap.size := ⟨_, rfl⟩
      rw [← hfb] at CF ⊢
      clear hb ho hfb
      refine hK.out _ _ H (fun _ => ?_)
      clear hK KK
      change wpAnyH _ _ _ _ _ _ _ { tmps := #[_, _, _, _, _, _, _, _, _, _, _, _, _, _, _, _, _, _, _, _, _, _, _, _], defers := _ } _
      refine wpAnyH_strong (S' := fun w' => (Code8 w' (some ⟨fb, 0, none⟩) 4 (fourF z)) ∧ (Code8 w' (some ⟨pb, 0, none⟩) 2 (prX x y)) ∧ (True)) (fun _ h => h.2) _ _ _ _ ?_
      replace H : (Code8 v4 (some ⟨fb, 0, none⟩) 4 (fourF z)) ∧ (Code8 v4 (some ⟨pb, 0, none⟩) 2 (prX x y)) ∧ (True) := ⟨CF.out, H⟩
      clear CF
      refine wpAnyH_take (i := 11) (v := .string S4) rfl (by kernel_rfl) (by kernel_rfl) (by kernel_rfl) (fun _ _ _ h => h) (Or.inl ⟨by rfl, ?_⟩) H ?_
      · intro w' hSw; have q0 := kstr_of_code (c := 4) hSw.1; rw [H4.out] at q0; clear hSw; go_simp
      change wpAnyH _ _ _ _ _ _ _ { tmps := #[_, _, _, _, _, _, _, _, _, _, _, _, _, _, _, _, _, _, _, _, _, _, _, _], defers := _ } _
      refine wpAnyH_take (i := 12) (v := .string TT) rfl (by kernel_rfl) (by kernel_rfl) (by kernel_rfl) (fun _ _ _ h => h) (Or.inl ⟨by rfl, ?_⟩) H ?_
      · intro w' hSw; have q1 := TX.out; clear hSw; go_simp
      change wpAnyH _ _ _ _ _ _ _ { tmps := #[_, _, _, _, _, _, _, _, _, _, _, _, _, _, _, _, _, _, _, _, _, _, _, _], defers := _ } _
      refine wpAnyH_ready (rs := [13]) (by kernel_rfl) (by simp) ?_
      refine (AllReadyH.cons rfl (fun KK hK => ?_) AllReadyH.nil)
      obtain ⟨v5, tc, hcv, hx, hb, hgc⟩ := bytesOfM TT v4
      rw [TZ.out] at hcv hx
      go_simp
      replace A1 : Hid (Below w.heap.size w v5) := A1.out.trans (hb.mono A1.out.size)
      replace CK : Hid (Code8 v5 (some ⟨kb, 0, none⟩) 32 (strB K)) := CK.out.below hb
      replace H : (Code8 v5 (some ⟨fb, 0, none⟩) 4 (fourF z)) ∧ (Code8 v5 (some ⟨pb, 0, none⟩) 2 (prX x y)) ∧ (True) := ⟨(H.1).below hb, (H.2.1).below hb, trivial⟩
      have CT : Hid (Code8 v5 (some ⟨v4.heap.size, 0, none⟩) 10 LF) := Code8.congr hx TB.out
      obtain ⟨tb, htb⟩ : ∃ x, x = v4.heap.size := ⟨_, rfl⟩
      rw [← htb] at CT ⊢
      clear hcv hx hb htb hgc
      refine hK.out _ _ H (fun _ => ?_)
      clear hK KK
      change wpAnyH _ _ _ _ _ _ _ { tmps := #[_, _, _, _, _, _, _, _, _, _, _, _, _, _, _, _, _, _, _, _, _, _, _, _], defers := _ } _
      refine wpAnyH_ready (rs := [14]) (by kernel_rfl) (by simp) ?_
      refine (AllReadyH.cons rfl (fun KK hK => ?_) AllReadyH.nil)
      go_simp
      refine (HM.out kb _ tb _ _ CK.out CT.out).mono ?_
      rintro e v6 ⟨rfl, hb⟩
      replace A1 : Hid (Below w.heap.size w v6) := A1.out.trans (hb.mono A1.out.size)
      replace CK : Hid (Code8 v6 (some ⟨kb, 0, none⟩) 32 (strB K)) := CK.out.below hb
      replace CT : Hid (Code8 v6 (some ⟨tb, 0, none⟩) 10 LF) := CT.out.below hb
      replace H : (Code8 v6 (some ⟨fb, 0, none⟩) 4 (fourF z)) ∧ (Code8 v6 (some ⟨pb, 0, none⟩) 2 (prX x y)) ∧ (True) := ⟨(H.1).below hb, (H.2.1).below hb, trivial⟩
      clear hb
      refine hK.out _ _ H (fun _ => ?_)
      clear hK KK
      change wpAnyH _ _ _ _ _ _ _ { tmps := #[_, _, _, _, _, _, _, _, _, _, _, _, _, _, _, _, _, _, _, _, _, _, _, _], defers := _ } _
      refine wpAnyH_take (i := 15) (v := .string LK) rfl (by kernel_rfl) (by kernel_rfl) (by kernel_rfl) (fun _ _ _ h => h) (Or.inl ⟨by rfl, ?_⟩) H ?_
      · intro w' hSw; go_simp
      change wpAnyH _ _ _ _ _ _ _ { tmps := #[_, _, _, _, _, _, _, _, _, _, _, _, _, _, _, _, _, _, _, _, _, _, _, _], defers := _ } _
      refine wpAnyH_done (by kernel_rfl) ?_ _
      refine NoPanic.normal ?_
      clear H CK CT HM FO PE TX TB TZ HK H2 H4 ll
      go_wp2
      go_ret
      exact ⟨rfl, A1.out⟩
    · skip
      go_simp
      refine (FO.out _).mono ?_
      rintro e v7 ⟨⟨rfl, ho⟩, hb⟩
      replace A1 : Hid (Below w.heap.size w v7) := A1.out.trans (hb.mono A1.out.size)
      replace CK : Hid (Code8 v7 (some ⟨kb, 0, none⟩) 32 (strB K)) := CK.out.below hb
      replace H : True := trivial
      have CF : Hid (Code8 v7 (some ⟨v2.heap.size, 0, none⟩) 4 (fourF z)) := ho.code
      obtain ⟨fb, hfb⟩ : ∃ x, x = v2.heap.size := ⟨_, rfl⟩
      rw [← hfb] at CF ⊢
      clear hb ho hfb
      refine hK.out _ _ H (fun _ => ?_)
      clear hK KK
      change wpAnyH _ _ _ _ _ _ _ { tmps := #[_, _, _, _, _, _, _, _, _, _, _, _, _, _, _, _, _, _, _, _, _, _, _, _], defers := _ } _
      refine wpAnyH_strong (S' := fun w' => (Code8 w' (some ⟨fb, 0, none⟩) 4 (fourF z)) ∧ (True)) (fun _ h => h.2) _ _ _ _ ?_
      replace H : (Code8 v7 (some ⟨fb, 0, none⟩) 4 (fourF z)) ∧ (True) := ⟨CF.out, H⟩
      clear CF
      refine wpAnyH_take (i := 11) (v := .string S4) rfl (by kernel_rfl) (by kernel_rfl) (by kernel_rfl) (fun _ _ _ h => h) (Or.inl ⟨by rfl, ?_⟩) H ?_
      · intro w' hSw; have q0 := kstr_of_code (c := 4) hSw.1; rw [H4.out] at q0; clear hSw; go_simp
      change wpAnyH _ _ _ _ _ _ _ { tmps := #[_, _, _, _, _, _, _, _, _, _, _, _, _, _, _, _, _, _, _, _, _, _, _, _], defers := _ } _
      refine wpAnyH_ready (rs := [6]) (by kernel_rfl) (by simp) ?_
      refine (AllReadyH.cons rfl (fun KK hK => ?_) AllReadyH.nil)
      have hb : Below v7.heap.size v7 (v7.alloc (.cells #[.int .u8 (x : Int), .int .u8 (y : Int)] 5)) := (Below.refl _ _).alloc (Nat.le_refl _) _
      have CP : Hid (Code8 (v7.alloc (.cells #[.int .u8 (x : Int), .int .u8 (y : Int)] 5)) (some ⟨v7.heap.size, 0, none⟩) 2 (prX x y)) := PE.out _
      go_simp
      replace H : (Code8 (v7.alloc (.cells #[.int .u8 (x : Int), .int .u8 (y : Int)] 5)) (some ⟨fb, 0, none⟩) 4 (fourF z)) ∧ (True) := ⟨(H.1).below hb, trivial⟩
      generalize (v7.alloc (.cells #[.int .u8 (x : Int), .int .u8 (y : Int)] 5)) = v8 at *
      replace A1 : Hid (Below w.heap.size w v8) := A1.out.trans (hb.mono A1.out.size)
      replace CK : Hid (Code8 v8 (some ⟨kb, 0, none⟩) 32 (strB K)) := CK.out.below hb
      obtain ⟨pb, hpb⟩ : ∃ x, x = v7.heap.size := ⟨_, rfl⟩
      rw [← hpb] at CP ⊢
      clear hb hpb
      refine hK.out _ _ H (fun _ => ?_)
      clear hK KK
      change wpAnyH _ _ _ _ _ _ _ { tmps := #[_, _, _, _, _, _, _, _, _, _, _, _, _, _, _, _, _, _, _, _, _, _, _, _], defers := _ } _
      refine wpAnyH_strong (S' := fun w' => (Code8 w' (some ⟨pb, 0, none⟩) 2 (prX x y)) ∧ (Code8 w' (some ⟨fb, 0, none⟩) 4 (fourF z)) ∧ (True)) (fun _ h => h.2) _ _ _ _ ?_
      replace H : (Code8 v8 (some ⟨pb, 0, none⟩) 2 (prX x y)) ∧ (Code8 v8 (some ⟨fb, 0, none⟩) 4 (fourF z)) ∧ (True) := ⟨CP.out, H⟩
      clear CP
      refine wpAnyH_take (i := 7) (v := .string S2) rfl (by kernel_rfl) (by kernel_rfl) (by kernel_rfl) (fun _ _ _ h => h) (Or.inl ⟨by rfl, ?_⟩) H ?_
      · intro w' hSw; have q0 := kstr_of_code (c := 2) hSw.1; rw [H2.out] at q0; clear hSw; go_simp
      change wpAnyH _ _ _ _ _ _ _ { tmps := #[_, _, _, _, _, _, _, _, _, _, _, _, _, _, _, _, _, _, _, _, _, _, _, _], defers := _ } _
      refine wpAnyH_take (i := 8) (v := .string (S1 ++ S2)) rfl (by kernel_rfl) (by kernel_rfl) (by kernel_rfl) (fun _ _ _ h => h) (Or.inl ⟨by rfl, ?_⟩) H ?_
      · intro w' hSw; go_simp
      change wpAnyH _ _ _ _ _ _ _ { tmps := #[_, _, _, _, _, _, _, _, _, _, _, _, _, _, _, _, _, _, _, _, _, _, _, _], defers := _ } _
      refine wpAnyH_take (i := 12) (v := .string TT) rfl (by kernel_rfl) (by kernel_rfl) (by kernel_rfl) (fun _ _ _ h => h) (Or.inl ⟨by rfl, ?_⟩) H ?_
      · intro w' hSw; have q1 := TX.out; clear hSw; go_simp
      change wpAnyH _ _ _ _ _ _ _ { tmps := #[_, _, _, _, _, _, _, _, _, _, _, _, _, _, _, _, _, _, _, _, _, _, _, _], defers := _ } _
      refine wpAnyH_ready (rs := [13]) (by kernel_rfl) (by simp) ?_
      refine (AllReadyH.cons rfl (fun KK hK => ?_) AllReadyH.nil)
      obtain ⟨v9, tc, hcv, hx, hb, hgc⟩ := bytesOfM TT v8
      rw [TZ.out] at hcv hx
      go_simp
      replace A1 : Hid (Below w.heap.size w v9) := A1.out.trans (hb.mono A1.out.size)
      replace CK : Hid (Code8 v9 (some ⟨kb, 0, none⟩) 32 (strB K)) := CK.out.below hb
      replace H : (Code8 v9 (some ⟨pb, 0, none⟩) 2 (prX x y)) ∧ (Code8 v9 (some ⟨fb, 0, none⟩) 4 (fourF z)) ∧ (True) := ⟨(H.1).below hb, (H.2.1).below hb, trivial⟩
      have CT : Hid (Code8 v9 (some ⟨v8.heap.size, 0, none⟩) 10 LF) := Code8.congr hx TB.out
      obtain ⟨tb, htb⟩ : ∃ x, x = v8.heap.size := ⟨_, rfl⟩
      rw [← htb] at CT ⊢
      clear hcv hx hb htb hgc
      refine hK.out _ _ H (fun _ => ?_)
      clear hK KK
      change wpAnyH _ _ _ _ _ _ _ { tmps := #[_, _, _, _, _, _, _, _, _, _, _, _, _, _, _, _, _, _, _, _, _, _, _, _], defers := _ } _
      refine wpAnyH_ready (rs := [14]) (by kernel_rfl) (by simp) ?_
      refine (AllReadyH.cons rfl (fun KK hK => ?_) AllReadyH.nil)
      go_simp
      refine (HM.out kb _ tb _ _ CK.out CT.out).mono ?_
      rintro e v10 ⟨rfl, hb⟩
      replace A1 : Hid (Below w.heap.size w v10) := A1.out.trans (hb.mono A1.out.size)
      replace CK : Hid (Code8 v10 (some ⟨kb, 0, none⟩) 32 (strB K)) := CK.out.below hb
      replace CT : Hid (Code8 v10 (some ⟨tb, 0, none⟩) 10 LF) := CT.out.below hb
      replace H : (Code8 v10 (some ⟨pb, 0, none⟩) 2 (prX x y)) ∧ (Code8 v10 (some ⟨fb, 0, none⟩) 4 (fourF z)) ∧ (True) := ⟨(H.1).below hb, (H.2.1).below hb, trivial⟩
      clear hb
      refine hK.out _ _ H (fun _ => ?_)
      clear hK KK
      change wpAnyH _ _ _ _ _ _ _ { tmps := #[_, _, _, _, _, _, _, _, _, _, _, _, _, _, _, _, _, _, _, _, _, _, _, _], defers := _ } _
      refine wpAnyH_take (i := 15) (v := .string LK) rfl (by kernel_rfl) (by kernel_rfl) (by kernel_rfl) (fun _ _ _ h => h) (Or.inl ⟨by rfl, ?_⟩) H ?_
      · intro w' hSw; go_simp
      change wpAnyH _ _ _ _ _ _ _ { tmps := #[_, _, _, _, _, _, _, _, _, _, _, _, _, _, _, _, _, _, _, _, _, _, _, _], defers := _ } _
      refine wpAnyH_done (by kernel_rfl) ?_ _
      refine NoPanic.normal ?_
      clear H CK CT HM FO PE TX TB TZ HK H2 H4 ll
      go_wp2
      go_ret
      exact ⟨rfl, A1.out⟩
  · skip
    have hb : Below v1.heap.size v1 (v1.alloc (.cells #[.int .u8 (x : Int), .int .u8 (y : Int)] 5)) := (Below.refl _ _).alloc (Nat.le_refl _) _
    have CP : Hid (Code8 (v1.alloc (.cells #[.int .u8 (x : Int), .int .u8 (y : Int)] 5)) (some ⟨v1.heap.size, 0, none⟩) 2 (prX x y)) := PE.out _
    go_simp
    replace H : True := trivial
    generalize (v1.alloc (.cells #[.int .u8 (x : Int), .int .u8 (y : Int)] 5)) = v11 at *
    replace A1 : Hid (Below w.heap.size w v11) := A1.out.trans (hb.mono A1.out.size)
    obtain ⟨pb, hpb⟩ : ∃ x, x = v1.heap.size := ⟨_, rfl⟩
    rw [← hpb] at CP ⊢
    clear hb hpb
    refine hK.out _ _ H (fun _ => ?_)
    clear hK KK
    change wpAnyH _ _ _ _ _ _ _ { tmps := #[_, _, _, _, _, _, _, _, _, _, _, _, _, _, _, _, _, _, _, _, _, _, _, _], defers := _ } _
    refine wpAnyH_strong (S' := fun w' => (Code8 w' (some ⟨pb, 0, none⟩) 2 (prX x y)) ∧ (True)) (fun _ h => h.2) _ _ _ _ ?_
    replace H : (Code8 v11 (some ⟨pb, 0, none⟩) 2 (prX x y)) ∧ (True) := ⟨CP.out, H⟩
    clear CP
    refine wpAnyH_take (i := 7) (v := .string S2) rfl (by kernel_rfl) (by kernel_rfl) (by kernel_rfl) (fun _ _ _ h => h) (Or.inl ⟨by rfl, ?_⟩) H ?_
    · intro w' hSw; have q0 := kstr_of_code (c := 2) hSw.1; rw [H2.out] at q0; clear hSw; go_simp
    change wpAnyH _ _ _ _ _ _ _ { tmps := #[_, _, _, _, _, _, _, _, _, _, _, _, _, _, _, _, _, _, _, _, _, _, _, _], defers := _ } _
    refine wpAnyH_take (i := 8) (v := .string (S1 ++ S2)) rfl (by kernel_rfl) (by kernel_rfl) (by kernel_rfl) (fun _ _ _ h => h) (Or.inl ⟨by rfl, ?_⟩) H ?_
    · intro w' hSw; go_simp
    change wpAnyH _ _ _ _ _ _ _ { tmps := #[_, _, _, _, _, _, _, _, _, _, _, _, _, _, _, _, _, _, _, _, _, _, _, _], defers := _ } _
    refine wpAnyH_ready (rs := [1, 10]) (by kernel_rfl) (by simp) ?_
    refine (AllReadyH.cons rfl (fun KK hK => ?_) (AllReadyH.cons rfl (fun KK hK => ?_) AllReadyH.nil))
    · skip
      obtain ⟨v12, kc, hcv, hx, hb, hgc⟩ := bytesOfM K v11
      rw [HK.out] at hcv hx
      go_simp
      replace A1 : Hid (Below w.heap.size w v12) := A1.out.trans (hb.mono A1.out.size)
      replace H : (Code8 v12 (some ⟨pb, 0, none⟩) 2 (prX x y)) ∧ (True) := ⟨(H.1).below hb, trivial⟩
      have CK : Hid (Code8 v12 (some ⟨v11.heap.size, 0, none⟩) 32 (strB K)) := hx
      obtain ⟨kb, hkb⟩ : ∃ x, x = v11.heap.size := ⟨_, rfl⟩
      rw [← hkb] at CK ⊢
      clear hcv hx hb hkb hgc
      refine hK.out _ _ H (fun _ => ?_)
      clear hK KK
      change wpAnyH _ _ _ _ _ _ _ { tmps := #[_, _, _, _, _, _, _, _, _, _, _, _, _, _, _, _, _, _, _, _, _, _, _, _], defers := _ } _
      refine wpAnyH_ready (rs := [10]) (by kernel_rfl) (by simp) ?_
      refine (AllReadyH.cons rfl (fun KK hK => ?_) AllReadyH.nil)
      go_simp
      refine (FO.out _).mono ?_
      rintro e v13 ⟨⟨rfl, ho⟩, hb⟩
      replace A1 : Hid (Below w.heap.size w v13) := A1.out.trans (hb.mono A1.out.size)
      replace CK : Hid (Code8 v13 (some ⟨kb, 0, none⟩) 32 (strB K)) := CK.out.below hb
      replace H : (Code8 v13 (some ⟨pb, 0, none⟩) 2 (prX x y)) ∧ (True) := ⟨(H.1).below hb, trivial⟩
      have CF : Hid (Code8 v13 (some ⟨v12.heap.size, 0, none⟩) 4 (fourF z)) := ho.code
      obtain ⟨fb, hfb⟩ : ∃ x, x = v12.heap.size := ⟨_, rfl⟩
      rw [← hfb] at CF ⊢
      clear hb ho hfb
      refine hK.out _ _ H (fun _ => ?_)
      clear hK KK
      change wpAnyH _ _ _ _ _ _ _ { tmps := #[_, _, _, _, _, _, _, _, _, _, _, _, _, _, _, _, _, _, _, _, _, _, _, _], defers := _ } _
      refine wpAnyH_strong (S' := fun w' => (Code8 w' (some ⟨fb, 0, none⟩) 4 (fourF z)) ∧ (Code8 w' (some ⟨pb, 0, none⟩) 2 (prX x y)) ∧ (True)) (fun _ h => h.2) _ _ _ _ ?_
      replace H : (Code8 v13 (some ⟨fb, 0, none⟩) 4 (fourF z)) ∧ (Code8 v13 (some ⟨pb, 0, none⟩) 2 (prX x y)) ∧ (True) := ⟨CF.out, H⟩
      clear CF
      refine wpAnyH_take (i := 11) (v := .string S4) rfl (by kernel_rfl) (by kernel_rfl) (by kernel_rfl) (fun _ _ _ h => h) (Or.inl ⟨by rfl, ?_⟩) H ?_
      · intro w' hSw; have q0 := kstr_of_code (c := 4) hSw.1; rw [H4.out] at q0; clear hSw; go_simp
      change wpAnyH _ _ _ _ _ _ _ { tmps := #[_, _, _, _, _, _, _, _, _, _, _, _, _, _, _, _, _, _, _, _, _, _, _, _], defers := _ } _
      refine wpAnyH_take (i := 12) (v := .string TT) rfl (by kernel_rfl) (by kernel_rfl) (by kernel_rfl) (fun _ _ _ h => h) (Or.inl ⟨by rfl, ?_⟩) H ?_
      · intro w' hSw; have q1 := TX.out; clear hSw; go_simp
      change wpAnyH _ _ _ _ _ _ _ { tmps := #[_, _, _, _, _, _, _, _, _, _, _, _, _, _, _, _, _, _, _, _, _, _, _, _], defers := _ } _
      refine wpAnyH_ready (rs := [13]) (by kernel_rfl) (by simp) ?_
      refine (AllReadyH.cons rfl (fun KK hK => ?_) AllReadyH.nil)
      obtain ⟨v14, tc, hcv, hx, hb, hgc⟩ := bytesOfM TT v13
      rw [TZ.out] at hcv hx
      go_simp
      replace A1 : Hid (Below w.heap.size w v14) := A1.out.trans (hb.mono A1.out.size)
      replace CK : Hid (Code8 v14 (some ⟨kb, 0, none⟩) 32 (strB K)) := CK.out.below hb
      replace H : (Code8 v14 (some ⟨fb, 0, none⟩) 4 (fourF z)) ∧ (Code8 v14 (some ⟨pb, 0, none⟩) 2 (prX x y)) ∧ (True) := ⟨(H.1).below hb, (H.2.1).below hb, trivial⟩
      have CT : Hid (Code8 v14 (some ⟨v13.heap.size, 0, none⟩) 10 LF) := Code8.congr hx TB.out
      obtain ⟨tb, htb⟩ : ∃ x, x = v13.heap.size := ⟨_, rfl⟩
      rw [← htb] at CT ⊢
      clear hcv hx hb htb hgc
      refine hK.out _ _ H (fun _ => ?_)
      clear hK KK
      change wpAnyH _ _ _ _ _ _ _ { tmps := #[_, _, _, _, _, _, _, _, _, _, _, _, _, _, _, _, _, _, _, _, _, _, _, _], defers := _ } _
      refine wpAnyH_ready (rs := [14]) (by kernel_rfl) (by simp) ?_
      refine (AllReadyH.cons rfl (fun KK hK => ?_) AllReadyH.nil)
      go_simp
      refine (HM.out kb _ tb _ _ CK.out CT.out).mono ?_
      rintro e v15 ⟨rfl, hb⟩
      replace A1 : Hid (Below w.heap.size w v15) := A1.out.trans (hb.mono A1.out.size)
      replace CK : Hid (Code8 v15 (some ⟨kb, 0, none⟩) 32 (strB K)) := CK.out.below hb
      replace CT : Hid (Code8 v15 (some ⟨tb, 0, none⟩) 10 LF) := CT.out.below hb
      replace H : (Code8 v15 (some ⟨fb, 0, none⟩) 4 (fourF z)) ∧ (Code8 v15 (some ⟨pb, 0, none⟩) 2 (prX x y)) ∧ (True) := ⟨(H.1).below hb, (H.2.1).below hb, trivial⟩
      clear hb
      refine hK.out _ _ H (fun _ => ?_)
      clear hK KK
      change wpAnyH _ _ _ _ _ _ _ { tmps := #[_, _, _, _, _, _, _, _, _, _, _, _, _, _, _, _, _, _, _, _, _, _, _, _], defers := _ } _
      refine wpAnyH_take (i := 15) (v := .string LK) rfl (by kernel_rfl) (by kernel_rfl) (by kernel_rfl) (fun _ _ _ h => h) (Or.inl ⟨by rfl, ?_⟩) H ?_
      · intro w' hSw; go_simp
      change wpAnyH _ _ _ _ _ _ _ { tmps := #[_, _, _, _, _, _, _, _, _, _, _, _, _, _, _, _, _, _, _, _, _, _, _, _], defers := _ } _
      refine wpAnyH_done (by kernel_rfl) ?_ _
      refine NoPanic.normal ?_
      clear H CK CT HM FO PE TX TB TZ HK H2 H4 ll
      go_wp2
      go_ret
      exact ⟨rfl, A1.out⟩
    · skip
      go_simp
      refine (FO.out _).mono ?_
      rintro e v16 ⟨⟨rfl, ho⟩, hb⟩
      replace A1 : Hid (Below w.heap.size w v16) := A1.out.trans (hb.mono A1.out.size)
      replace H : (Code8 v16 (some ⟨pb, 0, none⟩) 2 (prX x y)) ∧ (True) := ⟨(H.1).below hb, trivial⟩
      have CF : Hid (Code8 v16 (some ⟨v11.heap.size, 0, none⟩) 4 (fourF z)) := ho.code
      obtain ⟨fb, hfb⟩ : ∃ x, x = v11.heap.size := ⟨_, rfl⟩
      rw [← hfb] at CF ⊢
      clear hb ho hfb
      refine hK.out _ _ H (fun _ => ?_)
      clear hK KK
      change wpAnyH _ _ _ _ _ _ _ { tmps := #[_, _, _, _, _, _, _, _, _, _, _, _, _, _, _, _, _, _, _, _, _, _, _, _], defers := _ } _
      refine wpAnyH_strong (S' := fun w' => (Code8 w' (some ⟨fb, 0, none⟩) 4 (fourF z)) ∧ (Code8 w' (some ⟨pb, 0, none⟩) 2 (prX x y)) ∧ (True)) (fun _ h => h.2) _ _ _ _ ?_
      replace H : (Code8 v16 (some ⟨fb, 0, none⟩) 4 (fourF z)) ∧ (Code8 v16 (some ⟨pb, 0, none⟩) 2 (prX x y)) ∧ (True) := ⟨CF.out, H⟩
      clear CF
      refine wpAnyH_take (i := 11) (v := .string S4) rfl (by kernel_rfl) (by kernel_rfl) (by kernel_rfl) (fun _ _ _ h => h) (Or.inl ⟨by rfl, ?_⟩) H ?_
      · intro w' hSw; have q0 := kstr_of_code (c := 4) hSw.1; rw [H4.out] at q0; clear hSw; go_simp
      change wpAnyH _ _ _ _ _ _ _ { tmps := #[_, _, _, _, _, _, _, _, _, _, _, _, _, _, _, _, _, _, _, _, _, _, _, _], defers := _ } _
      refine wpAnyH_take (i := 12) (v := .string TT) rfl (by kernel_rfl) (by kernel_rfl) (by kernel_rfl) (fun _ _ _ h => h) (Or.inl ⟨by rfl, ?_⟩) H ?_
      · intro w' hSw; have q1 := TX.out; clear hSw; go_simp
      change wpAnyH _ _ _ _ _ _ _ { tmps := #[_, _, _, _, _, _, _, _, _, _, _, _, _, _, _, _, _, _, _, _, _, _, _, _], defers := _ } _
      refine wpAnyH_ready (rs := [1, 13]) (by kernel_rfl) (by simp) ?_
      refine (AllReadyH.cons rfl (fun KK hK => ?_) (AllReadyH.cons rfl (fun KK hK => ?_) AllReadyH.nil))
      · skip
        obtain ⟨v17, kc, hcv, hx, hb, hgc⟩ := bytesOfM K v16
        rw [HK.out] at hcv hx
        go_simp
        replace A1 : Hid (Below w.heap.size w v17) := A1.out.trans (hb.mono A1.out.size)
        replace H : (Code8 v17 (some ⟨fb, 0, none⟩) 4 (fourF z)) ∧ (Code8 v17 (some ⟨pb, 0, none⟩) 2 (prX x y)) ∧ (True) := ⟨(H.1).below hb, (H.2.1).below hb, trivial⟩
        have CK : Hid (Code8 v17 (some ⟨v16.heap.size, 0, none⟩) 32 (strB K)) := hx
        obtain ⟨kb, hkb⟩ : ∃ x, x = v16.heap.size := ⟨_, rfl⟩
        rw [← hkb] at CK ⊢
        clear hcv hx hb hkb hgc
        refine hK.out _ _ H (fun _ => ?_)
        clear hK KK
        change wpAnyH _ _ _ _ _ _ _ { tmps := #[_, _, _, _, _, _, _, _, _, _, _, _, _, _, _, _, _, _, _, _, _, _, _, _], defers := _ } _
        refine wpAnyH_ready (rs := [13]) (by kernel_rfl) (by simp) ?_
        refine (AllReadyH.cons rfl (fun KK hK => ?_) AllReadyH.nil)
        obtain ⟨v18, tc, hcv, hx, hb, hgc⟩ := bytesOfM TT v17
        rw [TZ.out] at hcv hx
        go_simp
        replace A1 : Hid (Below w.heap.size w v18) := A1.out.trans (hb.mono A1.out.size)
        replace CK : Hid (Code8 v18 (some ⟨kb, 0, none⟩) 32 (strB K)) := CK.out.below hb
        replace H : (Code8 v18 (some ⟨fb, 0, none⟩) 4 (fourF z)) ∧ (Code8 v18 (some ⟨pb, 0, none⟩) 2 (prX x y)) ∧ (True) := ⟨(H.1).below hb, (H.2.1).below hb, trivial⟩
        have CT : Hid (Code8 v18 (some ⟨v17.heap.size, 0, none⟩) 10 LF) := Code8.congr hx TB.out
        obtain ⟨tb, htb⟩ : ∃ x, x = v17.heap.size := ⟨_, rfl⟩
        rw [← htb] at CT ⊢
        clear hcv hx hb htb hgc
        refine hK.out _ _ H (fun _ => ?_)
        clear hK KK
        change wpAnyH _ _ _ _ _ _ _ { tmps := #[_, _, _, _, _, _, _, _, _, _, _, _, _, _, _, _, _, _, _, _, _, _, _, _], defers := _ } _
        refine wpAnyH_ready (rs := [14]) (by kernel_rfl) (by simp) ?_
        refine (AllReadyH.cons rfl (fun KK hK => ?_) AllReadyH.nil)
        go_simp
        refine (HM.out kb _ tb _ _ CK.out CT.out).mono ?_
        rintro e v19 ⟨rfl, hb⟩
        replace A1 : Hid (Below w.heap.size w v19) := A1.out.trans (hb.mono A1.out.size)
        replace CK : Hid (Code8 v19 (some ⟨kb, 0, none⟩) 32 (strB K)) := CK.out.below hb
        replace CT : Hid (Code8 v19 (some ⟨tb, 0, none⟩) 10 LF) := CT.out.below hb
        replace H : (Code8 v19 (some ⟨fb, 0, none⟩) 4 (fourF z)) ∧ (Code8 v19 (some ⟨pb, 0, none⟩) 2 (prX x y)) ∧ (True) := ⟨(H.1).below hb, (H.2.1).below hb, trivial⟩
        clear hb
        refine hK.out _ _ H (fun _ => ?_)
        clear hK KK
        change wpAnyH _ _ _ _ _ _ _ { tmps := #[_, _, _, _, _, _, _, _, _, _, _, _, _, _, _, _, _, _, _, _, _, _, _, _], defers := _ } _
        refine wpAnyH_take (i := 15) (v := .string LK) rfl (by kernel_rfl) (by kernel_rfl) (by kernel_rfl) (fun _ _ _ h => h) (Or.inl ⟨by rfl, ?_⟩) H ?_
        · intro w' hSw; go_simp
        change wpAnyH _ _ _ _ _ _ _ { tmps := #[_, _, _, _, _, _, _, _, _, _, _, _, _, _, _, _, _, _, _, _, _, _, _, _], defers := _ } _
        refine wpAnyH_done (by kernel_rfl) ?_ _
        refine NoPanic.normal ?_
        clear H CK CT HM FO PE TX TB TZ HK H2 H4 ll
        go_wp2
        go_ret
        exact ⟨rfl, A1.out⟩
      · skip
        obtain ⟨v20, tc, hcv, hx, hb, hgc⟩ := bytesOfM TT v16
        rw [TZ.out] at hcv hx
        go_simp
        replace A1 : Hid (Below w.heap.size w v20) := A1.out.trans (hb.mono A1.out.size)
        replace H : (Code8 v20 (some ⟨fb, 0, none⟩) 4 (fourF z)) ∧ (Code8 v20 (some ⟨pb, 0, none⟩) 2 (prX x y)) ∧ (True) := ⟨(H.1).below hb, (H.2.1).below hb, trivial⟩
        have CT : Hid (Code8 v20 (some ⟨v16.heap.size, 0, none⟩) 10 LF) := Code8.congr hx TB.out
        obtain ⟨tb, htb⟩ : ∃ x, x = v16.heap.size := ⟨_, rfl⟩
        rw [← htb] at CT ⊢
        clear hcv hx hb htb hgc
        refine hK.out _ _ H (fun _ => ?_)
        clear hK KK
        change wpAnyH _ _ _ _ _ _ _ { tmps := #[_, _, _, _, _, _, _, _, _, _, _, _, _, _, _, _, _, _, _, _, _, _, _, _], defers := _ } _
        refine wpAnyH_ready (rs := [1]) (by kernel_rfl) (by simp) ?_
        refine (AllReadyH.cons rfl (fun KK hK => ?_) AllReadyH.nil)
        obtain ⟨v21, kc, hcv, hx, hb, hgc⟩ := bytesOfM K v20
        rw [HK.out] at hcv hx
        go_simp
        replace A1 : Hid (Below w.heap.size w v21) := A1.out.trans (hb.mono A1.out.size)
        replace CT : Hid (Code8 v21 (some ⟨tb, 0, none⟩) 10 LF) := CT.out.below hb
        replace H : (Code8 v21 (some ⟨fb, 0, none⟩) 4 (fourF z)) ∧ (Code8 v21 (some ⟨pb, 0, none⟩) 2 (prX x y)) ∧ (True) := ⟨(H.1).below hb, (H.2.1).below hb, trivial⟩
        have CK : Hid (Code8 v21 (some ⟨v20.heap.size, 0, none⟩) 32 (strB K)) := hx
        obtain ⟨kb, hkb⟩ : ∃ x, x = v20.heap.size := ⟨_, rfl⟩
        rw [← hkb] at CK ⊢
        clear hcv hx hb hkb hgc
        refine hK.out _ _ H (fun _ => ?_)
        clear hK KK
        change wpAnyH _ _ _ _ _ _ _ { tmps := #[_, _, _, _, _, _, _, _, _, _, _, _, _, _, _, _, _, _, _, _, _, _, _, _], defers := _ } _
        refine wpAnyH_ready (rs := [14]) (by kernel_rfl) (by simp) ?_
        refine (AllReadyH.cons rfl (fun KK hK => ?_) AllReadyH.nil)
        go_simp
        refine (HM.out kb _ tb _ _ CK.out CT.out).mono ?_
        rintro e v22 ⟨rfl, hb⟩
        replace A1 : Hid (Below w.heap.size w v22) := A1.out.trans (hb.mono A1.out.size)
        replace CT : Hid (Code8 v22 (some ⟨tb, 0, none⟩) 10 LF) := CT.out.below hb
        replace CK : Hid (Code8 v22 (some ⟨kb, 0, none⟩) 32 (strB K)) := CK.out.below hb
        replace H : (Code8 v22 (some ⟨fb, 0, none⟩) 4 (fourF z)) ∧ (Code8 v22 (some ⟨pb, 0, none⟩) 2 (prX x y)) ∧ (True) := ⟨(H.1).below hb, (H.2.1).below hb, trivial⟩
        clear hb
        refine hK.out _ _ H (fun _ => ?_)
        clear hK KK
        change wpAnyH _ _ _ _ _ _ _ { tmps := #[_, _, _, _, _, _, _, _, _, _, _, _, _, _, _, _, _, _, _, _, _, _, _, _], defers := _ } _
        refine wpAnyH_take (i := 15) (v := .string LK) rfl (by kernel_rfl) (by kernel_rfl) (by kernel_rfl) (fun _ _ _ h => h) (Or.inl ⟨by rfl, ?_⟩) H ?_
        · intro w' hSw; go_simp
        change wpAnyH _ _ _ _ _ _ _ { tmps := #[_, _, _, _, _, _, _, _, _, _, _, _, _, _, _, _, _, _, _, _, _, _, _, _], defers := _ } _
        refine wpAnyH_done (by kernel_rfl) ?_ _
        refine NoPanic.normal ?_
        clear H CK CT HM FO PE TX TB TZ HK H2 H4 ll
        go_wp2
        go_ret
        exact ⟨rfl, A1.out⟩
  · skip
    go_simp
    refine (FO.out _).mono ?_
    rintro e v23 ⟨⟨rfl, ho⟩, hb⟩
    replace A1 : Hid (Below w.heap.size w v23) := A1.out.trans (hb.mono A1.out.size)
    replace H : True := trivial
    have CF : Hid (Code8 v23 (some ⟨v1.heap.size, 0, none⟩) 4 (fourF z)) := ho.code
    obtain ⟨fb, hfb⟩ : ∃ x, x = v1.heap.size := ⟨_, rfl⟩
    rw [← hfb] at CF ⊢
    clear hb ho hfb
    refine hK.out _ _ H (fun _ => ?_)
    clear hK KK
    change wpAnyH _ _ _ _ _ _ _ { tmps := #[_, _, _, _, _, _, _, _, _, _, _, _, _, _, _, _, _, _, _, _, _, _, _, _], defers := _ } _
    refine wpAnyH_strong (S' := fun w' => (Code8 w' (some ⟨fb, 0, none⟩) 4 (fourF z)) ∧ (True)) (fun _ h => h.2) _ _ _ _ ?_
    replace H : (Code8 v23 (some ⟨fb, 0, none⟩) 4 (fourF z)) ∧ (True) := ⟨CF.out, H⟩
    clear CF
    refine wpAnyH_take (i := 11) (v := .string S4) rfl (by kernel_rfl) (by kernel_rfl) (by kernel_rfl) (fun _ _ _ h => h) (Or.inl ⟨by rfl, ?_⟩) H ?_
    · intro w' hSw; have q0 := kstr_of_code (c := 4) hSw.1; rw [H4.out] at q0; clear hSw; go_simp
    change wpAnyH _ _ _ _ _ _ _ { tmps := #[_, _, _, _, _, _, _, _, _, _, _, _, _, _, _, _, _, _, _, _, _, _, _, _], defers := _ } _
    refine wpAnyH_ready (rs := [1, 6]) (by kernel_rfl) (by simp) ?_
    refine (AllReadyH.cons rfl (fun KK hK => ?_) (AllReadyH.cons rfl (fun KK hK => ?_) AllReadyH.nil))
    · skip
      obtain ⟨v24, kc, hcv, hx, hb, hgc⟩ := bytesOfM K v23
      rw [HK.out] at hcv hx
      go_simp
      replace A1 : Hid (Below w.heap.size w v24) := A1.out.trans (hb.mono A1.out.size)
      replace H : (Code8 v24 (some ⟨fb, 0, none⟩) 4 (fourF z)) ∧ (True) := ⟨(H.1).below hb, trivial⟩
      have CK : Hid (Code8 v24 (some ⟨v23.heap.size, 0, none⟩) 32 (strB K)) := hx
      obtain ⟨kb, hkb⟩ : ∃ x, x = v23.heap.size := ⟨_, rfl⟩
      rw [← hkb] at CK ⊢
      clear hcv hx hb hkb hgc
      refine hK.out _ _ H (fun _ => ?_)
      clear hK KK
      change wpAnyH _ _ _ _ _ _ _ { tmps := #[_, _, _, _, _, _, _, _, _, _, _, _, _, _, _, _, _, _, _, _, _, _, _, _], defers := _ } _
      refine wpAnyH_ready (rs := [6]) (by kernel_rfl) (by simp) ?_
      refine (AllReadyH.cons rfl (fun KK hK => ?_) AllReadyH.nil)
      have hb : Below v24.heap.size v24 (v24.alloc (.cells #[.int .u8 (x : Int), .int .u8 (y : Int)] 5)) := (Below.refl _ _).alloc (Nat.le_refl _) _
      have CP : Hid (Code8 (v24.alloc (.cells #[.int .u8 (x : Int), .int .u8 (y : Int)] 5)) (some ⟨v24.heap.size, 0, none⟩) 2 (prX x y)) := PE.out _
      go_simp
      replace H : (Code8 (v24.alloc (.cells #[.int .u8 (x : Int), .int .u8 (y : Int)] 5)) (some ⟨fb, 0, none⟩) 4 (fourF z)) ∧ (True) := ⟨(H.1).below hb, trivial⟩
      generalize (v24.alloc (.cells #[.int .u8 (x : Int), .int .u8 (y : Int)] 5)) = v25 at *
      replace A1 : Hid (Below w.heap.size w v25) := A1.out.trans (hb.mono A1.out.size)
      replace CK : Hid (Code8 v25 (some ⟨kb, 0, none⟩) 32 (strB K)) := CK.out.below hb
      obtain ⟨pb, hpb⟩ : ∃ x, x = v24.heap.size := ⟨_, rfl⟩
      rw [← hpb] at CP ⊢
      clear hb hpb
      refine hK.out _ _ H (fun _ => ?_)
      clear hK KK
      change wpAnyH _ _ _ _ _ _ _ { tmps := #[_, _, _, _, _, _, _, _, _, _, _, _, _, _, _, _, _, _, _, _, _, _, _, _], defers := _ } _
      refine wpAnyH_strong (S' := fun w' => (Code8 w' (some ⟨pb, 0, none⟩) 2 (prX x y)) ∧ (Code8 w' (some ⟨fb, 0, none⟩) 4 (fourF z)) ∧ (True)) (fun _ h => h.2) _ _ _ _ ?_
      replace H : (Code8 v25 (some ⟨pb, 0, none⟩) 2 (prX x y)) ∧ (Code8 v25 (some ⟨fb, 0, none⟩) 4 (fourF z)) ∧ (True) := ⟨CP.out, H⟩
      clear CP
      refine wpAnyH_take (i := 7) (v := .string S2) rfl (by kernel_rfl) (by kernel_rfl) (by kernel_rfl) (fun _ _ _ h => h) (Or.inl ⟨by rfl, ?_⟩) H ?_
      · intro w' hSw; have q0 := kstr_of_code (c := 2) hSw.1; rw [H2.out] at q0; clear hSw; go_simp
      change wpAnyH _ _ _ _ _ _ _ { tmps := #[_, _, _, _, _, _, _, _, _, _, _, _, _, _, _, _, _, _, _, _, _, _, _, _], defers := _ } _
      refine wpAnyH_take (i := 8) (v := .string (S1 ++ S2)) rfl (by kernel_rfl) (by kernel_rfl) (by kernel_rfl) (fun _ _ _ h => h) (Or.inl ⟨by rfl, ?_⟩) H ?_
      · intro w' hSw; go_simp
      change wpAnyH _ _ _ _ _ _ _ { tmps := #[_, _, _, _, _, _, _, _, _, _, _, _, _, _, _, _, _, _, _, _, _, _, _, _], defers := _ } _
      refine wpAnyH_take (i := 12) (v := .string TT) rfl (by kernel_rfl) (by kernel_rfl) (by kernel_rfl) (fun _ _ _ h => h) (Or.inl ⟨by rfl, ?_⟩) H ?_
      · intro w' hSw; have q1 := TX.out; clear hSw; go_simp
      change wpAnyH _ _ _ _ _ _ _ { tmps := #[_, _, _, _, _, _, _, _, _, _, _, _, _, _, _, _, _, _, _, _, _, _, _, _], defers := _ } _
      refine wpAnyH_ready (rs := [13]) (by kernel_rfl) (by simp) ?_
      refine (AllReadyH.cons rfl (fun KK hK => ?_) AllReadyH.nil)
      obtain ⟨v26, tc, hcv, hx, hb, hgc⟩ := bytesOfM TT v25
      rw [TZ.out] at hcv hx
      go_simp
      replace A1 : Hid (Below w.heap.size w v26) := A1.out.trans (hb.mono A1.out.size)
      replace CK : Hid (Code8 v26 (some ⟨kb, 0, none⟩) 32 (strB K)) := CK.out.below hb
      replace H : (Code8 v26 (some ⟨pb, 0, none⟩) 2 (prX x y)) ∧ (Code8 v26 (some ⟨fb, 0, none⟩) 4 (fourF z)) ∧ (True) := ⟨(H.1).below hb, (H.2.1).below hb, trivial⟩
      have CT : Hid (Code8 v26 (some ⟨v25.heap.size, 0, none⟩) 10 LF) := Code8.congr hx TB.out
      obtain ⟨tb, htb⟩ : ∃ x, x = v25.heap.size := ⟨_, rfl⟩
      rw [← htb] at CT ⊢
      clear hcv hx hb htb hgc
      refine hK.out _ _ H (fun _ => ?_)
      clear hK KK
      change wpAnyH _ _ _ _ _ _ _ { tmps := #[_, _, _, _, _, _, _, _, _, _, _, _, _, _, _, _, _, _, _, _, _, _, _, _], defers := _ } _
      refine wpAnyH_ready (rs := [14]) (by kernel_rfl) (by simp) ?_
      refine (AllReadyH.cons rfl (fun KK hK => ?_) AllReadyH.nil)
      go_simp
      refine (HM.out kb _ tb _ _ CK.out CT.out).mono ?_
      rintro e v27 ⟨rfl, hb⟩
      replace A1 : Hid (Below w.heap.size w v27) := A1.out.trans (hb.mono A1.out.size)
      replace CK : Hid (Code8 v27 (some ⟨kb, 0, none⟩) 32 (strB K)) := CK.out.below hb
      replace CT : Hid (Code8 v27 (some ⟨tb, 0, none⟩) 10 LF) := CT.out.below hb
      replace H : (Code8 v27 (some ⟨pb, 0, none⟩) 2 (prX x y)) ∧ (Code8 v27 (some ⟨fb, 0, none⟩) 4 (fourF z)) ∧ (True) := ⟨(H.1).below hb, (H.2.1).below hb, trivial⟩
      clear hb
      refine hK.out _ _ H (fun _ => ?_)
      clear hK KK
      change wpAnyH _ _ _ _ _ _ _ { tmps := #[_, _, _, _, _, _, _, _, _, _, _, _, _, _, _, _, _, _, _, _, _, _, _, _], defers := _ } _
      refine wpAnyH_take (i := 15) (v := .string LK) rfl (by kernel_rfl) (by kernel_rfl) (by kernel_rfl) (fun _ _ _ h => h) (Or.inl ⟨by rfl, ?_⟩) H ?_
      · intro w' hSw; go_simp
      change wpAnyH _ _ _ _ _ _ _ { tmps := #[_, _, _, _, _, _, _, _, _, _, _, _, _, _, _, _, _, _, _, _, _, _, _, _], defers := _ } _
      refine wpAnyH_done (by kernel_rfl) ?_ _
      refine NoPanic.normal ?_
      clear H CK CT HM FO PE TX TB TZ HK H2 H4 ll
      go_wp2
      go_ret
      exact ⟨rfl, A1.out⟩
    · skip
      have hb : Below v23.heap.size v23 (v23.alloc (.cells #[.int .u8 (x : Int), .int .u8 (y : Int)] 5)) := (Below.refl _ _).alloc (Nat.le_refl _) _
      have CP : Hid (Code8 (v23.alloc (.cells #[.int .u8 (x : Int), .int .u8 (y : Int)] 5)) (some ⟨v23.heap.size, 0, none⟩) 2 (prX x y)) := PE.out _
      go_simp
      replace H : (Code8 (v23.alloc (.cells #[.int .u8 (x : Int), .int .u8 (y : Int)] 5)) (some ⟨fb, 0, none⟩) 4 (fourF z)) ∧ (True) := ⟨(H.1).below hb, trivial⟩
      generalize (v23.alloc (.cells #[.int .u8 (x : Int), .int .u8 (y : Int)] 5)) = v28 at *
      replace A1 : Hid (Below w.heap.size w v28) := A1.out.trans (hb.mono A1.out.size)
      obtain ⟨pb, hpb⟩ : ∃ x, x = v23.heap.size := ⟨_, rfl⟩
      rw [← hpb] at CP ⊢
      clear hb hpb
      refine hK.out _ _ H (fun _ => ?_)
      clear hK KK
      change wpAnyH _ _ _ _ _ _ _ { tmps := #[_, _, _, _, _, _, _, _, _, _, _, _, _, _, _, _, _, _, _, _, _, _, _, _], defers := _ } _
      refine wpAnyH_strong (S' := fun w' => (Code8 w' (some ⟨pb, 0, none⟩) 2 (prX x y)) ∧ (Code8 w' (some ⟨fb, 0, none⟩) 4 (fourF z)) ∧ (True)) (fun _ h => h.2) _ _ _ _ ?_
      replace H : (Code8 v28 (some ⟨pb, 0, none⟩) 2 (prX x y)) ∧ (Code8 v28 (some ⟨fb, 0, none⟩) 4 (fourF z)) ∧ (True) := ⟨CP.out, H⟩
      clear CP
      refine wpAnyH_take (i := 7) (v := .string S2) rfl (by kernel_rfl) (by kernel_rfl) (by kernel_rfl) (fun _ _ _ h => h) (Or.inl ⟨by rfl, ?_⟩) H ?_
      · intro w' hSw; have q0 := kstr_of_code (c := 2) hSw.1; rw [H2.out] at q0; clear hSw; go_simp
      change wpAnyH _ _ _ _ _ _ _ { tmps := #[_, _, _, _, _, _, _, _, _, _, _, _, _, _, _, _, _, _, _, _, _, _, _, _], defers := _ } _
      refine wpAnyH_take (i := 8) (v := .string (S1 ++ S2)) rfl (by kernel_rfl) (by kernel_rfl) (by kernel_rfl) (fun _ _ _ h => h) (Or.inl ⟨by rfl, ?_⟩) H ?_
      · intro w' hSw; go_simp
      change wpAnyH _ _ _ _ _ _ _ { tmps := #[_, _, _, _, _, _, _, _, _, _, _, _, _, _, _, _, _, _, _, _, _, _, _, _], defers := _ } _
      refine wpAnyH_take (i := 12) (v := .string TT) rfl (by kernel_rfl) (by kernel_rfl) (by kernel_rfl) (fun _ _ _ h => h) (Or.inl ⟨by rfl, ?_⟩) H ?_
      · intro w' hSw; have q1 := TX.out; clear hSw; go_simp
      change wpAnyH _ _ _ _ _ _ _ { tmps := #[_, _, _, _, _, _, _, _, _, _, _, _, _, _, _, _, _, _, _, _, _, _, _, _], defers := _ } _
      refine wpAnyH_ready (rs := [1, 13]) (by kernel_rfl) (by simp) ?_
      refine (AllReadyH.cons rfl (fun KK hK => ?_) (AllReadyH.cons rfl (fun KK hK => ?_) AllReadyH.nil))
      · skip
        obtain ⟨v29, kc, hcv, hx, hb, hgc⟩ := bytesOfM K v28
        rw [HK.out] at hcv hx
        go_simp
        replace A1 : Hid (Below w.heap.size w v29) := A1.out.trans (hb.mono A1.out.size)
        replace H : (Code8 v29 (some ⟨pb, 0, none⟩) 2 (prX x y)) ∧ (Code8 v29 (some ⟨fb, 0, none⟩) 4 (fourF z)) ∧ (True) := ⟨(H.1).below hb, (H.2.1).below hb, trivial⟩
        have CK : Hid (Code8 v29 (some ⟨v28.heap.size, 0, none⟩) 32 (strB K)) := hx
        obtain ⟨kb, hkb⟩ : ∃ x, x = v28.heap.size := ⟨_, rfl⟩
        rw [← hkb] at CK ⊢
        clear hcv hx hb hkb hgc
        refine hK.out _ _ H (fun _ => ?_)
        clear hK KK
        change wpAnyH _ _ _ _ _ _ _ { tmps := #[_, _, _, _, _, _, _, _, _, _, _, _, _, _, _, _, _, _, _, _, _, _, _, _], defers := _ } _
        refine wpAnyH_ready (rs := [13]) (by kernel_rfl) (by simp) ?_
        refine (AllReadyH.cons rfl (fun KK hK => ?_) AllReadyH.nil)
        obtain ⟨v30, tc, hcv, hx, hb, hgc⟩ := bytesOfM TT v29
        rw [TZ.out] at hcv hx
        go_simp
        replace A1 : Hid (Below w.heap.size w v30) := A1.out.trans (hb.mono A1.out.size)
        replace CK : Hid (Code8 v30 (some ⟨kb, 0, none⟩) 32 (strB K)) := CK.out.below hb
        replace H : (Code8 v30 (some ⟨pb, 0, none⟩) 2 (prX x y)) ∧ (Code8 v30 (some ⟨fb, 0, none⟩) 4 (fourF z)) ∧ (True) := ⟨(H.1).below hb, (H.2.1).below hb, trivial⟩
        have CT : Hid (Code8 v30 (some ⟨v29.heap.size, 0, none⟩) 10 LF) := Code8.congr hx TB.out
        obtain ⟨tb, htb⟩ : ∃ x, x = v29.heap.size := ⟨_, rfl⟩
        rw [← htb] at CT ⊢
        clear hcv hx hb htb hgc
        refine hK.out _ _ H (fun _ => ?_)
        clear hK KK
        change wpAnyH _ _ _ _ _ _ _ { tmps := #[_, _, _, _, _, _, _, _, _, _, _, _, _, _, _, _, _, _, _, _, _, _, _, _], defers := _ } _
        refine wpAnyH_ready (rs := [14]) (by kernel_rfl) (by simp) ?_
        refine (AllReadyH.cons rfl (fun KK hK => ?_) AllReadyH.nil)
        go_simp
        refine (HM.out kb _ tb _ _ CK.out CT.out).mono ?_
        rintro e v31 ⟨rfl, hb⟩
        replace A1 : Hid (Below w.heap.size w v31) := A1.out.trans (hb.mono A1.out.size)
        replace CK : Hid (Code8 v31 (some ⟨kb, 0, none⟩) 32 (strB K)) := CK.out.below hb
        replace CT : Hid (Code8 v31 (some ⟨tb, 0, none⟩) 10 LF) := CT.out.below hb
        replace H : (Code8 v31 (some ⟨pb, 0, none⟩) 2 (prX x y)) ∧ (Code8 v31 (some ⟨fb, 0, none⟩) 4 (fourF z)) ∧ (True) := ⟨(H.1).below hb, (H.2.1).below hb, trivial⟩
        clear hb
        refine hK.out _ _ H (fun _ => ?_)
        clear hK KK
        change wpAnyH _ _ _ _ _ _ _ { tmps := #[_, _, _, _, _, _, _, _, _, _, _, _, _, _, _, _, _, _, _, _, _, _, _, _], defers := _ } _
        refine wpAnyH_take (i := 15) (v := .string LK) rfl (by kernel_rfl) (by kernel_rfl) (by kernel_rfl) (fun _ _ _ h => h) (Or.inl ⟨by rfl, ?_⟩) H ?_
        · intro w' hSw; go_simp
        change wpAnyH _ _ _ _ _ _ _ { tmps := #[_, _, _, _, _, _, _, _, _, _, _, _, _, _, _, _, _, _, _, _, _, _, _, _], defers := _ } _
        refine wpAnyH_done (by kernel_rfl) ?_ _
        refine NoPanic.normal ?_
        clear H CK CT HM FO PE TX TB TZ HK H2 H4 ll
        go_wp2
        go_ret
        exact ⟨rfl, A1.out⟩
      · skip
        obtain ⟨v32, tc, hcv, hx, hb, hgc⟩ := bytesOfM TT v28
        rw [TZ.out] at hcv hx
        go_simp
        replace A1 : Hid (Below w.heap.size w v32) := A1.out.trans (hb.mono A1.out.size)
        replace H : (Code8 v32 (some ⟨pb, 0, none⟩) 2 (prX x y)) ∧ (Code8 v32 (some ⟨fb, 0, none⟩) 4 (fourF z)) ∧ (True) := ⟨(H.1).below hb, (H.2.1).below hb, trivial⟩
        have CT : Hid (Code8 v32 (some ⟨v28.heap.size, 0, none⟩) 10 LF) := Code8.congr hx TB.out
        obtain ⟨tb, htb⟩ : ∃ x, x = v28.heap.size := ⟨_, rfl⟩
        rw [← htb] at CT ⊢
        clear hcv hx hb htb hgc
        refine hK.out _ _ H (fun _ => ?_)
        clear hK KK
        change wpAnyH _ _ _ _ _ _ _ { tmps := #[_, _, _, _, _, _, _, _, _, _, _, _, _, _, _, _, _, _, _, _, _, _, _, _], defers := _ } _
        refine wpAnyH_ready (rs := [1]) (by kernel_rfl) (by simp) ?_
        refine (AllReadyH.cons rfl (fun KK hK => ?_) AllReadyH.nil)
        obtain ⟨v33, kc, hcv, hx, hb, hgc⟩ := bytesOfM K v32
        rw [HK.out] at hcv hx
        go_simp
        replace A1 : Hid (Below w.heap.size w v33) := A1.out.trans (hb.mono A1.out.size)
        replace CT : Hid (Code8 v33 (some ⟨tb, 0, none⟩) 10 LF) := CT.out.below hb
        replace H : (Code8 v33 (some ⟨pb, 0, none⟩) 2 (prX x y)) ∧ (Code8 v33 (some ⟨fb, 0, none⟩) 4 (fourF z)) ∧ (True) := ⟨(H.1).below hb, (H.2.1).below hb, trivial⟩
        have CK : Hid (Code8 v33 (some ⟨v32.heap.size, 0, none⟩) 32 (strB K)) := hx
        obtain ⟨kb, hkb⟩ : ∃ x, x = v32.heap.size := ⟨_, rfl⟩
        rw [← hkb] at CK ⊢
        clear hcv hx hb hkb hgc
        refine hK.out _ _ H (fun _ => ?_)
        clear hK KK
        change wpAnyH _ _ _ _ _ _ _ { tmps := #[_, _, _, _, _, _, _, _, _, _, _, _, _, _, _, _, _, _, _, _, _, _, _, _], defers := _ } _
        refine wpAnyH_ready (rs := [14]) (by kernel_rfl) (by simp) ?_
        refine (AllReadyH.cons rfl (fun KK hK => ?_) AllReadyH.nil)
        go_simp
        refine (HM.out kb _ tb _ _ CK.out CT.out).mono ?_
        rintro e v34 ⟨rfl, hb⟩
        replace A1 : Hid (Below w.heap.size w v34) := A1.out.trans (hb.mono A1.out.size)
        replace CT : Hid (Code8 v34 (some ⟨tb, 0, none⟩) 10 LF) := CT.out.below hb
        replace CK : Hid (Code8 v34 (some ⟨kb, 0, none⟩) 32 (strB K)) := CK.out.below hb
        replace H : (Code8 v34 (some ⟨pb, 0, none⟩) 2 (prX x y)) ∧ (Code8 v34 (some ⟨fb, 0, none⟩) 4 (fourF z)) ∧ (True) := ⟨(H.1).below hb, (H.2.1).below hb, trivial⟩
        clear hb
        refine hK.out _ _ H (fun _ => ?_)
        clear hK KK
        change wpAnyH _ _ _ _ _ _ _ { tmps := #[_, _, _, _, _, _, _, _, _, _, _, _, _, _, _, _, _, _, _, _, _, _, _, _], defers := _ } _
        refine wpAnyH_take (i := 15) (v := .string LK) rfl (by kernel_rfl) (by kernel_rfl) (by kernel_rfl) (fun _ _ _ h => h) (Or.inl ⟨by rfl, ?_⟩) H ?_
        · intro w' hSw; go_simp
        change wpAnyH _ _ _ _ _ _ _ { tmps := #[_, _, _, _, _, _, _, _, _, _, _, _, _, _, _, _, _, _, _, _, _, _, _, _], defers := _ } _
        refine wpAnyH_done (by kernel_rfl) ?_ _
        refine NoPanic.normal ?_
        clear H CK CT HM FO PE TX TB TZ HK H2 H4 ll
        go_wp2
        go_ret
        exact ⟨rfl, A1.out⟩
set_option maxRecDepth 100000 in
set_option maxHeartbeats 2000000 in
theorem specLKey_any (K : ByteArray) (x y z : Int) (s : ByteArray) (code : Int) (h : LkA K x y z s code) (w : World) :
    Calls Tryd.prog 22 #[.string K, .int .i64 x, .int .i64 y, .int .i64 z] w fun e w' => e = .returned (.tuple #[.string s, .int .i64 code]) ∧ Below w.heap.size w w' := by
  rcases h with ⟨h1, rfl, rfl⟩ | ⟨h1, h2, rfl, rfl⟩ | ⟨h1, h3, rfl, rfl⟩ | ⟨h1, ⟨⟨x0, x1⟩, ⟨y0, y1⟩, z0, z1⟩, hs, rfl⟩
  · have e1 : (65536 : Int) < (K.size : Int) := by omega
    clear h1
    go_enter Tryd.func22, Tryd.ntmps22
    go_wp2
    go_ret2
    exact ⟨rfl, Below.refl _ _⟩
  · have e1 : ¬ (65536 : Int) < (K.size : Int) := by omega
    have e3 : ((K.size : Int) != 32) = true := by simp; omega
    clear h1 h2
    go_enter Tryd.func22, Tryd.ntmps22
    go_wp2
    go_ret2
    exact ⟨rfl, Below.refl _ _⟩
  · have e1 : ¬ (65536 : Int) < (K.size : Int) := by omega
    have e3 : ((K.size : Int) != 32) = false := by simp; omega
    by_cases g1 : 0 ≤ x ∧ x ≤ 255
    · have I1 : Hid (∀ w : World, Calls Tryd.prog 63 #[.int .i64 x, .int .i64 0, .int .i64 255] w fun e w' => e = .returned (.bool true) ∧ w = w') := fun w => in_any x _ _ true (by simp; omega) w
      by_cases g2 : 0 ≤ y ∧ y ≤ 255
      · have I2 : Hid (∀ w : World, Calls Tryd.prog 63 #[.int .i64 y, .int .i64 0, .int .i64 255] w fun e w' => e = .returned (.bool true) ∧ w = w') := fun w => in_any y _ _ true (by simp; omega) w
        have I3 : Hid (∀ w : World, Calls Tryd.prog 63 #[.int .i64 z, .int .i64 0, .int .i64 4294967295] w fun e w' => e = .returned (.bool false) ∧ w = w') := fun w => in_any z _ _ false (by simp; omega) w
        clear g1 g2 h3 h1
        go_enter Tryd.func22, Tryd.ntmps22
        go_wp2_with fail
        refine (I1.out _).mono ?_
        rintro e w1 ⟨rfl, rfl⟩
        go_wp2_with fail
        refine (I2.out _).mono ?_
        rintro e w1 ⟨rfl, rfl⟩
        go_wp2_with fail
        refine (I3.out _).mono ?_
        rintro e w1 ⟨rfl, rfl⟩
        go_wp2
        go_ret2
        exact ⟨rfl, Below.refl _ _⟩
      · have I2 : Hid (∀ w : World, Calls Tryd.prog 63 #[.int .i64 y, .int .i64 0, .int .i64 255] w fun e w' => e = .returned (.bool false) ∧ w = w') := fun w => in_any y _ _ false (by simp; omega) w
        clear g1 g2 h3 h1
        go_enter Tryd.func22, Tryd.ntmps22
        go_wp2_with fail
        refine (I1.out _).mono ?_
        rintro e w1 ⟨rfl, rfl⟩
        go_wp2_with fail
        refine (I2.out _).mono ?_
        rintro e w1 ⟨rfl, rfl⟩
        go_wp2
        go_ret2
        exact ⟨rfl, Below.refl _ _⟩
    · have I1 : Hid (∀ w : World, Calls Tryd.prog 63 #[.int .i64 x, .int .i64 0, .int .i64 255] w fun e w' => e = .returned (.bool false) ∧ w = w') := fun w => in_any x _ _ false (by simp; omega) w
      clear g1 h3 h1
      go_enter Tryd.func22, Tryd.ntmps22
      go_wp2_with fail
      refine (I1.out _).mono ?_
      rintro e w1 ⟨rfl, rfl⟩
      go_wp2
      go_ret2
      exact ⟨rfl, Below.refl _ _⟩
  · have e1 : ¬ (65536 : Int) < (K.size : Int) := by omega
    have e3 : ((K.size : Int) != 32) = false := by simp; omega
    obtain ⟨x, rfl⟩ : ∃ q : Nat, x = (q : Int) := ⟨x.toNat, by omega⟩
    obtain ⟨y, rfl⟩ : ∃ q : Nat, y = (q : Int) := ⟨y.toNat, by omega⟩
    obtain ⟨z, rfl⟩ : ∃ q : Nat, z = (q : Int) := ⟨z.toNat, by omega⟩
    have I1 : Hid (∀ w : World, Calls Tryd.prog 63 #[.int .i64 (x : Int), .int .i64 0, .int .i64 255] w fun e w' => e = .returned (.bool true) ∧ w = w') := fun w => in_any x _ _ true (by simp; omega) w
    have I2 : Hid (∀ w : World, Calls Tryd.prog 63 #[.int .i64 (y : Int), .int .i64 0, .int .i64 255] w fun e w' => e = .returned (.bool true) ∧ w = w') := fun w => in_any y _ _ true (by simp; omega) w
    have I3 : Hid (∀ w : World, Calls Tryd.prog 63 #[.int .i64 (z : Int), .int .i64 0, .int .i64 4294967295] w fun e w' => e = .returned (.bool true) ∧ w = w') := fun w => in_any z _ _ true (by simp; omega) w
    have KY : Hid (∀ w : World, Calls Tryd.prog 64 #[.string K, .int .i64 (x : Int), .int .i64 (y : Int), .int .i64 (z : Int)] w fun e w' => e = .returned (.string s) ∧ Below w.heap.size w w') := fun w => by
      rw [hs]
      exact l07Key_any K x y z h1 (by omega) (by omega) (by omega) w
    clear h1 hs x0 x1 y0 y1 z0 z1
    go_enter Tryd.func22, Tryd.ntmps22
    go_wp2_with fail
    refine (I1.out _).mono ?_
    rintro e w1 ⟨rfl, rfl⟩
    go_wp2_with fail
    refine (I2.out _).mono ?_
    rintro e w1 ⟨rfl, rfl⟩
    go_wp2_with fail
    refine (I3.out _).mono ?_
    rintro e w1 ⟨rfl, rfl⟩
    clear I1 I2 I3
    go_wp2_with fail
    refine (KY.out _).mono ?_
    rintro e w1 ⟨rfl, hb⟩
    have B1 : Hid (Below w.heap.size w w1) := hb
    clear hb KY
    go_wp2
    go_ret2
    exact ⟨rfl, B1.out⟩
set_option maxRecDepth 100000 in
set_option maxHeartbeats 1000000 in
theorem law_linkKey (K : ByteArray) (x y z : Int) (w : World) (ht : Tabs w) :
    Calls Tryd.prog 7 #[.string K, .int .i64 x, .int .i64 y, .int .i64 z] w fun e w' => e = .returned (.bool true) ∧ Below w.heap.size w w' := by
  obtain ⟨s, code, hA⟩ := lkA_ex K x y z
  have SP : Hid (∀ w : World, Calls Tryd.prog 22 #[.string K, .int .i64 x, .int .i64 y, .int .i64 z] w fun e w' => e = .returned (.tuple #[.string s, .int .i64 code]) ∧ Below w.heap.size w w') := fun w => specLKey_any K x y z s code hA w
  have IP : Hid (∀ w : World, Tabs w → Calls Tryd.prog 20 #[.string K, .int .i64 x, .int .i64 y, .int .i64 z] w fun e w' => e = .returned (.tuple #[.string s, .int .i64 code]) ∧ Below w.heap.size w w') := fun w h => implLKey_any K x y z s code hA w h
  have HT : Hid (Tabs w) := ht
  clear ht hA
  by_cases h1 : (1048576 : Int) < (K.size : Int)
  · go_enter Tryd.func7, Tryd.ntmps7
    go_wp2
    go_ret
    exact ⟨rfl, Below.refl _ _⟩
  · go_enter Tryd.func7, Tryd.ntmps7
    go_wp2_with fail
    refine (SP.out _).mono ?_
    rintro e w1 ⟨rfl, hb⟩
    have B1 : Hid (Below w.heap.size w w1) := hb
    clear hb SP
    go_wp2_with fail
    refine (IP.out _ (HT.out.below B1.out)).mono ?_
    rintro e w2 ⟨rfl, hb⟩
    have B2 : Hid (Below w.heap.size w w2) := B1.out.trans (hb.mono B1.out.size)
    clear hb IP B1 HT
    go_wp2
    go_ret
    exact ⟨rfl, B2.out⟩
end Go.Proofs.YtkhglllicblbbaaDoor
