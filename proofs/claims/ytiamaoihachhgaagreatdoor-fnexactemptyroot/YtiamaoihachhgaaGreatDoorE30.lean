/-
  Texts of the proof, joined: Tag.
-/
import Derived.Test.YtiamaoihachhgaaGreatDoorE29
import Derived.Test.YtiamaoihachhgaaGreatDoorTkH
import Derived.Test.YtiamaoihachhgaaGreatDoorChH
namespace Go.Proofs.YtiamaoihachhgaaGreatDoor
open Go.ChangeShapes Go.WideShapes Go.ChangeAt Go.RowKit
def macT (k s : ByteArray) (m : Nat) (fx : Nat → Nat) (n : Nat) (f : Nat → Nat) : Nat → Nat := Sha.mac (Sha.keyF 32 (strB (tagS k))) (16 + m + n) (Sha.cat 16 (numF 12 4 m (strB s)) (Sha.cat m fx f))
def tagT (k s : ByteArray) (m : Nat) (fx : Nat → Nat) (n : Nat) (f : Nat → Nat) : ByteArray := kstr (macT k s m fx n f) 0 16
theorem macT_lt (k s : ByteArray) (m : Nat) (fx : Nat → Nat) (n : Nat) (f : Nat → Nat) (i : Nat) : macT k s m fx n f i < 256 := Sha.mac_lt _ _ _ _
theorem tagT_size (k s : ByteArray) (m : Nat) (fx : Nat → Nat) (n : Nat) (f : Nat → Nat) : (tagT k s m fx n f).size = 16 := kstr_size _ _ _
theorem keyF_tag (k : ByteArray) : Sha.keyF 32 (fun i => pairF k (32 + i)) = Sha.keyF 32 (strB (tagS k)) := by
 funext j
 unfold Sha.keyF
 by_cases h : j < 32
 ·have e : strB (tagS k) j = pairF k (32 + j) := by unfold tagS; rw [strB_kstr _ 32 32 j (pairF_lt _ _) h]
  simp [h, e]
 ·simp [h]
theorem numF_lt {k sz x : Nat} {f : Nat → Nat} (hf : ∀ i, f i < 256) (j : Nat) : numF k sz x f j < 256 := by
 unfold numF
 split
 ·exact hf _
 ·exact Nat.mod_lt _ (by omega)
def Trip (w : World) (sb : Nat) (x y z : Value) : Prop := w.cell? ⟨sb, 0, none⟩ = some x ∧ w.cell? ⟨sb, 1, none⟩ = some y ∧ w.cell? ⟨sb, 2, none⟩ = some z
theorem Trip.below {w w' : World} {sb : Nat} {x y z : Value} (h : Trip w sb x y z) (hb : Below w.heap.size w w') : Trip w' sb x y z :=
 ⟨by rw [hb.cell (p := ⟨sb, 0, none⟩) (strBlock h.1)]; exact h.1, by rw [hb.cell (p := ⟨sb, 1, none⟩) (strBlock h.2.1)]; exact h.2.1, by rw [hb.cell (p := ⟨sb, 2, none⟩) (strBlock h.2.2)]; exact h.2.2⟩
theorem Trip.made (w : World) (x y z : Value) (t : TypeId) : Trip (w.alloc (.cells #[x, y, z] t)) w.heap.size x y z := ⟨by simp, by simp, by simp⟩
theorem concatT_any (sb b0 o0 n0 c0 b1 o1 n1 c1 b2 o2 n2 c2 : Nat) (f0 f1 f2 : Nat → Nat) (h1 : 1 ≤ n0) (h2 : n0 + n1 + n2 ≤ 1000000) (w : World) (ht : Trip w sb (.slice (some ⟨b0, o0, none⟩) n0 c0) (.slice (some ⟨b1, o1, none⟩) n1 c1) (.slice (some ⟨b2, o2, none⟩) n2 c2)) (k0 : Code8 w (some ⟨b0, o0, none⟩) n0 f0) (k1 : Code8 w (some ⟨b1, o1, none⟩) n1 f1) (k2 : Code8 w (some ⟨b2, o2, none⟩) n2 f2) :
  Calls Tryz.prog 152 #[.slice (some ⟨sb, 0, none⟩) 3 3] w fun e w' => (∃ g c, e = .returned (.slice (some ⟨g, 0, none⟩) (n0 + n1 + n2) c) ∧ Own8 w' g (n0 + n1 + n2) (Sha.cat n0 f0 (Sha.cat n1 f1 f2))) ∧ Below w.heap.size w w' := by
 have P : Parts w sb 3 (fun k => if k = 0 then some ⟨b0, o0, none⟩ else if k = 1 then some ⟨b1, o1, none⟩ else some ⟨b2, o2, none⟩) (fun k => if k = 0 then n0 else if k = 1 then n1 else n2) (fun k => if k = 0 then c0 else if k = 1 then c1 else c2) (fun k => if k = 0 then f0 else if k = 1 then f1 else f2) := by
  refine ⟨fun k hk => ?_, fun k hk => ?_, fun k hk => ?_⟩
  ·rcases (show k = 0 ∨ k = 1 ∨ k = 2 by omega) with rfl | rfl | rfl
   ·exact ht.1
   ·exact ht.2.1
   ·exact ht.2.2
  ·rcases (show k = 0 ∨ k = 1 ∨ k = 2 by omega) with rfl | rfl | rfl
   ·exact k0
   ·exact k1
   ·exact k2
  ·rcases (show k = 0 ∨ k = 1 ∨ k = 2 by omega) with rfl | rfl | rfl
   ·exact .inr ⟨_, _, rfl⟩
   ·exact .inr ⟨_, _, rfl⟩
   ·exact .inr ⟨_, _, rfl⟩
 have hN : catN (fun k => if k = 0 then n0 else if k = 1 then n1 else n2) 3 = n0 + n1 + n2 := by show 0 + n0 + n1 + n2 = _; omega
 have := concatN_any sb 3 _ _ _ _ (by omega) (by rw [hN]; omega) (by rw [hN]; omega) _ P
 rw [hN, cat3] at this
 refine this.mono ?_
 rintro e w' ⟨⟨g, cc, rfl, ho⟩, hb'⟩
 obtain ⟨g', c', _, e', h8⟩ := own8_of_own ho (by intro e; cases e)
 cases e'
 exact ⟨⟨g, cc, rfl, h8⟩, hb'⟩
set_option maxRecDepth 100000 in
set_option maxHeartbeats 4000000 in
theorem tag_any (k s : ByteArray) (q xb xo m xc b o n c : Nat) (fx f : Nat → Nat) (hs : s.size = 12) (hm : m ≤ 65536) (hn : n ≤ 65536) (hfx : ∀ i, fx i < 256) (hf : ∀ i, f i < 256) (w : World) (h : SealAt w q (pairF k) s (.slice (some ⟨xb, xo, none⟩) m xc)) (hx : Code8 w (some ⟨xb, xo, none⟩) m fx) (hc : Code8 w (some ⟨b, o, none⟩) n f) (ht : Tabs w) :
  Calls Tryz.prog 110 #[.pointer (some ⟨q, 0, none⟩), .slice (some ⟨b, o, none⟩) n c] w fun e w' => RetM w.heap.size w' e 16 (strB (tagT k s m fx n f)) ∧ Below w.heap.size w w' := by
 have AN : Hid (∀ (g c : Nat) (w1 : World), w.heap.size ≤ g → w.heap.size ≤ w1.heap.size → RowM w1 g 12 c (strB s) → Calls Tryz.prog 32 #[.slice (some ⟨g, 0, none⟩) 12 c, .int .i64 (m : Int), .int .i64 4] w1 fun e w' => RetM w.heap.size w' e 16 (numF 12 4 m (strB s)) ∧ Below w.heap.size w1 w') := fun g c w1 h1 h2 h => appendNumberM_any w.heap.size g 12 c m 4 (strB s) (by omega) (by omega) w1 h1 h2 h
 have NM : Hid (∀ (w : World), Code8 w (some ⟨q, 32, none⟩) 32 (fun i => pairF k (32 + i)) → Tabs w → Calls Tryz.prog 148 #[.slice (some ⟨q, 32, none⟩) 32 32] w fun e w' => e = .returned (.agg (bA 64 (Sha.keyF 32 (strB (tagS k))))) ∧ Below w.heap.size w w') := fun w h ht => by
  rw [← keyF_tag]
  exact newMacKey_any q 32 32 32 _ (fun i => pairF_lt _ _) (by omega) w h ht
 have CO : Hid (∀ (sb hb hc : Nat) (w : World), Trip w sb (.slice (some ⟨hb, 0, none⟩) 16 hc) (.slice (some ⟨xb, xo, none⟩) m xc) (.slice (some ⟨b, o, none⟩) n c) → Code8 w (some ⟨hb, 0, none⟩) 16 (numF 12 4 m (strB s)) → Code8 w (some ⟨xb, xo, none⟩) m fx → Code8 w (some ⟨b, o, none⟩) n f → Calls Tryz.prog 152 #[.slice (some ⟨sb, 0, none⟩) 3 3] w fun e w' => (∃ g c, e = .returned (.slice (some ⟨g, 0, none⟩) (16 + m + n) c) ∧ Own8 w' g (16 + m + n) (Sha.cat 16 (numF 12 4 m (strB s)) (Sha.cat m fx f))) ∧ Below w.heap.size w w') := fun sb hb hc w ht k0 k1 k2 => concatT_any sb hb 0 16 hc xb xo m xc b o n c _ _ _ (by omega) (by omega) w ht k0 k1 k2
 have MA : Hid (∀ (g c : Nat) (w : World), Own8 w g (16 + m + n) (Sha.cat 16 (numF 12 4 m (strB s)) (Sha.cat m fx f)) → Tabs w → Calls Tryz.prog 149 #[.agg (bA 64 (Sha.keyF 32 (strB (tagS k)))), .slice (some ⟨g, 0, none⟩) (16 + m + n) c] w fun e w' => e = .returned (.string (kstr (macT k s m fx n f) 0 32)) ∧ Below w.heap.size w w') := fun g c w h ht => mac_any _ (Sha.keyF_lt (strB_lt _)) g 0 (16 + m + n) c _ (Sha.cat_lt (numF_lt (strB_lt s)) (Sha.cat_lt hfx hf)) (by omega) w h.code ht
 have hex : (kstr (macT k s m fx n f) 0 32).extract 0 16 = tagT k s m fx n f := by
  have := kstr_extract (kstr (macT k s m fx n f) 0 32) 0 16 (by rw [kstr_size]; omega)
  rw [Nat.zero_add] at this
  rw [this]
  exact kstr_congr (fun i hi => by rw [Nat.zero_add, strB_kstr _ 0 32 i (by rw [Nat.zero_add]; exact macT_lt _ _ _ _ _ _ _) (by omega), Nat.zero_add])
 have hms : (kstr (macT k s m fx n f) 0 32).size = 32 := kstr_size _ _ _
 have hts : (tagT k s m fx n f).size = 16 := tagT_size _ _ _ _ _ _
 generalize kstr (macT k s m fx n f) 0 32 = MS at *
 generalize tagT k s m fx n f = TT at *
 generalize bA 64 (Sha.keyF 32 (strB (tagS k))) = KA at *
 generalize pairF k = G at *
 generalize hHF : numF 12 4 m (strB s) = HF at *
 clear hHF
 have HS : Hid (SealAt w q G s (.slice (some ⟨xb, xo, none⟩) m xc)) := h
 have HX : Hid (Code8 w (some ⟨xb, xo, none⟩) m fx) := hx
 have HC : Hid (Code8 w (some ⟨b, o, none⟩) n f) := hc
 have HT : Hid (Tabs w) := ht
 clear h hx hc ht hfx hf
 obtain ⟨w1, c1, hcv, hr1, hb1⟩ := bytesOfR s w.drew
 rw [hs] at hcv hr1
 have R1 : Hid (RowM w1 w.heap.size 12 c1 (strB s)) := hr1
 have B1 : Hid (Below w.heap.size w w1) := (Below.refl _ w).drew.trans hb1
 change (convert 9 41 (.string s)).run Tryz.prog w.drew = .ok (.slice (some ⟨w.heap.size, 0, none⟩) 12 c1) w1 at hcv
 clear hr1 hb1
 go_enter Tryz.func110, Tryz.ntmps110
 go_upto_region 1 with fail
 have H := HS.out.drew
 refine wp_region_noPanic ?_
 refine wp_region_held_drew (S := fun w' => SealAt w' q G s (.slice (some ⟨xb, xo, none⟩) m xc)) (by kernel_rfl) H (fun _ => ?_)
 refine tkH (i := 0) (v := .pointer (some ⟨q, 0, none⟩)) rfl (by kernel_rfl) (by rfl) ?_ H ?_
 ·intro w' hSw; go_simp
 refine ch36 ?_
 refine tkH (i := 1) (v := .pointer (some ⟨q, 0, none⟩)) rfl (by kernel_rfl) (by rfl) ?_ H ?_
 ·intro w' hSw; go_simp
 refine ch36 ?_
 refine tkH (i := 2) (v := .pointer (some ⟨q, 64, none⟩)) rfl (by kernel_rfl) (by rfl) ?_ H ?_
 ·intro w' hSw; go_simp
 refine ch36 ?_
 refine tkH (i := 3) (v := .string s) rfl (by kernel_rfl) (by rfl) ?_ H ?_
 ·intro w' hSw; have := hSw.nonce; clear hSw; go_simp
 refine ch36 ?_
 refine tkH (i := 5) (v := .pointer (some ⟨q, 0, none⟩)) rfl (by kernel_rfl) (by rfl) ?_ H ?_
 ·intro w' hSw; go_simp
 refine ch36 ?_
 refine tkH (i := 6) (v := .pointer (some ⟨q, 0, none⟩)) rfl (by kernel_rfl) (by rfl) ?_ H ?_
 ·intro w' hSw; go_simp
 refine ch36 ?_
 refine tkH (i := 7) (v := .pointer (some ⟨q, 65, none⟩)) rfl (by kernel_rfl) (by rfl) ?_ H ?_
 ·intro w' hSw; go_simp
 refine ch36 ?_
 refine tkH (i := 8) (v := .slice (some ⟨xb, xo, none⟩) m xc) rfl (by kernel_rfl) (by rfl) ?_ H ?_
 ·intro w' hSw; have := hSw.extra; clear hSw; go_simp
 refine ch36 ?_
 refine tkH (i := 9) (v := .int .i64 (m : Int)) rfl (by kernel_rfl) (by rfl) ?_ H ?_
 ·intro w' hSw; go_simp
 refine ch36 ?_
 refine wpAnyH_ready (rs := [4]) (by kernel_rfl) (by simp) ?_
 refine AllReadyH.cons rfl (fun KK hK => ?_) AllReadyH.nil
 go_simp
 replace H : SealAt w1 q G s (.slice (some ⟨xb, xo, none⟩) m xc) := HS.out.below B1.out
 refine hK.out _ _ H (fun _ => ?_)
 clear hK KK hcv
 refine ch36 ?_
 refine wpAnyH_ready (rs := [10]) (by kernel_rfl) (by simp) ?_
 refine AllReadyH.cons rfl (fun KK hK => ?_) AllReadyH.nil
 go_simp
 refine (AN.out w.heap.size c1 w1 (Nat.le_refl _) B1.out.size R1.out).mono ?_
 rintro e w2 ⟨⟨g2, c2, rfl, hg2, hr2⟩, hb2⟩
 have R2 : Hid (RowM w2 g2 16 c2 HF) := hr2
 have B2 : Hid (Below w.heap.size w w2) := B1.out.trans hb2
 replace H : SealAt w2 q G s (.slice (some ⟨xb, xo, none⟩) m xc) := HS.out.below B2.out
 clear hr2 hb2 hg2 R1 B1 AN
 refine hK.out _ _ H (fun _ => ?_)
 clear hK KK
 refine ch36 ?_
 refine tkH (i := 11) (v := .slice (some ⟨g2, 0, none⟩) 16 c2) rfl (by kernel_rfl) (by rfl) ?_ H ?_
 ·intro w' hSw; go_simp
 refine ch36 ?_
 clear H
 refine wpAnyH_done (by kernel_rfl) ?_ _
 refine NoPanic.normal ?_
 go_upto_region 2 with fail
 have H2 : SealAt w2 q G s (.slice (some ⟨xb, xo, none⟩) m xc) := HS.out.below B2.out
 have H := H2.drew
 refine wp_region_noPanic ?_
 refine wp_region_held_drew (S := fun w' => SealAt w' q G s (.slice (some ⟨xb, xo, none⟩) m xc)) (by kernel_rfl) H (fun _ => ?_)
 refine tkH (i := 0) (v := .pointer (some ⟨q, 0, none⟩)) rfl (by kernel_rfl) (by rfl) ?_ H ?_
 ·intro w' hSw; go_simp
 refine ch36 ?_
 refine tkH (i := 1) (v := .pointer (some ⟨q, 0, none⟩)) rfl (by kernel_rfl) (by rfl) ?_ H ?_
 ·intro w' hSw; go_simp
 refine ch36 ?_
 refine tkH (i := 2) (v := .pointer (some ⟨q, 0, none⟩)) rfl (by kernel_rfl) (by rfl) ?_ H ?_
 ·intro w' hSw; go_simp
 refine ch36 ?_
 refine tkH (i := 3) (v := .pointer (some ⟨q, 32, none⟩)) rfl (by kernel_rfl) (by rfl) ?_ H ?_
 ·intro w' hSw; go_simp
 refine ch36 ?_
 refine tkH (i := 4) (v := .slice (some ⟨q, 32, none⟩) 32 32) rfl (by kernel_rfl) (by rfl) ?_ H ?_
 ·intro w' hSw; go_simp
 refine ch36 ?_
 refine tkH (i := 6) (v := .slice (some ⟨g2, 0, none⟩) 16 c2) rfl (by kernel_rfl) (by rfl) ?_ H ?_
 ·intro w' hSw; go_simp
 refine ch36 ?_
 refine tkH (i := 7) (v := .pointer (some ⟨q, 0, none⟩)) rfl (by kernel_rfl) (by rfl) ?_ H ?_
 ·intro w' hSw; go_simp
 refine ch36 ?_
 refine tkH (i := 8) (v := .pointer (some ⟨q, 0, none⟩)) rfl (by kernel_rfl) (by rfl) ?_ H ?_
 ·intro w' hSw; go_simp
 refine ch36 ?_
 refine tkH (i := 9) (v := .pointer (some ⟨q, 65, none⟩)) rfl (by kernel_rfl) (by rfl) ?_ H ?_
 ·intro w' hSw; go_simp
 refine ch36 ?_
 refine tkH (i := 10) (v := .slice (some ⟨xb, xo, none⟩) m xc) rfl (by kernel_rfl) (by rfl) ?_ H ?_
 ·intro w' hSw; have := hSw.extra; clear hSw; go_simp
 refine ch36 ?_
 refine tkH (i := 11) (v := .slice (some ⟨b, o, none⟩) n c) rfl (by kernel_rfl) (by rfl) ?_ H ?_
 ·intro w' hSw; go_simp
 refine ch36 ?_
 have B3 : Hid (Below w.heap.size w w2.drew) := B2.out.drew
 have R3 : Hid (RowM w2.drew g2 16 c2 HF) := R2.out
 clear R2 B2 H2
 generalize w2.drew = w3 at *
 refine wpAnyH_ready (rs := [5, 12]) (by kernel_rfl) (by simp) ?_
 refine AllReadyH.cons rfl (fun KK hK => ?_) (AllReadyH.cons rfl (fun KK hK => ?_) AllReadyH.nil)
 ·go_simp
  refine (NM.out w3 (H.part 32 32 (by omega)) (HT.out.below B3.out)).mono ?_
  rintro e w5 ⟨rfl, hb5⟩
  have B5 : Hid (Below w.heap.size w w5) := B3.out.trans (hb5.mono B3.out.size)
  replace H : SealAt w5 q G s (.slice (some ⟨xb, xo, none⟩) m xc) := HS.out.below B5.out
  have R5 : Hid (RowM w5 g2 16 c2 HF) := R3.out.below hb5
  refine hK.out _ _ H (fun _ => ?_)
  clear hK KK hb5 B3 R3
  refine ch36 ?_
  have A6 : Below w5.heap.size w5 (w5.alloc (.cells #[.slice (some ⟨g2, 0, none⟩) 16 c2, .slice (some ⟨xb, xo, none⟩) m xc, .slice (some ⟨b, o, none⟩) n c] 41)) := (Below.refl _ _).alloc (Nat.le_refl _) _
  have TR6 : Hid (Trip (w5.alloc (.cells #[.slice (some ⟨g2, 0, none⟩) 16 c2, .slice (some ⟨xb, xo, none⟩) m xc, .slice (some ⟨b, o, none⟩) n c] 41)) w5.heap.size (.slice (some ⟨g2, 0, none⟩) 16 c2) (.slice (some ⟨xb, xo, none⟩) m xc) (.slice (some ⟨b, o, none⟩) n c)) := Trip.made _ _ _ _ _
  have B6 : Hid (Below w.heap.size w (w5.alloc (.cells #[.slice (some ⟨g2, 0, none⟩) 16 c2, .slice (some ⟨xb, xo, none⟩) m xc, .slice (some ⟨b, o, none⟩) n c] 41))) := B5.out.trans (A6.mono B5.out.size)
  have R6 : Hid (RowM (w5.alloc (.cells #[.slice (some ⟨g2, 0, none⟩) 16 c2, .slice (some ⟨xb, xo, none⟩) m xc, .slice (some ⟨b, o, none⟩) n c] 41)) g2 16 c2 HF) := R5.out.below A6
  clear A6 B5 R5
  refine wpAnyH_ready (rs := [12]) (by kernel_rfl) (by simp) ?_
  refine AllReadyH.cons rfl (fun KK hK => ?_) AllReadyH.nil
  go_simp
  replace H := HS.out.below B6.out
  generalize w5.alloc (.cells #[.slice (some ⟨g2, 0, none⟩) 16 c2, .slice (some ⟨xb, xo, none⟩) m xc, .slice (some ⟨b, o, none⟩) n c] 41) = w6 at *
  generalize w5.heap.size = sb at *
  refine hK.out _ _ H (fun _ => ?_)
  clear hK KK
  refine ch36 ?_
  refine wpAnyH_ready (rs := [13]) (by kernel_rfl) (by simp) ?_
  refine AllReadyH.cons rfl (fun KK hK => ?_) AllReadyH.nil
  go_simp
  refine (CO.out sb g2 c2 w6 TR6.out R6.out.code (HX.out.below B6.out) (HC.out.below B6.out)).mono ?_
  rintro e w7 ⟨⟨g7, c7, rfl, ho7⟩, hb7⟩
  have O7 : Hid (Own8 w7 g7 (16 + m + n) (Sha.cat 16 HF (Sha.cat m fx f))) := ho7
  have B7 : Hid (Below w.heap.size w w7) := B6.out.trans (hb7.mono B6.out.size)
  replace H : SealAt w7 q G s (.slice (some ⟨xb, xo, none⟩) m xc) := HS.out.below B7.out
  clear ho7 hb7 B6 R6 TR6
  refine hK.out _ _ H (fun _ => ?_)
  clear hK KK
  refine ch36 ?_
  refine wpAnyH_ready (rs := [14]) (by kernel_rfl) (by simp) ?_
  refine AllReadyH.cons rfl (fun KK hK => ?_) AllReadyH.nil
  go_simp
  refine (MA.out g7 c7 w7 O7.out (HT.out.below B7.out)).mono ?_
  rintro e w8 ⟨rfl, hb8⟩
  have B8 : Hid (Below w.heap.size w w8) := B7.out.trans (hb8.mono B7.out.size)
  replace H : SealAt w8 q G s (.slice (some ⟨xb, xo, none⟩) m xc) := HS.out.below B8.out
  clear hb8 B7 O7
  refine hK.out _ _ H (fun _ => ?_)
  clear hK KK
  refine ch36 ?_
  refine tkH (i := 15) (v := .string MS) rfl (by kernel_rfl) (by rfl) ?_ H ?_
  ·intro w' hSw; go_simp
  refine ch36 ?_
  clear H HS HX HC HT CO MA NM
  refine wpAnyH_done (by kernel_rfl) ?_ _
  refine NoPanic.normal ?_
  obtain ⟨w9, c9, hcv9, hr9, hb9⟩ := bytesOfR TT w8
  rw [hts] at hcv9 hr9
  have R9 : Hid (RowM w9 w8.heap.size 16 c9 (strB TT)) := hr9
  have B9 : Hid (Below w.heap.size w w9) := B8.out.trans (hb9.mono B8.out.size)
  have L9 : Hid (w.heap.size ≤ w8.heap.size) := B8.out.size
  clear hr9 hb9 B8
  go_wp2
  go_ret
  exact ⟨⟨_, c9, rfl, L9.out, R9.out⟩, B9.out⟩
 ·have A4 : Below w3.heap.size w3 (w3.alloc (.cells #[.slice (some ⟨g2, 0, none⟩) 16 c2, .slice (some ⟨xb, xo, none⟩) m xc, .slice (some ⟨b, o, none⟩) n c] 41)) := (Below.refl _ _).alloc (Nat.le_refl _) _
  have TR4 : Hid (Trip (w3.alloc (.cells #[.slice (some ⟨g2, 0, none⟩) 16 c2, .slice (some ⟨xb, xo, none⟩) m xc, .slice (some ⟨b, o, none⟩) n c] 41)) w3.heap.size (.slice (some ⟨g2, 0, none⟩) 16 c2) (.slice (some ⟨xb, xo, none⟩) m xc) (.slice (some ⟨b, o, none⟩) n c)) := Trip.made _ _ _ _ _
  have B4 : Hid (Below w.heap.size w (w3.alloc (.cells #[.slice (some ⟨g2, 0, none⟩) 16 c2, .slice (some ⟨xb, xo, none⟩) m xc, .slice (some ⟨b, o, none⟩) n c] 41))) := B3.out.trans (A4.mono B3.out.size)
  have R4 : Hid (RowM (w3.alloc (.cells #[.slice (some ⟨g2, 0, none⟩) 16 c2, .slice (some ⟨xb, xo, none⟩) m xc, .slice (some ⟨b, o, none⟩) n c] 41)) g2 16 c2 HF) := R3.out.below A4
  clear A4 B3 R3
  go_simp
  replace H := HS.out.below B4.out
  generalize w3.alloc (.cells #[.slice (some ⟨g2, 0, none⟩) 16 c2, .slice (some ⟨xb, xo, none⟩) m xc, .slice (some ⟨b, o, none⟩) n c] 41) = w4 at *
  generalize w3.heap.size = sb at *
  refine hK.out _ _ H (fun _ => ?_)
  clear hK KK
  refine ch36 ?_
  refine wpAnyH_ready (rs := [5]) (by kernel_rfl) (by simp) ?_
  refine AllReadyH.cons rfl (fun KK hK => ?_) AllReadyH.nil
  go_simp
  refine (NM.out w4 (H.part 32 32 (by omega)) (HT.out.below B4.out)).mono ?_
  rintro e w6 ⟨rfl, hb6⟩
  have B6 : Hid (Below w.heap.size w w6) := B4.out.trans (hb6.mono B4.out.size)
  replace H : SealAt w6 q G s (.slice (some ⟨xb, xo, none⟩) m xc) := HS.out.below B6.out
  have R6 : Hid (RowM w6 g2 16 c2 HF) := R4.out.below hb6
  have TR6 : Hid (Trip w6 sb (.slice (some ⟨g2, 0, none⟩) 16 c2) (.slice (some ⟨xb, xo, none⟩) m xc) (.slice (some ⟨b, o, none⟩) n c)) := TR4.out.below hb6
  clear hb6 B4 R4 TR4
  refine hK.out _ _ H (fun _ => ?_)
  clear hK KK
  refine ch36 ?_
  refine wpAnyH_ready (rs := [13]) (by kernel_rfl) (by simp) ?_
  refine AllReadyH.cons rfl (fun KK hK => ?_) AllReadyH.nil
  go_simp
  refine (CO.out sb g2 c2 w6 TR6.out R6.out.code (HX.out.below B6.out) (HC.out.below B6.out)).mono ?_
  rintro e w7 ⟨⟨g7, c7, rfl, ho7⟩, hb7⟩
  have O7 : Hid (Own8 w7 g7 (16 + m + n) (Sha.cat 16 HF (Sha.cat m fx f))) := ho7
  have B7 : Hid (Below w.heap.size w w7) := B6.out.trans (hb7.mono B6.out.size)
  replace H : SealAt w7 q G s (.slice (some ⟨xb, xo, none⟩) m xc) := HS.out.below B7.out
  clear ho7 hb7 B6 R6 TR6
  refine hK.out _ _ H (fun _ => ?_)
  clear hK KK
  refine ch36 ?_
  refine wpAnyH_ready (rs := [14]) (by kernel_rfl) (by simp) ?_
  refine AllReadyH.cons rfl (fun KK hK => ?_) AllReadyH.nil
  go_simp
  refine (MA.out g7 c7 w7 O7.out (HT.out.below B7.out)).mono ?_
  rintro e w8 ⟨rfl, hb8⟩
  have B8 : Hid (Below w.heap.size w w8) := B7.out.trans (hb8.mono B7.out.size)
  replace H : SealAt w8 q G s (.slice (some ⟨xb, xo, none⟩) m xc) := HS.out.below B8.out
  clear hb8 B7 O7
  refine hK.out _ _ H (fun _ => ?_)
  clear hK KK
  refine ch36 ?_
  refine tkH (i := 15) (v := .string MS) rfl (by kernel_rfl) (by rfl) ?_ H ?_
  ·intro w' hSw; go_simp
  refine ch36 ?_
  clear H HS HX HC HT CO MA NM
  refine wpAnyH_done (by kernel_rfl) ?_ _
  refine NoPanic.normal ?_
  obtain ⟨w9, c9, hcv9, hr9, hb9⟩ := bytesOfR TT w8
  rw [hts] at hcv9 hr9
  have R9 : Hid (RowM w9 w8.heap.size 16 c9 (strB TT)) := hr9
  have B9 : Hid (Below w.heap.size w w9) := B8.out.trans (hb9.mono B8.out.size)
  have L9 : Hid (w.heap.size ≤ w8.heap.size) := B8.out.size
  clear hr9 hb9 B8
  go_wp2
  go_ret
  exact ⟨⟨_, c9, rfl, L9.out, R9.out⟩, B9.out⟩
end Go.Proofs.YtiamaoihachhgaaGreatDoor
