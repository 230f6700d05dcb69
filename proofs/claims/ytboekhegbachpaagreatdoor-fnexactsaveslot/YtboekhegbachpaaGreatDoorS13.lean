/-
  Texts of the proof, joined: Filled, Hashed.
-/
import Derived.Test.YtboekhegbachpaaGreatDoorS10
import Derived.Test.YtboekhegbachpaaGreatDoorS12
import Derived.Test.YtboekhegbachpaaGreatDoorS07
import Derived.Deep.RegionHeld3
import Derived.Deep.RegionHeldLaw
import Derived.Deep.Cut
import Derived.Deep.CutRange
import Derived.Deep.DeepCutAuto
namespace Go.Proofs.YtboekhegbachpaaGreatDoor
open Go.ChangeShapes Go.WideShapes Go.ChangeAt Go.RowKit
theorem cell3 (w : World) (x y z : Value) (t : TypeId) (k : Nat) (hk : k < 3) : (w.alloc (.cells #[x, y, z] t)).cell? ⟨w.heap.size, k, none⟩ = some (if k = 0 then x else if k = 1 then y else z) := by
 rcases (show k = 0 ∨ k = 1 ∨ k = 2 by omega) with rfl | rfl | rfl <;> simp
set_option maxRecDepth 100000 in
set_option maxHeartbeats 2000000 in
theorem filledUp_any (b o n c : Nat) (f : Nat → Nat) (hn : n ≤ 1200000) (w : World) (h : Code8 w (some ⟨b, o, none⟩) n f) :
  Calls Tryz.prog 113 #[.slice (some ⟨b, o, none⟩) n c] w fun e w' => RetO w.heap.size w' e (Sha.fullN n) (Sha.fullF n f) ∧ Below w.heap.size w w' := by
 obtain ⟨r, hr⟩ : ∃ r, r = n % 64 := ⟨_, rfl⟩
 obtain ⟨z, hz⟩ : ∃ z, z = (119 - r) % 64 := ⟨_, rfl⟩
 have e1 : (n : Int) % 64 = (r : Int) := by omega
 have e1t : (n : Int).tmod 64 = (r : Int) := by rw [Int.tmod_eq_emod_of_nonneg (by omega)]; omega
 have e2 : (119 - (r : Int)) % 64 = (z : Int) := by omega
 have e2t : (119 - (r : Int)).tmod 64 = (z : Int) := by rw [Int.tmod_eq_emod_of_nonneg (by omega)]; omega
 have hr64 : r < 64 := by omega
 have hz64 : z < 64 := by omega
 have HL : Hid (n + 1 + z + 8 = Sha.fullN n) := by show _ = _; unfold Sha.fullN; omega
 have m1 := mkBytes z (by omega)
 have HC : Hid (Code8 w (some ⟨b, o, none⟩) n f) := h
 obtain ⟨ns, hns⟩ : ∃ ns : Nat → Nat, ns = fun k => if k = 0 then n else if k = 1 then 1 else z := ⟨_, rfl⟩
 obtain ⟨fs, hfs⟩ : ∃ fs : Nat → Nat → Nat, fs = fun k => if k = 0 then f else if k = 1 then (fun _ => 128) else (fun _ => 0) := ⟨_, rfl⟩
 have hN : catN ns 3 = n + 1 + z := by rw [hns]; show 0 + n + 1 + z = _; omega
 have HF : Hid (∀ j, j < Sha.fullN n → numF (n + 1 + z) 8 (8 * n) (catF ns fs 3) j = Sha.fullF n f j) := fun j hj => by
  have hl := HL.out
  unfold numF Sha.fullF
  by_cases h1 : j < n + 1 + z
  ·rw [if_pos h1]
   rw [hns, hfs]
   show Sha.cat (0 + n + 1) (Sha.cat (0 + n) (Sha.cat 0 (fun _ => 0) f) (fun _ => 128)) (fun _ => 0) j = _
   unfold Sha.cat
   by_cases h2 : j < n
   ·rw [if_pos (by omega), if_pos (by omega), if_neg (by omega), if_pos h2]; rfl
   ·rw [if_neg h2]
    by_cases h3 : j = n
    ·rw [if_pos (by omega), if_neg (by omega), if_pos h3]
    ·rw [if_neg (by omega), if_neg h3, if_pos (by omega)]
  ·rw [if_neg h1, if_neg (by omega), if_neg (by omega), if_neg (by omega), ← hl]
   rw [show 8 - 1 - (j - (n + 1 + z)) = n + 1 + z + 8 - 1 - j from by omega]
 have W3 : Hid (∀ wa wb : World, Below w.heap.size w wa → wa.heap.size = w.heap.size + 1 + 1 → Code8 wa (some ⟨w.heap.size, 0, none⟩) 1 (fun _ => 128) → Code8 wa (some ⟨w.heap.size + 1, 0, none⟩) z (fun _ => 0) → wb = wa.alloc (.cells #[.slice (some ⟨b, o, none⟩) n c, .slice (some ⟨w.heap.size, 0, none⟩) 1 1, .slice (some ⟨w.heap.size + 1, 0, none⟩) z z] 84) →
   Calls Tryz.prog 90 #[.slice (some ⟨w.heap.size + 1 + 1, 0, none⟩) 3 3] wb fun e w' => RetO w.heap.size w' e (n + 1 + z) (catF ns fs 3) ∧ Below w.heap.size w w') := fun wa wb hB hsz hk1 hk2 hwb => by
  have hA : Below wa.heap.size wa wb := by rw [hwb]; exact (Below.refl _ _).alloc (Nat.le_refl _) _
  have P : Parts wb (w.heap.size + 1 + 1) 3 (fun k => if k = 0 then some ⟨b, o, none⟩ else if k = 1 then some ⟨w.heap.size, 0, none⟩ else some ⟨w.heap.size + 1, 0, none⟩) ns (fun k => if k = 0 then c else if k = 1 then 1 else z) fs := by
   refine ⟨fun k hk => ?_, fun k hk => ?_, fun k hk => ?_⟩
   ·rw [hwb, ← hsz, cell3 _ _ _ _ _ k hk, hns]
    rcases (show k = 0 ∨ k = 1 ∨ k = 2 by omega) with rfl | rfl | rfl <;> simp
   ·rw [hns, hfs]
    rcases (show k = 0 ∨ k = 1 ∨ k = 2 by omega) with rfl | rfl | rfl
    ·exact (HC.out.below hB).below hA
    ·exact hk1.below hA
    ·exact hk2.below hA
   ·rcases (show k = 0 ∨ k = 1 ∨ k = 2 by omega) with rfl | rfl | rfl
    ·exact .inr ⟨b, o, rfl⟩
    ·exact .inr ⟨_, 0, rfl⟩
    ·exact .inr ⟨_, 0, rfl⟩
  have := concatN_any (w.heap.size + 1 + 1) 3 _ ns _ fs (by omega) (by omega) (by omega) wb P
  rw [hN] at this
  have hs : w.heap.size ≤ wb.heap.size := Nat.le_trans hB.size hA.size
  refine this.mono ?_
  rintro e w' ⟨⟨g, cc, rfl, ho⟩, hb'⟩
  exact ⟨⟨g, cc, rfl, ownsRow_mono ho hs⟩, (hB.trans (hA.mono hB.size)).trans (hb'.mono hs)⟩
 have AN : Hid (∀ (g c : Nat) (w1 : World), w.heap.size ≤ w1.heap.size → w1.ownsRow w.heap.size 5 1 (.slice (some ⟨g, 0, none⟩) (n + 1 + z) c) (n + 1 + z) (bv (n + 1 + z) (catF ns fs 3)) → Calls Tryz.prog 71 #[.slice (some ⟨g, 0, none⟩) (n + 1 + z) c, .int .i64 ((8 * n : Nat) : Int), .int .i64 8] w1 fun e w' => RetO w.heap.size w' e (Sha.fullN n) (Sha.fullF n f) ∧ Below w.heap.size w1 w') := fun g c w1 hs ho => by
  have := appendNumber_any w.heap.size g (n + 1 + z) c (8 * n) 8 (catF ns fs 3) (by omega) (by omega) w1 hs ho
  refine this.mono ?_
  rintro e w' ⟨⟨g', c', rfl, ho'⟩, hb'⟩
  rw [HL.out] at ho' ⊢
  rw [bv_congr HF.out] at ho'
  exact ⟨⟨g', c', rfl, ho'⟩, hb'⟩
 have KB : Hid (Below w.heap.size w ((w.alloc (.cells #[.int .u8 128] 5)).alloc (.cells (madeCells #[.int .u8 0] z) 5))) := ((Below.refl _ _).alloc (Nat.le_refl _) _).alloc (by simp) _
 have K1 : Hid (Code8 ((w.alloc (.cells #[.int .u8 128] 5)).alloc (.cells (madeCells #[.int .u8 0] z) 5)) (some ⟨w.heap.size, 0, none⟩) 1 (fun _ => 128)) := Code8.below (fun i hi => ⟨_, 0, rfl, by rw [show 0 + i = 0 from by omega]; simp⟩) ((Below.refl _ _).alloc (Nat.le_refl _) _)
 have K2 : Hid (Code8 ((w.alloc (.cells #[.int .u8 128] 5)).alloc (.cells (madeCells #[.int .u8 0] z) 5)) (some ⟨w.heap.size + 1, 0, none⟩) z (fun _ => 0)) := by
  have := (World.rowIs_made (w.alloc (.cells #[.int .u8 128] 5)) (.int .u8 0) z 5)
  rw [show (w.alloc (.cells #[.int .u8 128] 5)).heap.size = w.heap.size + 1 from by simp] at this
  exact (Own8.ofRow (this.congr (fun j hj => rfl))).code
 have K3 : Hid (((w.alloc (.cells #[.int .u8 128] 5)).alloc (.cells (madeCells #[.int .u8 0] z) 5)).heap.size = w.heap.size + 1 + 1) := by show _ = _; simp
 have e8 : (8 : Int) * (n : Int) = ((8 * n : Nat) : Int) := by omega
 obtain ⟨n8, hn8⟩ : ∃ n8, n8 = 8 * n := ⟨_, rfl⟩
 rw [← hn8] at e8 AN
 have hn8' : n8 ≤ 9600000 := by omega
 clear h HC HF HL hr hz hns hfs hN hn8
 go_enter Tryz.func113, Tryz.ntmps113
 go_wp2_with fail
 refine (W3.out _ _ KB.out K3.out K1.out K2.out rfl).mono ?_
 rintro e w1 ⟨⟨g, cc, rfl, ho⟩, hb1⟩
 have HO : Hid (w1.ownsRow w.heap.size 5 1 (.slice (some ⟨g, 0, none⟩) (n + 1 + z) cc) (n + 1 + z) (bv (n + 1 + z) (catF ns fs 3))) := ho
 have HB1 : Hid (Below w.heap.size w w1) := hb1
 clear ho hb1 W3 KB K1 K2 K3
 go_wp2_with fail
 refine (AN.out g cc w1 HB1.out.size HO.out).mono ?_
 rintro e w2 ⟨⟨g2, c2, rfl, ho2⟩, hb2⟩
 have HO2 : Hid (w2.ownsRow w.heap.size 5 1 (.slice (some ⟨g2, 0, none⟩) (Sha.fullN n) c2) (Sha.fullN n) (bv (Sha.fullN n) (Sha.fullF n f))) := ho2
 have HB2 : Hid (Below w.heap.size w w2) := HB1.out.trans hb2
 clear ho2 hb2 HO HB1 AN
 go_wp2
 go_ret
 exact ⟨⟨g2, c2, rfl, HO2.out⟩, HB2.out⟩
theorem outB_num (v : Nat → Nat) (k j : Nat) (hj : j < 4 * k + 4) : numF (4 * k) 4 (v k) (Sha.outB v) j = Sha.outB v j := by
 unfold numF
 by_cases h : j < 4 * k
 ·rw [if_pos h]
 ·rw [if_neg h]
  unfold Sha.outB
  rw [show j / 4 = k from by omega, show 24 - 8 * (j % 4) = 8 * (4 - 1 - (j - 4 * k)) from by omega]
theorem idxDg {f : Nat → Nat} {k : Nat} (h : k < 8) (w : World) : (Instr.index 165 (.agg (wA 8 f)) (.int .i64 (k : Int))).run Tryz.prog w = .ok (.int .u32 (f k : Nat)) w :=
 run_index_flat Tryz.underlying165 Tryz.underlying100 rfl (by kernel_rfl) h (wA_at h) w
set_option maxRecDepth 100000 in
set_option maxHeartbeats 2000000 in
theorem text_any (v : Nat → Nat) (hv : ∀ j, v j < 4294967296) (w : World) :
  Calls Tryz.prog 115 #[.agg (wA 8 v)] w fun e w' => e = .returned (.string (kstr (Sha.outB v) 0 32)) ∧ Below w.heap.size w w' := by
 have HV : Hid (∀ j, v j < 4294967296) := hv
 have IX : Hid (∀ (k : Nat) (w : World), k < 8 → (Instr.index 165 (.agg (wA 8 v)) (.int .i64 (k : Int))).run Tryz.prog w = .ok (.int .u32 ((v k : Nat) : Int)) w) := fun k w hk => idxDg hk w
 have AN : Hid (∀ (g c k : Nat) (w1 : World), k < 8 → w.heap.size + 1 ≤ w1.heap.size → w1.ownsRow (w.heap.size + 1) 5 1 (.slice (some ⟨g, 0, none⟩) (4 * k) c) (4 * k) (bv (4 * k) (Sha.outB v)) → Calls Tryz.prog 71 #[.slice (some ⟨g, 0, none⟩) (4 * k) c, .int .i64 ((v k : Nat) : Int), .int .i64 4] w1 fun e w' => RetO (w.heap.size + 1) w' e (4 * k + 4) (Sha.outB v) ∧ Below (w.heap.size + 1) w1 w') := fun g c k w1 hk hs ho => by
  refine (appendNumber_any (w.heap.size + 1) g (4 * k) c (v k) 4 (Sha.outB v) (by omega) (by omega) w1 hs ho).mono ?_
  rintro e w' ⟨⟨g', c', rfl, ho'⟩, hb'⟩
  rw [bv_congr (g := Sha.outB v) (fun j hj => outB_num v k j hj)] at ho'
  exact ⟨⟨g', c', rfl, ho'⟩, hb'⟩
 have R0 : Hid (RowW (w.alloc (.cells (wA 8 v) 165)) w.heap.size 165 8 v) := RowW.boxedAt rfl _ _ _
 have EA : Hid ((wv 8 v).toArray = wA 8 v) := rfl
 clear hv
 generalize wA 8 v = VA at *
 go_enter Tryz.func115, Tryz.ntmps115
 obtain ⟨wm, hmk, hown, hBm⟩ := mkRoom 32 (by omega) (w.alloc (.cells VA 165))
 replace hmk : (Instr.makeSlice 84 (.int .i64 0) (.int .i64 32)).run Tryz.prog (w.alloc (.cells VA 165)) = .ok (.slice (some ⟨w.heap.size + 1, 0, none⟩) 0 32) wm := by
  have e : (w.alloc (.cells VA 165)).heap.size = w.heap.size + 1 := by simp
  rw [e] at hmk; exact hmk
 have e1 : (w.alloc (.cells VA 165)).heap.size = w.heap.size + 1 := by simp
 rw [e1] at hown
 have HO : Hid (wm.ownsRow (w.heap.size + 1) 5 1 (.slice (some ⟨w.heap.size + 1, 0, none⟩) 0 32) 0 []) := hown
 have R1 : Hid (RowW wm w.heap.size 165 8 v) := R0.out.below hBm
 have HB1 : Hid (Below w.heap.size w wm) := ((Below.refl _ _).alloc (Nat.le_refl _) _).trans (hBm.mono (by rw [e1]; omega))
 have HS : Hid (w.heap.size + 1 ≤ wm.heap.size) := by have := hBm.size; rw [e1] at this; exact this
 clear hown hBm e1 R0
 go_wp2_with (refine wpList_load_mid rfl 165 (.tmp 1) rfl w.heap.size 0 rfl (wv 8 v) _ R1.out.range Tryz.underlying165 rfl (by rw [wv_length]; exact Tryz.size8w) ?_)
 rw [EA.out]
 clear EA R1 hmk
 go_loopw [3, 5, 8] (fun s _ i wr => ∃ k g c : Nat, k ≤ 8 ∧ i = .int .i64 k ∧ s = .slice (some ⟨g, 0, none⟩) (4 * k) c ∧ wr.ownsRow (w.heap.size + 1) 5 1 (.slice (some ⟨g, 0, none⟩) (4 * k) c) (4 * k) (bv (4 * k) (Sha.outB v)) ∧ Below w.heap.size w wr ∧ w.heap.size + 1 ≤ wr.heap.size) (fun _ _ i _ => 8 - (intOf i).toNat)
 case atStart => exact ⟨0, _, _, by omega, rfl, rfl, HO.out, HB1.out, HS.out⟩
 case round =>
  clear HO HB1 HS
  obtain ⟨k, g, c, hk, rfl, rfl, hown, hb, hs⟩ := hrel
  have HO : Hid (wr.ownsRow (w.heap.size + 1) 5 1 (.slice (some ⟨g, 0, none⟩) (4 * k) c) (4 * k) (bv (4 * k) (Sha.outB v))) := hown
  have HB : Hid (Below w.heap.size w wr) := hb
  have HS : Hid (w.heap.size + 1 ≤ wr.heap.size) := hs
  clear hown hb hs
  by_cases hlt : k < 8
  ·have hlt' : (k : Int) < 8 := by omega
   have ix : ∀ w : World, (Instr.index 165 (.agg VA) (.int .i64 (k : Int))).run Tryz.prog w = .ok (.int .u32 ((v k : Nat) : Int)) w := fun w => IX.out k w hlt
   have hvk : IntKind.i64.wrap ((v k : Nat) : Int) = ((v k : Nat) : Int) := by rw [IntKind.wrap_i64]; have := HV.out k; omega
   have AK : Hid (Calls Tryz.prog 71 #[.slice (some ⟨g, 0, none⟩) (4 * k) c, .int .i64 ((v k : Nat) : Int), .int .i64 4] wr fun e w' => RetO (w.heap.size + 1) w' e (4 * k + 4) (Sha.outB v) ∧ Below (w.heap.size + 1) wr w') := AN.out g c k wr hlt HS.out HO.out
   generalize v k = vk at *
   go_wp2_with fail
   refine AK.out.mono ?_
   rintro e w1 ⟨⟨g2, c2, rfl, ho2⟩, hb2⟩
   have HO2 : Hid (w1.ownsRow (w.heap.size + 1) 5 1 (.slice (some ⟨g2, 0, none⟩) (4 * (k + 1)) c2) (4 * (k + 1)) (bv (4 * (k + 1)) (Sha.outB v))) := ho2
   have HB2 : Hid (Below w.heap.size w w1) := HB.out.trans (hb2.mono (by omega))
   have HS2 : Hid (w.heap.size + 1 ≤ w1.heap.size) := Nat.le_trans HS.out hb2.size
   clear ho2 hb2 HO HB HS AK
   go_wp2
   go_roundw
   case rel => exact ⟨k + 1, g2, c2, by omega, by go_num, rfl, HO2.out, HB2.out, HS2.out⟩
   case measure => simp [intOf]; omega
  ·obtain rfl : k = 8 := by omega
   obtain ⟨g', c', hgc, e', ho⟩ := own8_of_own HO.out (by intro h; cases h)
   cases e'
   have cv := kstr_of_code (c := c) ho.code
   generalize hT : kstr (Sha.outB v) 0 (4 * 8) = T at cv
   have HT : Hid (kstr (Sha.outB v) 0 32 = T) := hT
   clear ho HO hT
   go_wp2
   go_ret
   exact ⟨by rw [HT.out]; rfl, HB.out⟩
end Go.Proofs.YtboekhegbachpaaGreatDoor
namespace Go.Proofs.YtboekhegbachpaaGreatDoor
open Go.ChangeShapes Go.WideShapes Go.ChangeAt Go.RowKit
def hashS (n : Nat) (f : Nat → Nat) : ByteArray := kstr (Sha.hash n f) 0 32
theorem hashS_size (n : Nat) (f : Nat → Nat) : (hashS n f).size = 32 := kstr_size _ _ _
def lenH : Value → Nat
 | .slice _ n _ => n
 | _ => 0
def HSt (w0 w' : World) (sb g L : Nat) (F v : Nat → Nat) : Prop := RowW w' sb 165 8 v ∧ Own8 w' g L F ∧ Below w0.heap.size w0 w'
theorem HSt.below {w0 w' w'' : World} {sb g L : Nat} {F v : Nat → Nat} (h : HSt w0 w' sb g L F v) (hb : Below w'.heap.size w' w'') : HSt w0 w'' sb g L F v := ⟨h.1.below hb, h.2.1.below hb, h.2.2.trans (hb.mono h.2.2.size)⟩
theorem HSt.drew {w0 w' : World} {sb g L : Nat} {F v : Nat → Nat} (h : HSt w0 w' sb g L F v) : HSt w0 w'.drew sb g L F v := ⟨h.1, h.2.1, h.2.2.drew⟩
theorem onlyB_setCellsH {b : Nat} {a : World} (vs : List Value) : ∀ (o : Nat) (w : World), OnlyB b a w → OnlyB b a (w.setCells b o vs) := by
 induction vs with
 | nil => intro o w h; exact h
 | cons v vs ih => intro o w h; exact ih (o + 1) _ (h.setCell o v)
theorem HSt.store {w0 w' : World} {sb g L : Nat} {F v : Nat → Nat} (h : HSt w0 w' sb g L F v) (h1 : g ≠ sb) (h2 : w0.heap.size ≤ sb) (v' : Nat → Nat) : HSt w0 (w'.setCells sb 0 (wv 8 v')) sb g L F v' := by
 have X1 : OnlyB sb w' (w'.setCells sb 0 (wv 8 v')) := onlyB_setCellsH _ _ _ (OnlyB.refl _ _)
 exact ⟨h.1.stored v', h.2.1.onlyB X1 h1, below_setCells h2 _ _ _ h.2.2⟩
set_option maxRecDepth 100000 in
set_option maxHeartbeats 4000000 in
theorem hashed_any (b o n c : Nat) (f : Nat → Nat) (hf : ∀ i, f i < 256) (hn : n ≤ 1200000) (w : World) (h : Code8 w (some ⟨b, o, none⟩) n f) (ht : Tabs w) :
  Calls Tryz.prog 102 #[.slice (some ⟨b, o, none⟩) n c] w fun e w' => e = .returned (.string (hashS n f)) ∧ Below w.heap.size w w' := by
 obtain ⟨L, hL⟩ : ∃ L, L = Sha.fullN n := ⟨_, rfl⟩
 obtain ⟨F, hF⟩ : ∃ F, F = Sha.fullF n f := ⟨_, rfl⟩
 obtain ⟨m, hm⟩ : ∃ m, m = Sha.fullN n / 64 := ⟨_, rfl⟩
 have hLm : L = 64 * m := by rw [hL, hm]; unfold Sha.fullN; omega
 have HLm : Hid (L = 64 * m) := hLm
 have lF : ∀ j, F j < 256 := fun j => by rw [hF]; exact Sha.fullF_lt hf j
 have HH : Hid (hashS n f = kstr (Sha.outB (Sha.hashTo F m)) 0 32) := by show _ = _; rw [hF, hm]; rfl
 have FU : Hid (∀ w : World, Code8 w (some ⟨b, o, none⟩) n f → Calls Tryz.prog 113 #[.slice (some ⟨b, o, none⟩) n c] w fun e w' => RetO w.heap.size w' e L F ∧ Below w.heap.size w w') := fun w h => by rw [hL, hF]; exact filledUp_any b o n c f hn w h
 have AF : Hid (∀ (i g cr : Nat) (w : World), 64 ≤ cr → Code8 w (some ⟨g, 64 * i, none⟩) 64 (fun j => F (64 * i + j)) → Tabs w → Calls Tryz.prog 114 #[.agg (wA 8 (Sha.hashTo F i)), .slice (some ⟨g, 64 * i, none⟩) 64 cr] w fun e w' => e = .returned (.agg (wA 8 (Sha.hashTo F (i + 1)))) ∧ Below w.heap.size w w') := fun i g cr w hc h ht => after_any (Sha.hashTo F i) g (64 * i) 64 cr _ (fun j => lF _) (Nat.le_refl _) hc w h ht
 have TX : Hid (∀ w : World, Calls Tryz.prog 115 #[.agg (wA 8 (Sha.hashTo F m))] w fun e w' => e = .returned (.string (hashS n f)) ∧ Below w.heap.size w w') := fun w => by rw [HH.out]; exact text_any _ (Sha.hashTo_lt F m) w
 have HC : Hid (Code8 w (some ⟨b, o, none⟩) n f) := h
 have HT : Hid (Tabs w) := ht
 have TR : Hid (w.rangeAt 5 0 (wv 8 Sha.h0)) := fun j v hv => by
  have hj : j < 8 := by have := (List.getElem?_eq_some_iff.1 hv).1; rwa [wv_length] at this
  rw [wv_at hj] at hv
  cases hv
  rw [Nat.zero_add]
  exact ht.1 j hj
 obtain ⟨D0, hD0⟩ : ∃ D, D = Sha.h0 := ⟨_, rfl⟩
 have HD : Hid (Sha.hashTo F 0 = D0) := by rw [hD0]; rfl
 rw [← hD0] at TR
 have z1 := Tryz.zero8w
 have Z0 : Hid (RowW (w.alloc (.cells (Array.replicate 8 (.int .u32 0)) 165)) w.heap.size 165 8 (fun _ => 0)) := RowW.zerosAt rfl _ _
 have EA : Hid ((wv 8 D0).toArray = wA 8 D0) := rfl
 have R1 : Hid (RowW ((w.alloc (.cells (Array.replicate 8 (.int .u32 0)) 165)).setCells w.heap.size 0 (wv 8 D0)) w.heap.size 165 8 D0) := Z0.out.stored D0
 have B1 : Hid (Below w.heap.size w ((w.alloc (.cells (Array.replicate 8 (.int .u32 0)) 165)).setCells w.heap.size 0 (wv 8 D0))) := below_setCells (Nat.le_refl _) _ _ _ ((Below.refl _ _).alloc (Nat.le_refl _) _)
 have S1 : Hid (w.heap.size < ((w.alloc (.cells (Array.replicate 8 (.int .u32 0)) 165)).setCells w.heap.size 0 (wv 8 D0)).heap.size) := R1.out.lt
 generalize hashS n f = HS at *
 have hm' : m ≤ 40000 := by rw [hm]; unfold Sha.fullN; omega
 clear h hf ht hL hF hm HH hD0 hLm
 go_enter Tryz.func102, Tryz.ntmps102
 go_wp2_with (first
  | (refine wpList_load_mid rfl 165 (.global 5) rfl 5 0 rfl (wv 8 D0) _ TR.out Tryz.underlying165 rfl (by rw [wv_length]; exact Tryz.size8w) ?_)
  | (refine wpList_store_mid rfl 165 (.tmp 3) (.tmp 5) rfl w.heap.size 0 (wA 8 D0) rfl rfl (by rw [wA_size]; exact Z0.out.there) (by rw [wA_size]; exact Tryz.size8w) (wA_one _ _) ?_; rw [wA_toList]; generalize (w.alloc (.cells (Array.replicate 8 (.int .u32 0)) 165)).setCells w.heap.size 0 (wv 8 D0) = wf at *))
 generalize (wv 8 D0).toArray = junk at *
 refine (FU.out _ (HC.out.below B1.out)).mono ?_
 rintro e w1 ⟨⟨g, c1, rfl, hown⟩, hb1⟩
 obtain ⟨g', c', ⟨hg, hmc⟩, e', ho⟩ := own8_of_own hown (by intro e; cases e)
 cases e'
 have hne : g ≠ w.heap.size := by have := S1.out; omega
 have HI : Hid (HSt w w1 w.heap.size g L F (Sha.hashTo F 0)) := ⟨by rw [HD.out]; exact R1.out.below hb1, ho, B1.out.trans (hb1.mono B1.out.size)⟩
 clear hown ho hb1 R1 B1 S1 FU HC TR Z0 EA z1 HD
 go_wp2_with fail
 go_loopw [4] (fun s wr => ∃ (i cr : Nat) (ad : Option Addr), i ≤ m ∧ s = .slice ad (L - 64 * i) cr ∧ (i < m → ad = some ⟨g, 64 * i, none⟩ ∧ L - 64 * i ≤ cr) ∧ HSt w wr w.heap.size g L F (Sha.hashTo F i)) (fun s _ => lenH s)
 case atStart => exact ⟨0, c1, _, by omega, rfl, fun _ => ⟨rfl, by omega⟩, HI.out⟩
 case round =>
  clear HI
  obtain ⟨i, cr, ad, hi, rfl, had, hst⟩ := hrel
  by_cases hlt : i < m
  ·obtain ⟨rfl, hcr⟩ := had hlt
   clear had
   obtain ⟨R, hR⟩ : ∃ R, R = L - 64 * i := ⟨_, rfl⟩
   rw [← hR] at hcr
   have hLm := HLm.out
   have HRe : Hid (R - 64 = L - 64 * (i + 1)) := by show _ = _; omega
   have HR0 : Hid (R = L - 64 * i) := hR
   rw [← hR]
   have hR64 : 64 ≤ R := by omega
   have hRL : 64 * i + 64 ≤ L := by omega
   clear hLm
   have x0 : (0 : Int) < (R : Int) := by omega
   have x1 : (64 : Int) ≤ (cr : Int) := by omega
   have x2 : (64 : Int) ≤ (R : Int) := by omega
   have AFi : Hid (∀ w' : World, HSt w w' w.heap.size g L F (Sha.hashTo F i) → Calls Tryz.prog 114 #[.agg (wA 8 (Sha.hashTo F i)), .slice (some ⟨g, 64 * i, none⟩) 64 cr] w' fun e w'' => e = .returned (.agg (wA 8 (Sha.hashTo F (i + 1)))) ∧ Below w'.heap.size w' w'') := fun w' h => AF.out i g cr w' (by omega) (code8_of (fun j hj => by
    have := h.2.1.cell (i := 64 * i + j) (by omega)
    exact this)) (HT.out.below h.2.2)
   have HST : Hid (HSt w wr w.heap.size g L F (Sha.hashTo F i)) := hst
   have EV : Hid ((wv 8 (Sha.hashTo F i)).toArray = wA 8 (Sha.hashTo F i)) := rfl
   generalize hV1 : Sha.hashTo F (i + 1) = V1 at *
   have HV1 : Hid (Sha.hashTo F (i + 1) = V1) := hV1
   clear hV1
   generalize Sha.hashTo F i = V0 at *
   clear hst hR AF
   go_upto_region 4 with fail
   have H : HSt w wr.drew w.heap.size g L F V0 := HST.out.drew
   clear HST
   refine wp_region_noPanic ?_
   refine wp_region_held_drew (S := fun w' => Own8 w' g L F ∧ Below w.heap.size w w') (by kernel_rfl) H.2 (fun _ => ?_)
   refine wpAnyH_take (i := 1) (v := .slice (some ⟨g, 64 * i, none⟩) R cr) rfl (by kernel_rfl) (by kernel_rfl) (by kernel_rfl) (fun _ _ _ h => h) (Or.inl ⟨by rfl, ?_⟩) H.2 ?_
   ·intro w hSw; go_simp
   change wpAnyH _ _ _ _ _ _ _ { tmps := #[_,_,_,_,_,_,_,_,_,_,_,_,_,_,_,_,_,_,_], defers := [] } _
   refine wpAnyH_take (i := 2) (v := .slice (some ⟨g, 64 * i, none⟩) 64 cr) rfl (by kernel_rfl) (by kernel_rfl) (by kernel_rfl) (fun _ _ _ h => h) (Or.inl ⟨by rfl, ?_⟩) H.2 ?_
   ·intro w hSw; go_simp
   change wpAnyH _ _ _ _ _ _ _ { tmps := #[_,_,_,_,_,_,_,_,_,_,_,_,_,_,_,_,_,_,_], defers := [] } _
   refine wpAnyH_ready (rs := [0]) (by kernel_rfl) (by simp) ?_
   refine AllReadyH.cons rfl (fun KK hK => ?_) AllReadyH.nil
   rw [if_pos (by rfl)]
   refine wp_load_mid 165 (.tmp 3) rfl w.heap.size 0 rfl (wv 8 V0) _ H.1.range Tryz.underlying165 rfl (by rw [wv_length]; exact Tryz.size8w) ?_
   refine hK.out _ _ H.2 (fun _ => ?_)
   clear hK KK
   rw [EV.out]
   change wpAnyH _ _ _ _ _ _ _ { tmps := #[_,_,_,_,_,_,_,_,_,_,_,_,_,_,_,_,_,_,_], defers := [] } _
   refine wpAnyH_ready (rs := [3]) (by kernel_rfl) (by simp) ?_
   refine AllReadyH.cons rfl (fun KK hK => ?_) AllReadyH.nil
   go_simp
   refine (AFi.out _ H).mono ?_
   rintro e w2 ⟨rfl, hb2⟩
   replace H := HSt.below H hb2
   refine hK.out _ _ H.2 (fun _ => ?_)
   clear hK KK hb2
   change wpAnyH _ _ _ _ _ _ _ { tmps := #[_,_,_,_,_,_,_,_,_,_,_,_,_,_,_,_,_,_,_], defers := [] } _
   refine wpAnyH_ready (rs := [4]) (by kernel_rfl) (by simp) ?_
   refine AllReadyH.cons rfl (fun KK hK => ?_) AllReadyH.nil
   rw [if_pos (by rfl)]
   refine wp_store_mid 165 (.tmp 3) (.tmp 14) rfl w.heap.size 0 (wA 8 V1) rfl rfl (by rw [wA_size]; exact H.1.there) (by rw [wA_size]; exact Tryz.size8w) (wA_one _ _) ?_
   rw [wA_toList]
   replace H := HSt.store H hne (Nat.le_refl _) V1
   refine hK.out _ _ H.2 (fun _ => ?_)
   clear hK KK
   refine wpAnyH_done (by kernel_rfl) ?_ _
   refine NoPanic.normal ?_
   change Exit.then _ _ Exit.normal { tmps := #[_, _, _, _, _, _, _, _, _, _, _, _, _, _, _, _, _, _, _], defers := [] } _
   have HS9 : Hid (HSt w (w2.setCells w.heap.size 0 (wv 8 V1)) w.heap.size g L F V1) := H
   clear H AFi EV
   generalize (w2.setCells w.heap.size 0 (wv 8 V1)) = w9 at *
   generalize wA 8 V1 = q1
   generalize wA 8 V0 = q0
   by_cases hc64 : cr = 64
   ·subst hc64
    go_wp2
    go_roundw
    case rel =>
     refine ⟨i + 1, 0, some ⟨g, 64 * i, none⟩, by omega, ?_, fun h => ?_, by rw [HV1.out]; exact HS9.out⟩
     ·rw [← HRe.out, show R - 64 = 0 from by omega]
     ·exfalso; have := HRe.out; have := HLm.out; omega
    case measure => simp [lenH]; omega
   ·go_wp2
    go_roundw
    case rel =>
     refine ⟨i + 1, cr - 64, some ⟨g, 64 * i + 64, none⟩, by omega, ?_, fun h => ?_, by rw [HV1.out]; exact HS9.out⟩
     ·rw [← HRe.out]
     ·exact ⟨rfl, by have := HRe.out; omega⟩
    case measure => simp [lenH]; omega
  ·obtain rfl : i = m := by omega
   have eL : L - 64 * i = 0 := by have := HLm.out; omega
   rw [eL]
   have HST : Hid (HSt w wr w.heap.size g L F (Sha.hashTo F i)) := hst
   have EV : Hid ((wv 8 (Sha.hashTo F i)).toArray = wA 8 (Sha.hashTo F i)) := rfl
   generalize Sha.hashTo F i = V0 at *
   clear hst had eL AF
   go_wp2_with (refine wpList_load_mid rfl 165 (.tmp 3) rfl w.heap.size 0 rfl (wv 8 V0) _ HST.out.1.range Tryz.underlying165 rfl (by rw [wv_length]; exact Tryz.size8w) ?_; rw [EV.out])
   refine (TX.out _).mono ?_
   rintro e w2 ⟨rfl, hb2⟩
   have HB2 : Hid (Below w.heap.size w w2) := HST.out.2.2.trans (hb2.mono HST.out.2.2.size)
   clear hb2 HST EV TX
   generalize wA 8 V0 = q0
   go_wp2
   go_ret
   exact ⟨rfl, HB2.out⟩
end Go.Proofs.YtboekhegbachpaaGreatDoor
