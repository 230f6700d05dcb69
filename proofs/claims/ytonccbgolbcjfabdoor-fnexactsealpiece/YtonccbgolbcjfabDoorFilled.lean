/-
  Contracts of impl's filledUp and of a digest's text.
-/
import Derived.Test.YtonccbgolbcjfabDoorCat
import Derived.Test.YtonccbgolbcjfabDoorTxt
import Derived.Test.YtonccbgolbcjfabDoorAfter
namespace Go.Proofs.YtonccbgolbcjfabDoor
open Go.ChangeShapes Go.WideShapes Go.ChangeAt Go.RowKit
theorem cell3 (w : World) (x y z : Value) (t : TypeId) (k : Nat) (hk : k < 3) : (w.alloc (.cells #[x, y, z] t)).cell? ⟨w.heap.size, k, none⟩ = some (if k = 0 then x else if k = 1 then y else z) := by
  rcases (show k = 0 ∨ k = 1 ∨ k = 2 by omega) with rfl | rfl | rfl <;> simp
set_option maxRecDepth 100000 in
set_option maxHeartbeats 2000000 in
theorem filledUp_any (b o n c : Nat) (f : Nat → Nat) (hn : n ≤ 1200000) (w : World) (h : Code8 w (some ⟨b, o, none⟩) n f) :
    Calls Tryd.prog 65 #[.slice (some ⟨b, o, none⟩) n c] w fun e w' => RetO w.heap.size w' e (Sha.fullN n) (Sha.fullF n f) ∧ Below w.heap.size w w' := by
  obtain ⟨r, hr⟩ : ∃ r, r = n % 64 := ⟨_, rfl⟩
  obtain ⟨z, hz⟩ : ∃ z, z = (119 - r) % 64 := ⟨_, rfl⟩
  have e1 : (n : Int) % 64 = (r : Int) := by omega
  have e1t : (n : Int).tmod 64 = (r : Int) := by rw [Int.tmod_eq_emod_of_nonneg (by omega)]; omega
  have e2 : (119 - (r : Int)) % 64 = (z : Int) := by omega
  have e2t : (119 - (r : Int)).tmod 64 = (z : Int) := by rw [Int.tmod_eq_emod_of_nonneg (by omega)]; omega
  have hr64 : r < 64 := by omega
  have hz64 : z < 64 := by omega
  have HL : Hid (n + 1 + z + 8 = Sha.fullN n) := by show _ = _; unfold Sha.fullN; omega
  have m1 := mkBytes z (by omega)
  have HC : Hid (Code8 w (some ⟨b, o, none⟩) n f) := h
  obtain ⟨ns, hns⟩ : ∃ ns : Nat → Nat, ns = fun k => if k = 0 then n else if k = 1 then 1 else z := ⟨_, rfl⟩
  obtain ⟨fs, hfs⟩ : ∃ fs : Nat → Nat → Nat, fs = fun k => if k = 0 then f else if k = 1 then (fun _ => 128) else (fun _ => 0) := ⟨_, rfl⟩
  have hN : catN ns 3 = n + 1 + z := by rw [hns]; show 0 + n + 1 + z = _; omega
  have HF : Hid (∀ j, j < Sha.fullN n → numF (n + 1 + z) 8 (8 * n) (catF ns fs 3) j = Sha.fullF n f j) := fun j hj => by
    have hl := HL.out
    unfold numF Sha.fullF
    by_cases h1 : j < n + 1 + z
    · rw [if_pos h1]
      rw [hns, hfs]
      show Sha.cat (0 + n + 1) (Sha.cat (0 + n) (Sha.cat 0 (fun _ => 0) f) (fun _ => 128)) (fun _ => 0) j = _
      unfold Sha.cat
      by_cases h2 : j < n
      · rw [if_pos (by omega), if_pos (by omega), if_neg (by omega), if_pos h2]; rfl
      · rw [if_neg h2]
        by_cases h3 : j = n
        · rw [if_pos (by omega), if_neg (by omega), if_pos h3]
        · rw [if_neg (by omega), if_neg h3, if_pos (by omega)]
    · rw [if_neg h1, if_neg (by omega), if_neg (by omega), if_neg (by omega), ← hl]
      rw [show 8 - 1 - (j - (n + 1 + z)) = n + 1 + z + 8 - 1 - j from by omega]
  have W3 : Hid (∀ wa wb : World, Below w.heap.size w wa → wa.heap.size = w.heap.size + 1 + 1 → Code8 wa (some ⟨w.heap.size, 0, none⟩) 1 (fun _ => 128) → Code8 wa (some ⟨w.heap.size + 1, 0, none⟩) z (fun _ => 0) → wb = wa.alloc (.cells #[.slice (some ⟨b, o, none⟩) n c, .slice (some ⟨w.heap.size, 0, none⟩) 1 1, .slice (some ⟨w.heap.size + 1, 0, none⟩) z z] 30) →
      Calls Tryd.prog 39 #[.slice (some ⟨w.heap.size + 1 + 1, 0, none⟩) 3 3] wb fun e w' => RetO w.heap.size w' e (n + 1 + z) (catF ns fs 3) ∧ Below w.heap.size w w') := fun wa wb hB hsz hk1 hk2 hwb => by
    have hA : Below wa.heap.size wa wb := by rw [hwb]; exact (Below.refl _ _).alloc (Nat.le_refl _) _
    have P : Parts wb (w.heap.size + 1 + 1) 3 (fun k => if k = 0 then some ⟨b, o, none⟩ else if k = 1 then some ⟨w.heap.size, 0, none⟩ else some ⟨w.heap.size + 1, 0, none⟩) ns (fun k => if k = 0 then c else if k = 1 then 1 else z) fs := by
      refine ⟨fun k hk => ?_, fun k hk => ?_, fun k hk => ?_⟩
      · rw [hwb, ← hsz, cell3 _ _ _ _ _ k hk, hns]
        rcases (show k = 0 ∨ k = 1 ∨ k = 2 by omega) with rfl | rfl | rfl <;> simp
      · rw [hns, hfs]
        rcases (show k = 0 ∨ k = 1 ∨ k = 2 by omega) with rfl | rfl | rfl
        · exact (HC.out.below hB).below hA
        · exact hk1.below hA
        · exact hk2.below hA
      · rcases (show k = 0 ∨ k = 1 ∨ k = 2 by omega) with rfl | rfl | rfl
        · exact .inr ⟨b, o, rfl⟩
        · exact .inr ⟨_, 0, rfl⟩
        · exact .inr ⟨_, 0, rfl⟩
    have := concatN_any (w.heap.size + 1 + 1) 3 _ ns _ fs (by omega) (by omega) (by omega) wb P
    rw [hN] at this
    have hs : w.heap.size ≤ wb.heap.size := Nat.le_trans hB.size hA.size
    refine this.mono ?_
    rintro e w' ⟨⟨g, cc, rfl, ho⟩, hb'⟩
    exact ⟨⟨g, cc, rfl, ownsRow_mono ho hs⟩, (hB.trans (hA.mono hB.size)).trans (hb'.mono hs)⟩
  have AN : Hid (∀ (g c : Nat) (w1 : World), w.heap.size ≤ w1.heap.size → w1.ownsRow w.heap.size 5 1 (.slice (some ⟨g, 0, none⟩) (n + 1 + z) c) (n + 1 + z) (bv (n + 1 + z) (catF ns fs 3)) → Calls Tryd.prog 38 #[.slice (some ⟨g, 0, none⟩) (n + 1 + z) c, .int .i64 ((8 * n : Nat) : Int), .int .i64 8] w1 fun e w' => RetO w.heap.size w' e (Sha.fullN n) (Sha.fullF n f) ∧ Below w.heap.size w1 w') := fun g c w1 hs ho => by
    have := appendNumber_any w.heap.size g (n + 1 + z) c (8 * n) 8 (catF ns fs 3) (by omega) (by omega) w1 hs ho
    refine this.mono ?_
    rintro e w' ⟨⟨g', c', rfl, ho'⟩, hb'⟩
    rw [HL.out] at ho' ⊢
    rw [bv_congr HF.out] at ho'
    exact ⟨⟨g', c', rfl, ho'⟩, hb'⟩
  have KB : Hid (Below w.heap.size w ((w.alloc (.cells #[.int .u8 128] 5)).alloc (.cells (madeCells #[.int .u8 0] z) 5))) := ((Below.refl _ _).alloc (Nat.le_refl _) _).alloc (by simp) _
  have K1 : Hid (Code8 ((w.alloc (.cells #[.int .u8 128] 5)).alloc (.cells (madeCells #[.int .u8 0] z) 5)) (some ⟨w.heap.size, 0, none⟩) 1 (fun _ => 128)) := Code8.below (fun i hi => ⟨_, 0, rfl, by rw [show 0 + i = 0 from by omega]; simp⟩) ((Below.refl _ _).alloc (Nat.le_refl _) _)
  have K2 : Hid (Code8 ((w.alloc (.cells #[.int .u8 128] 5)).alloc (.cells (madeCells #[.int .u8 0] z) 5)) (some ⟨w.heap.size + 1, 0, none⟩) z (fun _ => 0)) := by
    have := (World.rowIs_made (w.alloc (.cells #[.int .u8 128] 5)) (.int .u8 0) z 5)
    rw [show (w.alloc (.cells #[.int .u8 128] 5)).heap.size = w.heap.size + 1 from by simp] at this
    exact (Own8.ofRow (this.congr (fun j hj => rfl))).code
  have K3 : Hid (((w.alloc (.cells #[.int .u8 128] 5)).alloc (.cells (madeCells #[.int .u8 0] z) 5)).heap.size = w.heap.size + 1 + 1) := by show _ = _; simp
  have e8 : (8 : Int) * (n : Int) = ((8 * n : Nat) : Int) := by omega
  obtain ⟨n8, hn8⟩ : ∃ n8, n8 = 8 * n := ⟨_, rfl⟩
  rw [← hn8] at e8 AN
  have hn8' : n8 ≤ 9600000 := by omega
  clear h HC HF HL hr hz hns hfs hN hn8
  go_enter Tryd.func65, Tryd.ntmps65
  go_wp2_with fail
  refine (W3.out _ _ KB.out K3.out K1.out K2.out rfl).mono ?_
  rintro e w1 ⟨⟨g, cc, rfl, ho⟩, hb1⟩
  have HO : Hid (w1.ownsRow w.heap.size 5 1 (.slice (some ⟨g, 0, none⟩) (n + 1 + z) cc) (n + 1 + z) (bv (n + 1 + z) (catF ns fs 3))) := ho
  have HB1 : Hid (Below w.heap.size w w1) := hb1
  clear ho hb1 W3 KB K1 K2 K3
  go_wp2_with fail
  refine (AN.out g cc w1 HB1.out.size HO.out).mono ?_
  rintro e w2 ⟨⟨g2, c2, rfl, ho2⟩, hb2⟩
  have HO2 : Hid (w2.ownsRow w.heap.size 5 1 (.slice (some ⟨g2, 0, none⟩) (Sha.fullN n) c2) (Sha.fullN n) (bv (Sha.fullN n) (Sha.fullF n f))) := ho2
  have HB2 : Hid (Below w.heap.size w w2) := HB1.out.trans hb2
  clear ho2 hb2 HO HB1 AN
  go_wp2
  go_ret
  exact ⟨⟨g2, c2, rfl, HO2.out⟩, HB2.out⟩
theorem outB_num (v : Nat → Nat) (k j : Nat) (hj : j < 4 * k + 4) : numF (4 * k) 4 (v k) (Sha.outB v) j = Sha.outB v j := by
  unfold numF
  by_cases h : j < 4 * k
  · rw [if_pos h]
  · rw [if_neg h]
    unfold Sha.outB
    rw [show j / 4 = k from by omega, show 24 - 8 * (j % 4) = 8 * (4 - 1 - (j - 4 * k)) from by omega]
theorem idxDg {f : Nat → Nat} {k : Nat} (h : k < 8) (w : World) : (Instr.index 99 (.agg (wA 8 f)) (.int .i64 (k : Int))).run Tryd.prog w = .ok (.int .u32 (f k : Nat)) w :=
  run_index_flat Tryd.underlying99 Tryd.underlying84 rfl (by kernel_rfl) h (wA_at h) w
set_option maxRecDepth 100000 in
set_option maxHeartbeats 2000000 in
theorem text_any (v : Nat → Nat) (hv : ∀ j, v j < 4294967296) (w : World) :
    Calls Tryd.prog 67 #[.agg (wA 8 v)] w fun e w' => e = .returned (.string (kstr (Sha.outB v) 0 32)) ∧ Below w.heap.size w w' := by
  have HV : Hid (∀ j, v j < 4294967296) := hv
  have IX : Hid (∀ (k : Nat) (w : World), k < 8 → (Instr.index 99 (.agg (wA 8 v)) (.int .i64 (k : Int))).run Tryd.prog w = .ok (.int .u32 ((v k : Nat) : Int)) w) := fun k w hk => idxDg hk w
  have AN : Hid (∀ (g c k : Nat) (w1 : World), k < 8 → w.heap.size + 1 ≤ w1.heap.size → w1.ownsRow (w.heap.size + 1) 5 1 (.slice (some ⟨g, 0, none⟩) (4 * k) c) (4 * k) (bv (4 * k) (Sha.outB v)) → Calls Tryd.prog 38 #[.slice (some ⟨g, 0, none⟩) (4 * k) c, .int .i64 ((v k : Nat) : Int), .int .i64 4] w1 fun e w' => RetO (w.heap.size + 1) w' e (4 * k + 4) (Sha.outB v) ∧ Below (w.heap.size + 1) w1 w') := fun g c k w1 hk hs ho => by
    refine (appendNumber_any (w.heap.size + 1) g (4 * k) c (v k) 4 (Sha.outB v) (by omega) (by omega) w1 hs ho).mono ?_
    rintro e w' ⟨⟨g', c', rfl, ho'⟩, hb'⟩
    rw [bv_congr (g := Sha.outB v) (fun j hj => outB_num v k j hj)] at ho'
    exact ⟨⟨g', c', rfl, ho'⟩, hb'⟩
  have R0 : Hid (RowW (w.alloc (.cells (wA 8 v) 99)) w.heap.size 99 8 v) := RowW.boxedAt rfl _ _ _
  have EA : Hid ((wv 8 v).toArray = wA 8 v) := rfl
  clear hv
  generalize wA 8 v = VA at *
  go_enter Tryd.func67, Tryd.ntmps67
  obtain ⟨wm, hmk, hown, hBm⟩ := mkRoom 32 (by omega) (w.alloc (.cells VA 99))
  replace hmk : (Instr.makeSlice 30 (.int .i64 0) (.int .i64 32)).run Tryd.prog (w.alloc (.cells VA 99)) = .ok (.slice (some ⟨w.heap.size + 1, 0, none⟩) 0 32) wm := by
    have e : (w.alloc (.cells VA 99)).heap.size = w.heap.size + 1 := by simp
    rw [e] at hmk; exact hmk
  have e1 : (w.alloc (.cells VA 99)).heap.size = w.heap.size + 1 := by simp
  rw [e1] at hown
  have HO : Hid (wm.ownsRow (w.heap.size + 1) 5 1 (.slice (some ⟨w.heap.size + 1, 0, none⟩) 0 32) 0 []) := hown
  have R1 : Hid (RowW wm w.heap.size 99 8 v) := R0.out.below hBm
  have HB1 : Hid (Below w.heap.size w wm) := ((Below.refl _ _).alloc (Nat.le_refl _) _).trans (hBm.mono (by rw [e1]; omega))
  have HS : Hid (w.heap.size + 1 ≤ wm.heap.size) := by have := hBm.size; rw [e1] at this; exact this
  clear hown hBm e1 R0
  go_wp2_with (refine wpList_load_mid rfl 99 (.tmp 1) rfl w.heap.size 0 rfl (wv 8 v) _ R1.out.range Tryd.underlying99 rfl (by rw [wv_length]; exact Tryd.size8w) ?_)
  rw [EA.out]
  clear EA R1 hmk
  go_loopw [3, 5, 8] (fun s _ i wr => ∃ k g c : Nat, k ≤ 8 ∧ i = .int .i64 k ∧ s = .slice (some ⟨g, 0, none⟩) (4 * k) c ∧ wr.ownsRow (w.heap.size + 1) 5 1 (.slice (some ⟨g, 0, none⟩) (4 * k) c) (4 * k) (bv (4 * k) (Sha.outB v)) ∧ Below w.heap.size w wr ∧ w.heap.size + 1 ≤ wr.heap.size) (fun _ _ i _ => 8 - (intOf i).toNat)
  case atStart => exact ⟨0, _, _, by omega, rfl, rfl, HO.out, HB1.out, HS.out⟩
  case round =>
    clear HO HB1 HS
    obtain ⟨k, g, c, hk, rfl, rfl, hown, hb, hs⟩ := hrel
    have HO : Hid (wr.ownsRow (w.heap.size + 1) 5 1 (.slice (some ⟨g, 0, none⟩) (4 * k) c) (4 * k) (bv (4 * k) (Sha.outB v))) := hown
    have HB : Hid (Below w.heap.size w wr) := hb
    have HS : Hid (w.heap.size + 1 ≤ wr.heap.size) := hs
    clear hown hb hs
    by_cases hlt : k < 8
    · have hlt' : (k : Int) < 8 := by omega
      have ix : ∀ w : World, (Instr.index 99 (.agg VA) (.int .i64 (k : Int))).run Tryd.prog w = .ok (.int .u32 ((v k : Nat) : Int)) w := fun w => IX.out k w hlt
      have hvk : IntKind.i64.wrap ((v k : Nat) : Int) = ((v k : Nat) : Int) := by rw [IntKind.wrap_i64]; have := HV.out k; omega
      have AK : Hid (Calls Tryd.prog 38 #[.slice (some ⟨g, 0, none⟩) (4 * k) c, .int .i64 ((v k : Nat) : Int), .int .i64 4] wr fun e w' => RetO (w.heap.size + 1) w' e (4 * k + 4) (Sha.outB v) ∧ Below (w.heap.size + 1) wr w') := AN.out g c k wr hlt HS.out HO.out
      generalize v k = vk at *
      go_wp2_with fail
      refine AK.out.mono ?_
      rintro e w1 ⟨⟨g2, c2, rfl, ho2⟩, hb2⟩
      have HO2 : Hid (w1.ownsRow (w.heap.size + 1) 5 1 (.slice (some ⟨g2, 0, none⟩) (4 * (k + 1)) c2) (4 * (k + 1)) (bv (4 * (k + 1)) (Sha.outB v))) := ho2
      have HB2 : Hid (Below w.heap.size w w1) := HB.out.trans (hb2.mono (by omega))
      have HS2 : Hid (w.heap.size + 1 ≤ w1.heap.size) := Nat.le_trans HS.out hb2.size
      clear ho2 hb2 HO HB HS AK
      go_wp2
      go_roundw
      case rel => exact ⟨k + 1, g2, c2, by omega, by go_num, rfl, HO2.out, HB2.out, HS2.out⟩
      case measure => simp [intOf]; omega
    · obtain rfl : k = 8 := by omega
      obtain ⟨g', c', hgc, e', ho⟩ := own8_of_own HO.out (by intro h; cases h)
      cases e'
      have cv := kstr_of_code (c := c) ho.code
      generalize hT : kstr (Sha.outB v) 0 (4 * 8) = T at cv
      have HT : Hid (kstr (Sha.outB v) 0 32 = T) := hT
      clear ho HO hT
      go_wp2
      go_ret
      exact ⟨by rw [HT.out]; rfl, HB.out⟩
end Go.Proofs.YtonccbgolbcjfabDoor
