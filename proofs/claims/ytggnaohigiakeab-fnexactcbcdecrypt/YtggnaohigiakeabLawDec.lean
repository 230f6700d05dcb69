/-
  The law of blocks decrypted: model, program, and the law's own look at both.
-/
import Derived.Test.YtggnaohigiakeabDSpec
import Derived.Test.YtggnaohigiakeabDImpl
import Derived.Test.YtggnaohigiakeabLawEnc
namespace Go.Proofs.Ytggnaohigiakeab
open Go.ChangeShapes Go.WideShapes Go.ChangeAt Go.RowKit
theorem four_ints (w : World) (t : TypeId) : Ints (w.alloc (.cells #[.int .i64 14, .int .i64 11, .int .i64 13, .int .i64 9] t)) (some ⟨w.heap.size, 0, none⟩) 4 (fun i => (Gf.backF i : Nat)) := fun i hi => by
  refine ⟨w.heap.size, 0, rfl, ?_⟩
  rw [Nat.zero_add]
  rcases (show i = 0 ∨ i = 1 ∨ i = 2 ∨ i = 3 by omega) with rfl | rfl | rfl | rfl <;> simp [Gf.backF]
set_option maxRecDepth 100000 in
set_option maxHeartbeats 2000000 in
/-- spec.l01Decrypt -/
theorem l01Decrypt_any (pb po ck t m : Nat) (W : Nat → Nat) (hW : ∀ j, W j < 256) (hm : 1 ≤ m) (hm' : m ≤ 14) (s : ByteArray) (hs : s.size = 16) (w : World)
    (hk : Strs w (some ⟨pb, po, none⟩) (m + 1) (fun j => kstr W (j * 16) 16)) (ht : w.rowIs t 3 256 (fun j => .int .i64 (Gf.sub j : Nat))) :
    Calls Try.prog 27 #[.slice (some ⟨pb, po, none⟩) (m + 1) ck, .slice (some ⟨t, 0, none⟩) 256 256, .string s] w fun e w' => e = .returned (.string (kstr (Gf.dec W m (strB s)) 0 16)) ∧ Below w.heap.size w w' := by
  obtain ⟨_, _, hab, hcells⟩ := hk.opened (by omega)
  cases hab
  have HK : Hid (∀ i, i < m + 1 → w.cell? ⟨pb, po + i, none⟩ = some (.string (kstr W (i * 16) 16))) := hcells
  have HW : Hid (∀ j, W j < 256) := hW
  have hpl : pb < w.heap.size := strBlock (hcells 0 (by omega))
  have LD : Hid (∀ i j, j < 16 → Gf.decTo W m (strB s) i j < 256) := Gf.decTo_lt hW (fun j _ => strB_lt s j)
  have BK : Hid (∀ w : World, w.rowIs t 3 256 (fun j => .int .i64 (Gf.sub j : Nat)) → Calls Try.prog 49 #[.slice (some ⟨t, 0, none⟩) 256 256] w fun e w' => (∃ c, w.heap.size ≤ c ∧ e = .returned (.slice (some ⟨c, 0, none⟩) 256 256) ∧ w'.rowIs c 3 256 (fun j => .int .i64 (Gf.unsub j : Nat))) ∧ Below w.heap.size w w') := fun w h => back_any t w h
  have HT : Hid (w.rowIs t 3 256 (fun j => .int .i64 (Gf.sub j : Nat))) := ht
  have ST : Hid (∀ w : World, Calls Try.prog 50 #[.string s] w fun e w' => (∃ b c, w.heap.size ≤ b ∧ e = .returned (.slice (some ⟨b, 0, none⟩) 16 c) ∧ I16 w' b (strB s)) ∧ Below w.heap.size w w') := l01State_any s hs
  have XO : Hid (∀ (i b c : Nat) (f : Nat → Nat) (w : World), (∀ j, j < 16 → f j < 256) → I16 w b f → Calls Try.prog 51 #[.slice (some ⟨b, 0, none⟩) 16 c, .string (kstr W (i * 16) 16)] w fun e w' => e = .returned (.tuple #[]) ∧ I16 w' b (Gf.addK f (Gf.keyAt W i)) ∧ OnlyB b w w') := fun i b c f w hf h =>
    (l01Xor_any b c f hf (kstr W (i * 16) 16) (kstr_size _ _ _) w h).mono fun e w' ⟨he, hi, ho⟩ => ⟨he, hi.congr (fun j hj => by rw [strB_key hW i j hj]; rfl), ho⟩
  clear hk hcells ht hW hs
  go_enter Try.func27, Try.ntmps27
  go_wp2_with fail
  refine (BK.out _ HT.out).mono ?_
  rintro e wb ⟨⟨bt, hbt, rfl, hbr⟩, hBb⟩
  have HBR : Hid (wb.rowIs bt 3 256 (fun j => .int .i64 (Gf.unsub j : Nat))) := hbr
  have hbtl : bt < wb.heap.size := hbr.lt
  have HBB : Hid (Below w.heap.size w wb) := hBb
  have hwb := hBb.size
  clear hbr hBb BK HT
  go_wp2_with fail
  refine (ST.out _).mono ?_
  rintro e w1 ⟨⟨b, c, hb, rfl, hi⟩, hB⟩
  have HI : Hid (I16 w1 b (strB s)) := hi
  have HB : Hid (Below wb.heap.size wb w1) := hB
  clear hi hB ST
  have em : (m : Int) + 1 - 1 = (m : Int) := by omega
  go_wp2
  go_loopw [8, 9] (fun v i wr => ∃ (k L cc : Nat), k ≤ m ∧ i = .int .i64 k ∧ wb.heap.size ≤ L ∧ v = .slice (some ⟨L, 0, none⟩) 16 cc ∧ (k < m → cc = 16) ∧ I16 wr L (if k = m then strB s else Gf.decTo W m (strB s) (m - 1 - k)) ∧ Below wb.heap.size wb wr) (fun _ i _ => (intOf i).toNat)
  case atStart => exact ⟨m, b, c, Nat.le_refl _, numEqK (by omega), hb, rfl, fun h => absurd h (by omega), by rw [if_pos rfl]; exact HI.out, HB.out⟩
  case round =>
    clear HI HB em
    obtain ⟨k, L, cc, hk1, rfl, hL, rfl, hcc, hi, hB⟩ := hrel
    have BCELL : Hid (∀ (w' : World), Below wb.heap.size wb w' → ∀ x, x < 256 → w'.cell? ⟨bt, x, none⟩ = some (.int .i64 (Gf.unsub x : Nat))) := fun w' h x hx => by rw [h.cell (p := ⟨bt, x, none⟩) hbtl]; exact HBR.out.cell hx
    have KCELL : Hid (∀ (w' : World), Below wb.heap.size wb w' → ∀ i, i < m + 1 → w'.cell? ⟨pb, po + i, none⟩ = some (.string (kstr W (i * 16) 16))) := fun w' h i hi => by
      rw [h.cell (p := ⟨pb, po + i, none⟩) (Nat.lt_of_lt_of_le hpl hwb), HBB.out.cell (p := ⟨pb, po + i, none⟩) hpl]; exact HK.out i hi
    by_cases hpos : 0 < k
    · have ck := KCELL.out wr hB k (by omega)
      have HB : Hid (Below wb.heap.size wb wr) := hB
      have x0 : (0 : Int) < (k : Int) := by omega
      have x1 : (k : Int) < (m : Int) + 1 := by omega
      have em : (k : Int) - 1 = ((k - 1 : Nat) : Int) := by omega
      clear hB
      by_cases hkm : k < m
      · have hne : ¬ k = m := by omega
        rw [if_neg hne] at hi
        have hc16 := hcc hkm
        subst hc16
        have HI : Hid (I16 wr L (Gf.decTo W m (strB s) (m - 1 - k))) := hi
        have x2 : (k : Int) < (m : Int) := by omega
        clear hi hcc hne
        go_wp2_with fail
        refine (XO.out k L 16 _ _ (LD.out _) HI.out).mono ?_
        rintro e w3 ⟨rfl, hi3, ho3⟩
        have HI3 : Hid (I16 w3 L (Gf.addK (Gf.decTo W m (strB s) (m - 1 - k)) (Gf.keyAt W k))) := hi3
        have HB3 : Hid (Below wb.heap.size wb w3) := HB.out.trans (ho3.toBelow hL HB.out.size)
        have LA : Hid (∀ j, j < 16 → Gf.addK (Gf.decTo W m (strB s) (m - 1 - k)) (Gf.keyAt W k) j < 256) := fun j hj => Gf.addK_lt (s := Gf.decTo W m (strB s) (m - 1 - k)) (k := Gf.keyAt W k) (LD.out _ j hj) (HW.out _)
        have HI3' : Hid (I16 (w3.alloc (.cells #[.int .i64 14, .int .i64 11, .int .i64 13, .int .i64 9] 3)) L (Gf.addK (Gf.decTo W m (strB s) (m - 1 - k)) (Gf.keyAt W k))) := hi3.below ((Below.refl _ _).alloc (Nat.le_refl _) _)
        have HF3 : Hid (Ints (w3.alloc (.cells #[.int .i64 14, .int .i64 11, .int .i64 13, .int .i64 9] 3)) (some ⟨w3.heap.size, 0, none⟩) 4 (fun i => (Gf.backF i : Nat))) := four_ints w3 _
        have HB3' : Hid (Below wb.heap.size wb (w3.alloc (.cells #[.int .i64 14, .int .i64 11, .int .i64 13, .int .i64 9] 3))) := HB3.out.alloc HB3.out.size _
        clear hi3 ho3 HI HB ck
        go_wp2_with fail
        refine (l01Columns_any L w3.heap.size 0 4 _ LA.out _ HI3'.out HF3.out).mono ?_
        rintro e w4 ⟨⟨L4, c4, hL4, rfl, hi4⟩, hb4⟩
        have HI4 : Hid (I16 w4 L4 (Gf.mix3 (Gf.addK (Gf.decTo W m (strB s) (m - 1 - k)) (Gf.keyAt W k)))) := hi4
        have HB4 : Hid (Below wb.heap.size wb w4) := HB3'.out.trans (hb4.mono HB3'.out.size)
        clear hi4 hb4 HI3 HI3' HF3 HB3 HB3'
        go_wp2_with fail
        refine (l01Unshift_any L4 c4 _ _ HI4.out).mono ?_
        rintro e w5 ⟨⟨L5, hL5, rfl, hi5⟩, hb5⟩
        have HI5 : Hid (I16 w5 L5 (fun j => Gf.mix3 (Gf.addK (Gf.decTo W m (strB s) (m - 1 - k)) (Gf.keyAt W k)) (Gf.iord j))) := hi5
        have HB5 : Hid (Below wb.heap.size wb w5) := HB4.out.trans (hb5.mono HB4.out.size)
        have hL5' : wb.heap.size ≤ L5 := Nat.le_trans HB4.out.size hL5
        clear hi5 hb5 HI4 HB4
        go_wp2_with fail
        refine (l01Swap_any L5 16 bt _ Gf.unsub (fun j hj => Gf.mix3_lt LA.out _ (Gf.iord_lt j)) (by omega) _ HI5.out (BCELL.out _ HB5.out)).mono ?_
        rintro e w6 ⟨rfl, hi6, ho6⟩
        have HI6 : Hid (I16 w6 L5 (if k - 1 = m then strB s else Gf.decTo W m (strB s) (m - 1 - (k - 1)))) := by
          show I16 _ _ _
          rw [if_neg (by omega), show m - 1 - (k - 1) = (m - 1 - k) + 1 from by omega]
          refine hi6.congr (fun j hj => ?_)
          show _ = Gf.unTurn (Gf.mix3 (Gf.addK (Gf.decTo W m (strB s) (m - 1 - k)) (Gf.keyAt W (m - 1 - (m - 1 - k))))) j
          rw [show m - 1 - (m - 1 - k) = k from by omega]
          rfl
        have HB6 : Hid (Below wb.heap.size wb w6) := HB5.out.trans (ho6.toBelow hL5' HB5.out.size)
        clear hi6 ho6 HI5 HB5
        go_wp2
        go_roundw
        case rel => exact ⟨k - 1, L5, 16, by omega, numEqK (by omega), hL5', rfl, fun _ => rfl, HI6.out, HB6.out⟩
        case measure => simp [intOf]; omega
      · have hke : Hid (k = m) := by show k = m; omega
        rw [if_pos hke.out] at hi
        have HI : Hid (I16 wr L (strB s)) := hi
        have x2 : ¬ (k : Int) < (m : Int) := by omega
        clear hi hcc
        go_wp2_with fail
        refine (XO.out k L cc _ _ (fun j _ => strB_lt s j) HI.out).mono ?_
        rintro e w3 ⟨rfl, hi3, ho3⟩
        have HI3 : Hid (I16 w3 L (Gf.addK (strB s) (Gf.keyAt W k))) := hi3
        have HB3 : Hid (Below wb.heap.size wb w3) := HB.out.trans (ho3.toBelow hL HB.out.size)
        have LA : Hid (∀ j, j < 16 → Gf.addK (strB s) (Gf.keyAt W k) j < 256) := fun j _ => Gf.addK_lt (s := strB s) (k := Gf.keyAt W k) (strB_lt s j) (HW.out _)
        clear hi3 ho3 HI HB ck
        go_wp2_with fail
        refine (l01Unshift_any L cc _ _ HI3.out).mono ?_
        rintro e w5 ⟨⟨L5, hL5, rfl, hi5⟩, hb5⟩
        have HI5 : Hid (I16 w5 L5 (fun j => Gf.addK (strB s) (Gf.keyAt W k) (Gf.iord j))) := hi5
        have HB5 : Hid (Below wb.heap.size wb w5) := HB3.out.trans (hb5.mono HB3.out.size)
        have hL5' : wb.heap.size ≤ L5 := Nat.le_trans HB3.out.size hL5
        clear hi5 hb5 HI3 HB3
        go_wp2_with fail
        refine (l01Swap_any L5 16 bt _ Gf.unsub (fun j hj => LA.out _ (Gf.iord_lt j)) (by omega) _ HI5.out (BCELL.out _ HB5.out)).mono ?_
        rintro e w6 ⟨rfl, hi6, ho6⟩
        have HI6 : Hid (I16 w6 L5 (if k - 1 = m then strB s else Gf.decTo W m (strB s) (m - 1 - (k - 1)))) := by
          have e := hke.out
          subst e
          show I16 _ _ _
          rw [if_neg (by omega), show k - 1 - (k - 1) = 0 from by omega]
          exact hi6
        have HB6 : Hid (Below wb.heap.size wb w6) := HB5.out.trans (ho6.toBelow hL5' HB5.out.size)
        clear hi6 ho6 HI5 HB5
        go_wp2
        go_roundw
        case rel => exact ⟨k - 1, L5, 16, by omega, numEqK (by omega), hL5', rfl, fun _ => rfl, HI6.out, HB6.out⟩
        case measure => simp [intOf]; omega
    · obtain rfl : k = 0 := by omega
      rw [if_neg (by omega)] at hi
      have HI : Hid (I16 wr L (Gf.decTo W m (strB s) (m - 1))) := hi
      have HB : Hid (Below wb.heap.size wb wr) := hB
      have ck : wr.cell? ⟨pb, po, none⟩ = some (.string (kstr W (0 * 16) 16)) := KCELL.out wr hB 0 (by omega)
      clear hi hB hcc
      go_wp2_with fail
      refine (XO.out 0 L cc _ _ (LD.out _) HI.out).mono ?_
      rintro e w3 ⟨rfl, hi3, ho3⟩
      have HI3 : Hid (I16 w3 L (Gf.dec W m (strB s))) := hi3
      have HB3 : Hid (Below wb.heap.size wb w3) := HB.out.trans (ho3.toBelow hL HB.out.size)
      clear hi3 ho3 HI HB ck
      go_wp2_with fail
      refine (l01Text_any L cc _ (fun j hj => Gf.dec_lt HW.out (fun j _ => strB_lt s j) j hj) _ HI3.out).mono ?_
      rintro e w4 ⟨rfl, hb4⟩
      have HB4 : Hid (Below w.heap.size w w4) := (HBB.out.trans (HB3.out.mono hwb)).trans (hb4.mono (Nat.le_trans hwb HB3.out.size))
      clear hb4 HI3 HB3
      go_wp2
      go_ret
      exact ⟨rfl, HB4.out⟩
end Go.Proofs.Ytggnaohigiakeab
