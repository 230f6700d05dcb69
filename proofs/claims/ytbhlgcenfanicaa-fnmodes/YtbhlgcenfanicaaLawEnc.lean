/-
  The law of blocks encrypted: model, program, and the law's own look at both.
-/
import Derived.Test.YtbhlgcenfanicaaESpec
import Derived.Test.YtbhlgcenfanicaaEImpl
import Derived.Test.YtbhlgcenfanicaaLawKeys
namespace Go.Proofs.Ytbhlgcenfanicaa
open Go.ChangeShapes Go.WideShapes Go.ChangeAt Go.RowKit
theorem strB_key {W : Nat → Nat} (hW : ∀ j, W j < 256) (i j : Nat) (hj : j < 16) : strB (kstr W (i * 16) 16) j = Gf.keyAt W i j := strB_kstr W (i * 16) 16 j (hW _) hj
set_option maxRecDepth 100000 in
set_option maxHeartbeats 2000000 in
/-- spec.l01Encrypt -/
theorem l01Encrypt_any (pb po ck t m : Nat) (W : Nat → Nat) (hW : ∀ j, W j < 256) (hm : 1 ≤ m) (hm' : m ≤ 14) (s : ByteArray) (hs : s.size = 16) (w : World)
    (hk : Strs w (some ⟨pb, po, none⟩) (m + 1) (fun j => kstr W (j * 16) 16)) (ht : ∀ x, x < 256 → w.cell? ⟨t, x, none⟩ = some (.int .i64 (Gf.sub x : Nat))) :
    Calls Try.prog 55 #[.slice (some ⟨pb, po, none⟩) (m + 1) ck, .slice (some ⟨t, 0, none⟩) 256 256, .string s] w fun e w' => e = .returned (.string (kstr (Gf.enc W m (strB s)) 0 16)) ∧ Below w.heap.size w w' := by
  obtain ⟨_, _, hab, hcells⟩ := hk.opened (by omega)
  cases hab
  have HK : Hid (∀ i, i < m + 1 → w.cell? ⟨pb, po + i, none⟩ = some (.string (kstr W (i * 16) 16))) := hcells
  have HT : Hid (∀ x, x < 256 → w.cell? ⟨t, x, none⟩ = some (.int .i64 (Gf.sub x : Nat))) := ht
  have HW : Hid (∀ j, W j < 256) := hW
  have hpl : pb < w.heap.size := strBlock (hcells 0 (by omega))
  have htl : t < w.heap.size := strBlock (ht 0 (by omega))
  have LE : Hid (∀ i j, j < 16 → Gf.encTo W (strB s) i j < 256) := Gf.encTo_lt hW (fun j _ => strB_lt s j)
  have ST : Hid (∀ w : World, Calls Try.prog 66 #[.string s] w fun e w' => (∃ b c, w.heap.size ≤ b ∧ e = .returned (.slice (some ⟨b, 0, none⟩) 16 c) ∧ I16 w' b (strB s)) ∧ Below w.heap.size w w') := l01State_any s hs
  have XO : Hid (∀ (i b c : Nat) (f : Nat → Nat) (w : World), (∀ j, j < 16 → f j < 256) → I16 w b f → Calls Try.prog 67 #[.slice (some ⟨b, 0, none⟩) 16 c, .string (kstr W (i * 16) 16)] w fun e w' => e = .returned (.tuple #[]) ∧ I16 w' b (Gf.addK f (Gf.keyAt W i)) ∧ OnlyB b w w') := fun i b c f w hf h =>
    (l01Xor_any b c f hf (kstr W (i * 16) 16) (kstr_size _ _ _) w h).mono fun e w' ⟨he, hi, ho⟩ => ⟨he, hi.congr (fun j hj => by rw [strB_key hW i j hj]; rfl), ho⟩
  clear hk hcells ht hW hs
  go_enter Try.func55, Try.ntmps55
  go_wp2_with fail
  refine (ST.out _).mono ?_
  rintro e w1 ⟨⟨b, c, hb, rfl, hi⟩, hB⟩
  have c0 : w1.cell? ⟨pb, po, none⟩ = some (.string (kstr W (0 * 16) 16)) := by rw [hB.cell (p := ⟨pb, po, none⟩) hpl]; exact HK.out 0 (by omega)
  have HI : Hid (I16 w1 b (strB s)) := hi
  have HB : Hid (Below w.heap.size w w1) := hB
  clear hi hB
  go_wp2_with fail
  refine (XO.out 0 b c _ _ (fun j _ => strB_lt s j) HI.out).mono ?_
  rintro e w2 ⟨rfl, hi, ho⟩
  have H0 : Hid (∃ L c, w.heap.size ≤ L ∧ Value.slice (some ⟨b, 0, none⟩) 16 c = .slice (some ⟨L, 0, none⟩) 16 c ∧ I16 w2 L (Gf.encTo W (strB s) 0) ∧ Below w.heap.size w w2) := ⟨b, c, hb, rfl, hi, HB.out.trans (ho.toBelow hb HB.out.size)⟩
  have HI2 : Hid (I16 w2 b (Gf.encTo W (strB s) 0)) := hi
  have HB2 : Hid (Below w.heap.size w w2) := HB.out.trans (ho.toBelow hb HB.out.size)
  clear hi ho HI HB c0 H0 ST
  go_wp2
  go_loopw [7, 8] (fun v i wr => ∃ (k L cc : Nat), 1 ≤ k ∧ k ≤ m + 1 ∧ i = .int .i64 k ∧ w.heap.size ≤ L ∧ v = .slice (some ⟨L, 0, none⟩) 16 cc ∧ I16 wr L (if k ≤ m then Gf.encTo W (strB s) (k - 1) else Gf.enc W m (strB s)) ∧ Below w.heap.size w wr) (fun _ i _ => m + 1 - (intOf i).toNat)
  case atStart => exact ⟨1, b, c, by omega, by omega, rfl, hb, rfl, by rw [if_pos hm]; exact HI2.out, HB2.out⟩
  case round =>
    clear HI2 HB2
    obtain ⟨k, L, cc, hk1, hk2, rfl, hL, rfl, hi, hB⟩ := hrel
    by_cases hlt : k < m + 1
    · rw [if_pos (by omega)] at hi
      have ck : wr.cell? ⟨pb, po + k, none⟩ = some (.string (kstr W (k * 16) 16)) := by rw [hB.cell (p := ⟨pb, po + k, none⟩) hpl]; exact HK.out k hlt
      have HI : Hid (I16 wr L (Gf.encTo W (strB s) (k - 1))) := hi
      have HB : Hid (Below w.heap.size w wr) := hB
      have x1 : (k : Int) < (m : Int) + 1 := by omega
      clear hi hB
      go_wp2_with fail
      refine (l01Swap_any L cc t _ Gf.sub (LE.out (k - 1)) (by omega) _ HI.out (fun x hx => by rw [HB.out.cell (p := ⟨t, x, none⟩) htl]; exact HT.out x hx)).mono ?_
      rintro e w3 ⟨rfl, hi3, ho3⟩
      have HI3 : Hid (I16 w3 L (fun j => Gf.sub (Gf.encTo W (strB s) (k - 1) j))) := hi3
      have HB3 : Hid (Below w.heap.size w w3) := HB.out.trans (ho3.toBelow hL HB.out.size)
      clear hi3 ho3 HI HB ck
      go_wp2_with fail
      refine (l01Shift_any L cc _ _ HI3.out).mono ?_
      rintro e w4 ⟨⟨L4, hL4, rfl, hi4⟩, hb4⟩
      have HI4 : Hid (I16 w4 L4 (Gf.subTurn (Gf.encTo W (strB s) (k - 1)))) := hi4
      have HB4 : Hid (Below w.heap.size w w4) := HB3.out.trans (hb4.mono HB3.out.size)
      have hL4' : w.heap.size ≤ L4 := Nat.le_trans HB3.out.size hL4
      have LS : Hid (∀ j, j < 16 → Gf.subTurn (Gf.encTo W (strB s) (k - 1)) j < 256) := fun j _ => Gf.subTurn_lt (LE.out (k - 1)) j
      clear hi4 hb4 HI3 HB3
      by_cases hkm : k < m
      · have x2 : (k : Int) < (m : Int) := by omega
        go_wp2_with fail
        refine (l01Fast_any L4 16 _ LS.out _ HI4.out).mono ?_
        rintro e w5 ⟨⟨L5, hL5, rfl, hi5⟩, hb5⟩
        have HI5 : Hid (I16 w5 L5 (Gf.mixS (Gf.subTurn (Gf.encTo W (strB s) (k - 1))))) := hi5
        have HB5 : Hid (Below w.heap.size w w5) := HB4.out.trans (hb5.mono HB4.out.size)
        have hL5' : w.heap.size ≤ L5 := Nat.le_trans HB4.out.size hL5
        have ck : w5.cell? ⟨pb, po + k, none⟩ = some (.string (kstr W (k * 16) 16)) := by rw [HB5.out.cell (p := ⟨pb, po + k, none⟩) hpl]; exact HK.out k hlt
        clear hi5 hb5 HI4 HB4
        go_wp2_with fail
        refine (XO.out k L5 16 _ _ (Gf.mixS_lt LS.out) HI5.out).mono ?_
        rintro e w6 ⟨rfl, hi6, ho6⟩
        have HI6 : Hid (I16 w6 L5 (Gf.encTo W (strB s) k)) := by
          obtain ⟨q, rfl⟩ : ∃ q, k = q + 1 := ⟨k - 1, by omega⟩
          exact hi6
        have HB6 : Hid (Below w.heap.size w w6) := HB5.out.trans (ho6.toBelow hL5' HB5.out.size)
        clear hi6 ho6 HI5 HB5 ck
        go_wp2
        go_roundw
        case rel => exact ⟨k + 1, L5, 16, by omega, by omega, by go_num, hL5', rfl, by rw [if_pos (by omega)]; exact HI6.out, HB6.out⟩
        case measure => simp [intOf]; omega
      · have hke : Hid (k = m) := by show k = m; omega
        have x2 : ¬ (k : Int) < (m : Int) := by omega
        have ck : w4.cell? ⟨pb, po + k, none⟩ = some (.string (kstr W (k * 16) 16)) := by rw [HB4.out.cell (p := ⟨pb, po + k, none⟩) hpl]; exact HK.out k hlt
        go_wp2_with fail
        refine (XO.out k L4 16 _ _ LS.out HI4.out).mono ?_
        rintro e w6 ⟨rfl, hi6, ho6⟩
        have HI6 : Hid (I16 w6 L4 (Gf.enc W m (strB s))) := by
          have e := hke.out
          subst e
          exact hi6
        have HB6 : Hid (Below w.heap.size w w6) := HB4.out.trans (ho6.toBelow hL4' HB4.out.size)
        clear hi6 ho6 HI4 HB4 ck
        go_wp2
        go_roundw
        case rel => exact ⟨k + 1, L4, 16, by omega, by omega, by go_num, hL4', rfl, by rw [if_neg (by omega)]; exact HI6.out, HB6.out⟩
        case measure => simp [intOf]; omega
    · rw [if_neg (by omega)] at hi
      have HI : Hid (I16 wr L (Gf.enc W m (strB s))) := hi
      have HB : Hid (Below w.heap.size w wr) := hB
      have x1 : ¬ (k : Int) < (m : Int) + 1 := by omega
      clear hi hB
      go_wp2_with fail
      refine (l01Text_any L cc _ (fun j _ => Gf.enc_lt HW.out (fun j _ => strB_lt s j) j) _ HI.out).mono ?_
      rintro e w3 ⟨rfl, hb3⟩
      have HB3 : Hid (Below w.heap.size w w3) := HB.out.trans (hb3.mono HB.out.size)
      clear hb3 HI HB
      go_wp2
      go_ret
      exact ⟨rfl, HB3.out⟩
end Go.Proofs.Ytbhlgcenfanicaa
