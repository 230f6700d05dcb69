/-
  The contract of spec.l02Twice.
-/
import Derived.Test.YtbajdphiaibmgaaDoubled
import Derived.Test.YtbajdphiaibmgaaCbcS
namespace Go.Proofs.Ytbajdphiaibmgaa
open Go.ChangeShapes Go.WideShapes Go.ChangeAt Go.RowKit
/-- Doubled, but for the byte that is lost. -/
def dbl1 (s : Nat → Nat) (j : Nat) : Nat := if j = 15 then s 15 * 2 % 256 else (s j * 2 % 256) ||| (s (j + 1) / 128)
set_option maxRecDepth 100000 in
set_option maxHeartbeats 2000000 in
theorem l02Twice_any (s : ByteArray) (hs : s.size = 16) (w : World) :
    Calls Try.prog 34 #[.string s] w fun e w' => e = .returned (.string (kstr (dblB (strB s)) 0 16)) ∧ Below w.heap.size w w' := by
  obtain ⟨wz, gc, hcv, hWB, hBz, hgc⟩ := bytesOf s w
  rw [hs] at hcv hWB
  have HW : Hid (WB wz w.heap.size 16 (strB s)) := hWB
  have HBz : Hid (Below w.heap.size w wz) := hBz
  have LS : Hid (∀ j, strB s j < 256) := strB_lt s
  have ES : Hid (∀ k (h : k < s.size), (s[k].toNat : Int) = (strB s k : Nat)) := fun k h => strB_eq s k h
  have es0 := strB_eq s 0 (by omega)
  obtain ⟨A, hA⟩ : ∃ A, A = strB s := ⟨_, rfl⟩
  rw [← hA] at HW LS ES es0 ⊢
  have la0 := LS.out 0
  obtain ⟨A0, hA0⟩ : ∃ A0, A0 = A 0 := ⟨_, rfl⟩
  rw [← hA0] at es0 la0
  have HA0 : Hid (A0 = A 0) := hA0
  clear hWB hBz hgc hA hA0
  go_enter Try.func34, Try.ntmps34
  go_wp2
  go_loopw [5] (fun i wr => ∃ k : Nat, k ≤ 16 ∧ i = .int .i64 k ∧ WB wr w.heap.size 16 (fun j => if j < k then dbl1 A j else A j) ∧ Below w.heap.size w wr) (fun i _ => 16 - (intOf i).toNat)
  case atStart => exact ⟨0, by omega, rfl, HW.out.congr (fun j hj => by rw [if_neg (by omega)]), HBz.out⟩
  case round =>
    clear HW HBz hcv
    obtain ⟨k, hk, rfl, hw, hb2⟩ := hrel
    have HW : Hid (WB wr w.heap.size 16 (fun j => if j < k then dbl1 A j else A j)) := hw
    have HB : Hid (Below w.heap.size w wr) := hb2
    have x0 : (0 : Int) ≤ (k : Int) := by omega
    by_cases hlt : k < 15
    · have c1 := (hw k (by omega)).1
      simp only [Nat.lt_irrefl, if_false] at c1
      have f1 := (hw k (by omega)).2
      have e1 := ES.out k (by omega)
      have e2 := ES.out (k + 1) (by omega)
      have l1 := LS.out k
      have l2 := LS.out (k + 1)
      have x1 : (k : Int) < 15 := by omega
      have x2 : (k : Int) < 16 := by omega
      have x3 : (k : Int) + 1 < 16 := by omega
      have x4 : ((k : Int) + 1).toNat = k + 1 := by omega
      obtain ⟨V, hV⟩ : ∃ V, V = (A k * 2 % 256) ||| (A (k + 1) / 128) := ⟨_, rfl⟩
      have ex : bits .or .u8 ((A k : Int) * 2 % 256) ((A (k + 1) : Int) / 128) = ((V : Nat) : Int) := by rw [hV]; exact u8_or_two _ _ l2
      have HV : Hid (∀ q j, j < 16 → (if j = k then V else if j = k then q else if j < k then dbl1 A j else A j) = if j < k + 1 then dbl1 A j else A j) := fun q j hj => by
        by_cases e : j = k
        · subst e
          rw [if_pos rfl, if_pos (by omega), hV]
          unfold dbl1
          rw [if_neg (by omega)]
        · rw [if_neg e, if_neg e]
          by_cases e2 : j < k
          · rw [if_pos e2, if_pos (by omega)]
          · rw [if_neg e2, if_neg (by omega)]
      clear hV hw hb2
      generalize A k = A1 at *
      generalize A (k + 1) = A2 at *
      have ev : ((A1 * 2 % 256 : Nat) : Int) = (A1 : Int) * 2 % 256 := by omega
      have hw1 := HW.out.set k (A1 * 2 % 256)
      rw [ev] at hw1
      have c2 := (hw1 k (by omega)).1
      simp only [if_true] at c2
      rw [ev] at c2
      have f2 := (hw1 k (by omega)).2
      have HW1 : Hid (WB (wr.setCell ⟨w.heap.size, k, none⟩ (.int .u8 ((A1 : Int) * 2 % 256))) w.heap.size 16 (fun r => if r = k then A1 * 2 % 256 else if r < k then dbl1 A r else A r)) := hw1
      have HB1 : Hid (Below w.heap.size w (wr.setCell ⟨w.heap.size, k, none⟩ (.int .u8 ((A1 : Int) * 2 % 256)))) := HB.out.setCell (by exact Nat.le_refl _) _
      clear ev hw1 HW HB
      go_wp2_with fail
      generalize wr.setCell ⟨w.heap.size, k, none⟩ (.int .u8 ((A1 : Int) * 2 % 256)) = wq at *
      clear c1 f1
      go_region
      go_wp2
      go_roundw
      case rel =>
        refine ⟨k + 1, by omega, by go_num, (HW1.out.set k V).congr (HV.out _), ?_⟩
        exact (HB1.out.setCell (by exact Nat.le_refl _) _).drew
      case measure => simp [intOf]; omega
    · by_cases h15 : k = 15
      · have c1 := (hw k (by omega)).1
        simp only [Nat.lt_irrefl, if_false] at c1
        have f1 := (hw k (by omega)).2
        have hks : k < s.size := by omega
        have e1 := ES.out k hks
        have l1 := LS.out k
        have x1 : ¬ (k : Int) < 15 := by omega
        have x2 : (k : Int) < 16 := by omega
        have ev : ((A k * 2 % 256 : Nat) : Int) = (A k : Int) * 2 % 256 := by omega
        have hw1 := HW.out.set k (A k * 2 % 256)
        rw [ev] at hw1
        have HW1 : Hid (WB (wr.setCell ⟨w.heap.size, k, none⟩ (.int .u8 ((A k : Int) * 2 % 256))) w.heap.size 16 (fun j => if j < k + 1 then dbl1 A j else A j)) := hw1.congr (fun j hj => by
          by_cases e : j = k
          · rw [if_pos e, if_pos (by omega), e]
            unfold dbl1
            rw [if_pos h15, h15]
          · rw [if_neg e, if_pos (by omega), if_pos (by omega)])
        have HB1 : Hid (Below w.heap.size w (wr.setCell ⟨w.heap.size, k, none⟩ (.int .u8 ((A k : Int) * 2 % 256)))) := HB.out.setCell (by exact Nat.le_refl _) _
        clear ev hw1 HW HB hw hb2 h15
        generalize A k = A1 at *
        go_wp2_with fail
        go_roundw
        case rel => exact ⟨k + 1, by omega, by go_num, HW1.out, HB1.out⟩
        case measure => simp [intOf]; omega
      · have hk16 : k = 16 := by omega
        have x1 : ¬ (k : Int) < 16 := by omega
        have hw2 : WB wr w.heap.size 16 (dbl1 A) := hw.congr (fun j hj => by rw [if_pos (by omega)])
        have HW2 : Hid (WB wr w.heap.size 16 (dbl1 A)) := hw2
        have la := LS.out 15
        clear HW hw hb2 h15 hlt hk hk16
        by_cases hl : 128 ≤ A0
        · have y1 : (A0 : Int) / 128 = 1 := by omega
          have c1 := (hw2 15 (by omega)).1
          have f1 := (hw2 15 (by omega)).2
          obtain ⟨V, hV⟩ : ∃ V, V = dbl1 A 15 ^^^ 135 := ⟨_, rfl⟩
          have ld : dbl1 A 15 < 256 := by unfold dbl1; rw [if_pos rfl]; omega
          have ex : bits .xor .u8 (dbl1 A 15 : Int) 135 = ((V : Nat) : Int) := by rw [hV]; exact u8_xor_nat _ 135 ld (by omega)
          have HW3 : WB (wr.setCell ⟨w.heap.size, 15, none⟩ (.int .u8 (V : Nat))) w.heap.size 16 (dblB A) := (HW2.out.set 15 V).congr (fun j hj => by
            unfold dblB
            rw [← HA0.out, if_pos hl]
            by_cases e : j = 15
            · rw [if_pos e, if_pos e, hV]; unfold dbl1; rw [if_pos rfl]
            · rw [if_neg e, if_neg e]; unfold dbl1; rw [if_neg e])
          have hcv : (convert 22 9 (.slice (some ⟨w.heap.size, 0, none⟩) 16 gc)).run Try.prog (wr.setCell ⟨w.heap.size, 15, none⟩ (.int .u8 (V : Nat))) = .ok (.string (kstr (dblB A) 0 16)) (wr.setCell ⟨w.heap.size, 15, none⟩ (.int .u8 (V : Nat))) := kstr_of_code HW3.code
          have HB3 : Hid (Below w.heap.size w (wr.setCell ⟨w.heap.size, 15, none⟩ (.int .u8 (V : Nat)))) := HB.out.setCell (by exact Nat.le_refl _) _
          clear HW3 hw2 HW2 hV
          generalize dbl1 A 15 = D1 at *
          go_wp2
          go_ret
          exact ⟨rfl, HB3.out⟩
        · have y1 : ¬ (A0 : Int) / 128 = 1 := by omega
          have hcv : (convert 22 9 (.slice (some ⟨w.heap.size, 0, none⟩) 16 gc)).run Try.prog wr = .ok (.string (kstr (dblB A) 0 16)) wr := kstr_of_code (hw2.congr (fun j hj => by
            unfold dblB
            rw [← HA0.out, if_neg hl]
            by_cases e : j = 15
            · rw [if_pos e, e]; unfold dbl1; rw [if_pos rfl, Nat.xor_zero]
            · rw [if_neg e]; unfold dbl1; rw [if_neg e])).code
          clear hw2 HW2
          go_wp2
          go_ret
          exact ⟨rfl, HB.out⟩
end Go.Proofs.Ytbajdphiaibmgaa
