/-
  The model's chains: l02Both, l02CbcEncrypt, CbcEncrypt.
-/
import Derived.Test.YtbhlgcenfanicaaModelK
import Derived.Lib.AppendStr
import Derived.Laws.IdiomStrings
namespace Go.Proofs.Ytbhlgcenfanicaa
open Go.ChangeShapes Go.WideShapes Go.ChangeAt Go.RowKit
/-- n bytes from block b's head on, that may be written. -/
def WB (w : World) (b n : Nat) (f : Nat → Nat) : Prop := ∀ r, r < n → w.cell? ⟨b, r, none⟩ = some (.int .u8 (f r : Nat)) ∧ w.frozen? ⟨b, r, none⟩ = false
theorem WB.set {w : World} {b n : Nat} {f : Nat → Nat} (h : WB w b n f) (i v : Nat) : WB (w.setCell ⟨b, i, none⟩ (.int .u8 (v : Nat))) b n (fun r => if r = i then v else f r) := fun r hr => by
  have hr' := h r hr
  refine ⟨?_, by rw [World.frozen?_setCell]; exact hr'.2⟩
  by_cases e : r = i
  · subst e
    simp only [if_true]
    exact World.cell?_setCell_same _ _ _ hr'.1
  · simp only [if_neg e]
    rw [← hr'.1]
    exact World.cell?_setCell_other _ _ _ _ (by intro h; cases h; exact e rfl)
theorem WB.congr {w : World} {b n : Nat} {f g : Nat → Nat} (h : WB w b n f) (e : ∀ r, r < n → f r = g r) : WB w b n g := fun r hr => by rw [← e r hr]; exact h r hr
theorem WB.code {w : World} {b n : Nat} {f : Nat → Nat} (h : WB w b n f) : Code8 w (some ⟨b, 0, none⟩) n f := code8_of (fun i hi => by rw [Nat.zero_add]; exact (h i hi).1)
/-- A text as bytes of its own. -/
theorem bytesOf (s : ByteArray) (w : World) : ∃ wz gc, (convert 9 22 (.string s)).run Try.prog w = .ok (.slice (some ⟨w.heap.size, 0, none⟩) s.size gc) wz ∧ WB wz w.heap.size s.size (strB s) ∧ Below w.heap.size w wz ∧ s.size ≤ gc := by
  refine ⟨_, _, run_bytes_of_string w 9 22 5 s Try.underlying9 Try.underlying22 Try.underlying5, fun r hr => ?_, (Below.refl _ _).drew.alloc (Nat.le_refl _) _, grownCap_ge _ _ _ _⟩
  have hd : r < s.data.size := hr
  have hrow := bytesRow_at s (grownCap w s.size 0 5) r hd
  have hlt : r < (bytesRow s (grownCap w s.size 0 5)).size := by
    rcases Nat.lt_or_ge r (bytesRow s (grownCap w s.size 0 5)).size with h | h
    · exact h
    · rw [Array.getElem?_eq_none h] at hrow; cases hrow
  refine ⟨?_, ?_⟩
  · have e := World.cell?_alloc_mark w.drew (bytesRow s (grownCap w s.size 0 5)) 5 ((bytesRow s (grownCap w s.size 0 5)).size, (bytesRow s (grownCap w s.size 0 5)).size + 1) r
    refine e.trans ?_
    rw [hrow]
    simp [strB, hr, ByteArray.getElem_eq_getElem_data]
  · show (w.drew.alloc (.cells (bytesRow s (grownCap w s.size 0 5)) 5 ((bytesRow s (grownCap w s.size 0 5)).size, (bytesRow s (grownCap w s.size 0 5)).size + 1))).frozen? ⟨w.drew.heap.size, r, none⟩ = false
    rw [World.frozen?_alloc_mark]
    simp
    intro h
    omega
set_option maxRecDepth 100000 in
set_option maxHeartbeats 1000000 in
/-- spec.l02Both: a text of sixteen bytes, and sixteen bytes, summed. -/
theorem l02Both_any (s : ByteArray) (hs : s.size = 16) (b o c : Nat) (f : Nat → Nat) (hf : ∀ i, i < 16 → f i < 256) (w : World) (h : Code8 w (some ⟨b, o, none⟩) 16 f) :
    Calls Try.prog 43 #[.string s, .slice (some ⟨b, o, none⟩) 16 c] w fun e w' => e = .returned (.string (kstr (fun j => strB s j ^^^ f j) 0 16)) ∧ Below w.heap.size w w' := by
  obtain ⟨wz, gc, hcv, hWB, hBz, hgc⟩ := bytesOf s w
  rw [hs] at hcv hWB
  have hb : b < w.heap.size := h.lt _ (by omega) rfl
  have HC : Hid (Code8 w (some ⟨b, o, none⟩) 16 f) := h
  have HW : Hid (WB wz w.heap.size 16 (strB s)) := hWB
  have HBz : Hid (Below w.heap.size w wz) := hBz
  have HF : Hid (∀ i, i < 16 → f i < 256) := hf
  have LS : Hid (∀ j, strB s j < 256) := strB_lt s
  obtain ⟨A, hA⟩ : ∃ A, A = strB s := ⟨_, rfl⟩
  rw [← hA] at HW LS ⊢
  clear h hWB hBz hf hs hA hgc
  go_enter Try.func43, Try.ntmps43
  go_wp2
  go_loopw [6] (fun i wr => ∃ k : Nat, k ≤ 16 ∧ i = .int .i64 k ∧ WB wr w.heap.size 16 (fun j => if j < k then A j ^^^ f j else A j) ∧ Below w.heap.size w wr) (fun i _ => 16 - (intOf i).toNat)
  case atStart => exact ⟨0, by omega, rfl, HW.out.congr (fun j hj => by rw [if_neg (by omega)]), HBz.out⟩
  case round =>
    clear HW HBz hcv
    obtain ⟨k, hk, rfl, hw, hb2⟩ := hrel
    have HW : Hid (WB wr w.heap.size 16 (fun j => if j < k then A j ^^^ f j else A j)) := hw
    have HB : Hid (Below w.heap.size w wr) := hb2
    by_cases hlt : k < 16
    · have c1 := (hw k hlt).1
      simp only [Nat.lt_irrefl, if_false] at c1
      have f1 := (hw k hlt).2
      have c2 : wr.cell? ⟨b, o + k, none⟩ = some (.int .u8 (f k : Nat)) := by rw [hb2.cell (p := ⟨b, o + k, none⟩) hb]; exact HC.out.at hlt
      have ex : bits .xor .u8 (A k : Int) (f k : Int) = ((A k ^^^ f k : Nat) : Int) := u8_xor_nat _ _ (LS.out k) (HF.out k hlt)
      have x0 : (0 : Int) ≤ (k : Int) := by omega
      have x1 : (k : Int) < 16 := by omega
      have HV : Hid (∀ j, j < 16 → (if j = k then A k ^^^ f k else if j < k then A j ^^^ f j else A j) = if j < k + 1 then A j ^^^ f j else A j) := fun j hj => by
        by_cases e : j = k
        · subst e; rw [if_pos rfl, if_pos (by omega)]
        · rw [if_neg e]
          by_cases e2 : j < k
          · rw [if_pos e2, if_pos (by omega)]
          · rw [if_neg e2, if_neg (by omega)]
      have la := LS.out k
      have lf := HF.out k hlt
      obtain ⟨V, hV⟩ : ∃ V, V = A k ^^^ f k := ⟨_, rfl⟩
      rw [← hV] at ex HV
      clear hV hw hb2
      generalize A k = A1 at *
      generalize f k = A2 at *
      go_wp2_with fail
      go_region
      go_wp2
      go_roundw
      case rel =>
        refine ⟨k + 1, by omega, by go_num, (HW.out.set k V).congr HV.out, ?_⟩
        exact (HB.out.setCell (by exact Nat.le_refl _) _).drew
      case measure => simp [intOf]; omega
    · have hcv : (convert 22 9 (.slice (some ⟨w.heap.size, 0, none⟩) 16 gc)).run Try.prog wr = .ok (.string (kstr (fun j => A j ^^^ f j) 0 16)) wr := kstr_of_code (hw.congr (fun j hj => by rw [if_pos (by omega)])).code
      have x1 : ¬ (k : Int) < 16 := by omega
      clear hw hb2 HW
      go_wp2
      go_ret
      exact ⟨rfl, HB.out⟩
theorem strCells_bv (s : ByteArray) : Lib.strCells s = bv s.size (strB s) := (bv_text s s.size rfl).symm
end Go.Proofs.Ytbhlgcenfanicaa
