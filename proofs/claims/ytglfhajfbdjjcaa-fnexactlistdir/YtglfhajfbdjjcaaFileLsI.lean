/-
  ListDir of the program.
-/
import Derived.Test.YtglfhajfbdjjcaaFileRm
import Derived.Test.YtglfhajfbdjjcaaFileLsS
import Derived.Test.YtglfhajfbdjjcaaBelowN
import Derived.RangeFuncNested
namespace Go.Proofs.Ytglfhajfbdjjcaa
open Go.ChangeShapes Go.WideShapes Go.ChangeAt Go.RowKit
set_option linter.unusedVariables false
open Classical in
/-- The name that a file below gives, or none. -/
noncomputable def nmOf (x : ByteArray × Fi) : List ByteArray := if NoSl x.1 0 x.1.size then [if x.2.d then x.1 ++ ⟨#[47]⟩ else x.1] else []
/-- The text behind the head of file k. -/
def rsT (F : Nat → Fi) (h : ByteArray) (k : Nat) : ByteArray := (F k).p.extract h.size (F k).p.size
/-- The names that files at places give. -/
noncomputable def nms (F : Nat → Fi) (h : ByteArray) (n : Nat) (l : List {i : Nat // i < n}) : List ByteArray := (l.map (fun x => nmOf (rsT F h x.1, F x.1))).flatten
theorem nms_snoc (F : Nat → Fi) (h : ByteArray) (n : Nat) (l : List {i : Nat // i < n}) (x : {i : Nat // i < n}) : nms F h n (l ++ [x]) = nms F h n l ++ nmOf (rsT F h x.1, F x.1) := by
  unfold nms
  simp
theorem nms_le (F : Nat → Fi) (h : ByteArray) (n : Nat) : ∀ l : List {i : Nat // i < n}, (nms F h n l).length ≤ l.length
  | [] => by simp [nms]
  | x :: l => by
    have := nms_le F h n l
    have h1 : nms F h n (x :: l) = nmOf (rsT F h x.1, F x.1) ++ nms F h n l := by unfold nms; simp
    have h2 : (nmOf (rsT F h x.1, F x.1)).length ≤ 1 := by unfold nmOf; split <;> simp
    rw [h1, List.length_append, List.length_cons]
    omega
theorem blwN_le (F : Nat → Fi) (h : ByteArray) (n : Nat) : ∀ k, (blwN F h n k).length ≤ k
  | 0 => by simp [blwN]
  | k + 1 => by
    have := blwN_le F h n k
    rw [blwN, List.length_append]
    split
    · split <;> simp <;> omega
    · simp; omega
theorem noSl_cut (s : ByteArray) (o : Nat) (ho : o ≤ s.size) : NoSl (s.extract o s.size) 0 (s.extract o s.size).size ↔ NoSl s o s.size := by
  have hz : (s.extract o s.size).size = s.size - o := by simp
  have hb : ∀ j, byteAt (s.extract o s.size) j = byteAt s (o + j) := fun j => byteAt_extract s o j
  constructor
  · intro h j h1 h2
    have := h (j - o) (by omega) (by omega)
    rw [hb] at this
    rwa [show o + (j - o) = j from by omega] at this
  · intro h j h1 h2
    rw [hb]
    exact h (o + j) (by omega) (by omega)
theorem nms_blw (F : Nat → Fi) (p : ByteArray) (n : Nat) : ∀ k, k ≤ n → (∀ i, i < n → PathOk (F i).p) → nms F (aheadT p) n (blwN F (aheadT p) n k) = lsL F p k
  | 0, _, _ => rfl
  | k + 1, hk, h => by
    have ih := nms_blw F p n k (by omega) h
    have pi := par_iff (p := p) (h k (by omega))
    by_cases h1 : HasPre (F k).p (aheadT p)
    · have nc := noSl_cut (F k).p (aheadT p).size h1.1
      rw [blwN_yes (by omega) h1, nms_snoc, ih]
      by_cases h2 : NoSl (F k).p (aheadT p).size (F k).p.size
      · rw [lsL_yes (pi.2 ⟨h1, h2⟩)]
        unfold nmOf rsT
        rw [if_pos (nc.2 h2)]
        rfl
      · rw [lsL_no (fun q => h2 (pi.1 q).2)]
        unfold nmOf rsT
        rw [if_neg (fun q => h2 (nc.1 q)), List.append_nil]
    · rw [blwN_no h1, ih, lsL_no (fun q => h1 (pi.1 q).1)]
end Go.Proofs.Ytglfhajfbdjjcaa
