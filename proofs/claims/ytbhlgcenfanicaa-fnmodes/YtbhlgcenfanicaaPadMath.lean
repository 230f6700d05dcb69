/-
  Padding, as plain mathematics: bytes are functions of their places.
-/
import Derived.Test.YtbhlgcenfanicaaGf
namespace Go.Proofs.Ytbhlgcenfanicaa
/-- How many bytes fill n up. -/
def fillN (n : Nat) : Nat := 16 - n % 16
/-- n bytes f, filled up. -/
def padF (n : Nat) (f : Nat → Nat) (i : Nat) : Nat := if i < n then f i else fillN n
/-- n bytes f are rightly padded. -/
def UnOK (n : Nat) (f : Nat → Nat) : Prop := 0 < n ∧ n % 16 = 0 ∧ 1 ≤ f (n - 1) ∧ f (n - 1) ≤ 16 ∧ ∀ i, n - f (n - 1) ≤ i → i < n → f i = f (n - 1)
theorem fillN_bd (n : Nat) : 1 ≤ fillN n ∧ fillN n ≤ 16 := by unfold fillN; omega
theorem padN_mod (n : Nat) : (n + fillN n) % 16 = 0 := by unfold fillN; omega
theorem padF_lt {n : Nat} {f : Nat → Nat} (hf : ∀ i, f i < 256) (i : Nat) : padF n f i < 256 := by
  unfold padF
  split
  · exact hf i
  · have := (fillN_bd n).2; omega
theorem unOK_pad (n : Nat) (f : Nat → Nat) : UnOK (n + fillN n) (padF n f) := by
  have hb := fillN_bd n
  have e : padF n f (n + fillN n - 1) = fillN n := by unfold padF; rw [if_neg (by omega)]
  refine ⟨by omega, padN_mod n, by omega, by omega, fun i h1 h2 => ?_⟩
  rw [e] at h1 ⊢
  unfold padF
  rw [if_neg (by omega)]
theorem pad_last (n : Nat) (f : Nat → Nat) : n + fillN n - padF n f (n + fillN n - 1) = n := by
  have hb := fillN_bd n
  have e : padF n f (n + fillN n - 1) = fillN n := by unfold padF; rw [if_neg (by omega)]
  omega
theorem unOK_size {n : Nat} {f : Nat → Nat} (h : UnOK n f) : n - f (n - 1) + fillN (n - f (n - 1)) = n := by
  obtain ⟨h0, h1, h2, h3, _⟩ := h
  unfold fillN
  omega
theorem unOK_fill {n : Nat} {f : Nat → Nat} (h : UnOK n f) : fillN (n - f (n - 1)) = f (n - 1) := by
  obtain ⟨h0, h1, h2, h3, _⟩ := h
  unfold fillN
  omega
theorem unOK_again {n : Nat} {f : Nat → Nat} (h : UnOK n f) (i : Nat) (hi : i < n) : padF (n - f (n - 1)) f i = f i := by
  unfold padF
  split
  · rfl
  · rw [unOK_fill h]
    exact (h.2.2.2.2 i (by omega) hi).symm
end Go.Proofs.Ytbhlgcenfanicaa
