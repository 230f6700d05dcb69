/-
  Words of a line by their places (mathematics alone).
-/
import Derived.Test.YthebbijbedffpaaDoorCutB
import Derived.Lib.TrimByte
namespace Go.Proofs.YthebbijbedffpaaDoor
set_option linter.unusedVariables false
/-- Behind the blanks that stand from i on. -/
def nb (s : ByteArray) (i : Nat) : Nat := if i < s.size then (if byteAt s i = 32 then nb s (i + 1) else i) else i
termination_by s.size - i
/-- The first blank from i on, or the end. -/
def we (s : ByteArray) (i : Nat) : Nat := if i < s.size then (if byteAt s i = 32 then i else we s (i + 1)) else i
termination_by s.size - i
theorem nb_spec (s : ByteArray) (i : Nat) : i ≤ nb s i ∧ (i ≤ s.size → nb s i ≤ s.size) ∧ (∀ k, i ≤ k → k < nb s i → byteAt s k = 32) ∧ (nb s i < s.size → byteAt s (nb s i) ≠ 32) := by
  rw [nb]
  split
  · rename_i h
    split
    · rename_i e
      obtain ⟨h1, h2, h3, h4⟩ := nb_spec s (i + 1)
      refine ⟨by omega, fun _ => h2 (by omega), fun k hk hk2 => ?_, h4⟩
      rcases Nat.eq_or_lt_of_le hk with q | q
      · rw [← q]; exact e
      · exact h3 k (by omega) hk2
    · rename_i e
      exact ⟨Nat.le_refl _, fun h => h, fun k hk hk2 => by omega, fun _ => e⟩
  · rename_i h
    exact ⟨Nat.le_refl _, fun h => h, fun k hk hk2 => by omega, fun q => absurd q h⟩
termination_by s.size - i
theorem we_spec (s : ByteArray) (i : Nat) : i ≤ we s i ∧ (i ≤ s.size → we s i ≤ s.size) ∧ (∀ k, i ≤ k → k < we s i → byteAt s k ≠ 32) ∧ (we s i < s.size → byteAt s (we s i) = 32) := by
  rw [we]
  split
  · rename_i h
    split
    · rename_i e
      exact ⟨Nat.le_refl _, fun h => h, fun k hk hk2 => by omega, fun _ => e⟩
    · rename_i e
      obtain ⟨h1, h2, h3, h4⟩ := we_spec s (i + 1)
      refine ⟨by omega, fun _ => h2 (by omega), fun k hk hk2 => ?_, h4⟩
      rcases Nat.eq_or_lt_of_le hk with q | q
      · rw [← q]; exact e
      · exact h3 k (by omega) hk2
  · rename_i h
    exact ⟨Nat.le_refl _, fun h => h, fun k hk hk2 => by omega, fun q => absurd q h⟩
termination_by s.size - i
theorem nb_uniq {s : ByteArray} {i j : Nat} (h1 : i ≤ j) (h2 : j ≤ s.size ∨ j = i) (h3 : ∀ k, i ≤ k → k < j → byteAt s k = 32) (h4 : j < s.size → byteAt s j ≠ 32) : nb s i = j := by
  obtain ⟨a1, a2, a3, a4⟩ := nb_spec s i
  rcases Nat.lt_trichotomy (nb s i) j with q | q | q
  · have hj : nb s i < s.size := by omega
    exact absurd (h3 _ a1 q) (a4 hj)
  · exact q
  · have hj : j < s.size := by
      rcases Nat.lt_or_ge j s.size with z | z
      · exact z
      · have : byteAt s j = 32 := a3 j h1 q
        rw [byteAt_out s j z] at this
        omega
    exact absurd (a3 j h1 q) (h4 hj)
theorem we_uniq {s : ByteArray} {i j : Nat} (h1 : i ≤ j) (h2 : j ≤ s.size ∨ j = i) (h3 : ∀ k, i ≤ k → k < j → byteAt s k ≠ 32) (h4 : j < s.size → byteAt s j = 32) (hi : i ≤ s.size) : we s i = j := by
  obtain ⟨a1, a2, a3, a4⟩ := we_spec s i
  have a2' := a2 hi
  rcases Nat.lt_trichotomy (we s i) j with q | q | q
  · have hj : we s i < s.size := by omega
    exact absurd (a4 hj) (h3 _ a1 q)
  · exact q
  · have hj : j < s.size := by omega
    exact absurd (h4 hj) (a3 j h1 q)
theorem nb_out {s : ByteArray} {i : Nat} (h : s.size ≤ i) : nb s i = i := by rw [nb, if_neg (by omega)]
theorem nb_ext (s : ByteArray) (o i : Nat) (ho : o + i ≤ s.size) : o + nb (s.extract o s.size) i = nb s (o + i) := by
  have hs : (s.extract o s.size).size = s.size - o := extract_size s o s.size (Nat.le_refl _)
  obtain ⟨a1, a2, a3, a4⟩ := nb_spec (s.extract o s.size) i
  have a2' := a2 (by omega)
  exact (nb_uniq (by omega) (.inl (by omega)) (fun k h1 h2 => by
    have := a3 (k - o) (by omega) (by omega)
    rw [byteAt_extract, show o + (k - o) = k from by omega] at this
    exact this) (fun h => by
    have := a4 (by omega)
    rw [byteAt_extract] at this
    exact this)).symm
theorem trimL (s : ByteArray) : (⟨(Lib.trimLeftB s.data.toList 32).toArray⟩ : ByteArray) = s.extract (nb s 0) s.size := by
  obtain ⟨a1, a2, a3, a4⟩ := nb_spec s 0
  have a2' := a2 (Nat.zero_le _)
  have hl : s.data.toList.length = s.size := rfl
  rw [Lib.trimLeftB_drop s.data.toList 32 (nb s 0) (by rw [hl]; exact a2') (fun j b hj hb => by
    have hk : j < s.size := by omega
    have := (byteAt_sl s j hk).1 (a3 j (Nat.zero_le _) hj)
    rw [this] at hb
    exact (Option.some.inj hb).symm) (fun b hb e => by
    have hk : nb s 0 < s.size := by
      rcases Nat.lt_or_ge (nb s 0) s.size with q | q
      · exact q
      · rw [List.getElem?_eq_none (by rw [hl]; exact q)] at hb; cases hb
    rw [e] at hb
    exact a4 hk ((byteAt_sl s _ hk).2 hb))]
  apply ByteArray.ext
  apply Array.toList_inj.1
  simp only [ByteArray.data_extract, Array.toList_extract]
  rw [List.extract_eq_take_drop, List.take_of_length_le (by rw [List.length_drop, hl]; exact Nat.le_refl _)]
end Go.Proofs.YthebbijbedffpaaDoor
