/-
  What stands in a directory: its paths' parent, told by their beginning.
-/
import Derived.Test.YtglfhajfbdjjcaaFileRmS
namespace Go.Proofs.Ytglfhajfbdjjcaa
open Go.ChangeShapes Go.WideShapes Go.ChangeAt Go.RowKit
set_option linter.unusedVariables false
theorem lastTo_spec (s : ByteArray) : ∀ k, (NoSl s 0 k ∧ lastTo s k = 0) ∨ (lastTo s k < k ∧ byteAt s (lastTo s k) = 47 ∧ NoSl s (lastTo s k + 1) k)
  | 0 => .inl ⟨fun j _ h => absurd h (by omega), rfl⟩
  | k + 1 => by
    unfold lastTo
    by_cases e : byteAt s k = 47
    · rw [if_pos e]
      exact .inr ⟨by omega, e, fun j h1 h2 => by omega⟩
    · rw [if_neg e]
      rcases lastTo_spec s k with ⟨h1, h2⟩ | ⟨h1, h2, h3⟩
      · refine .inl ⟨fun j a b => ?_, h2⟩
        by_cases q : j = k
        · subst q; exact e
        · exact h1 j a (by omega)
      · refine .inr ⟨by omega, h2, fun j a b => ?_⟩
        by_cases q : j = k
        · subst q; exact e
        · exact h3 j a (by omega)
theorem PathOk.first {s : ByteArray} (h : PathOk s) : byteAt s 0 ≠ 47 := fun e => by
  have h1 := h.2 (s.extract 0 0) (by rw [scan_hit s 0 0 (pathOk_pos h) e]; simp)
  have := h1.1
  rw [extract_size _ _ _ (Nat.zero_le _)] at this
  omega
theorem extract_snoc (s : ByteArray) (q : Nat) (h : q < s.size) (e : byteAt s q = 47) : s.extract 0 (q + 1) = s.extract 0 q ++ ⟨#[47]⟩ := by
  have g := (byteAt_sl s q h).1 e
  apply ByteArray.ext
  apply Array.ext'
  rw [ByteArray.data_append, Array.toList_append, extract_take, extract_take, List.take_add_one, g]
  rfl
theorem hasPre_sl {s p : ByteArray} (h : p.size + 1 ≤ s.size) (e : s.extract 0 (p.size + 1) = p ++ ⟨#[47]⟩) : s.extract 0 p.size = p ∧ byteAt s p.size = 47 := by
  have g : (s.extract 0 (p.size + 1)).data.toList = (p ++ (⟨#[47]⟩ : ByteArray)).data.toList := by rw [e]
  rw [extract_take, ByteArray.data_append, Array.toList_append, List.take_add_one] at g
  have hl : (s.data.toList.take p.size).length = p.data.toList.length := by
    rw [List.length_take, Array.length_toList, Array.length_toList]
    show min p.size s.size = p.size
    omega
  obtain ⟨g1, g2⟩ := List.append_inj g hl
  constructor
  · apply ByteArray.ext
    apply Array.ext'
    rw [extract_take]
    exact g1
  · refine (byteAt_sl s p.size (by omega)).2 ?_
    cases hh : s.data.toList[p.size]? with
    | none => rw [hh] at g2; cases g2
    | some x =>
      rw [hh] at g2
      have : [x] = ([47] : List UInt8) := g2
      cases this
      rfl
/-- A path's parent: what it begins with, and no slash behind that. -/
theorem par_iff {s p : ByteArray} (hs : PathOk s) : par s = p ↔ (HasPre s (aheadT p) ∧ NoSl s (aheadT p).size s.size) := by
  have hp := pathOk_pos hs
  constructor
  · rintro rfl
    rcases lastTo_spec s s.size with ⟨h1, h2⟩ | ⟨h1, h2, h3⟩
    · have e : par s = ⟨#[]⟩ := by unfold par; rw [h2]; exact extract_none s
      have e2 : aheadT (par s) = ⟨#[]⟩ := by rw [e]; rfl
      rw [e2]
      exact ⟨⟨Nat.zero_le _, extract_none s⟩, h1⟩
    · have hq : 0 < lastTo s s.size := by
        rcases Nat.eq_zero_or_pos (lastTo s s.size) with z | z
        · rw [z] at h2; exact absurd h2 hs.first
        · exact z
      have hps : (par s).size = lastTo s s.size := by unfold par; rw [extract_size _ _ _ (lastTo_le _ _)]; omega
      have e2 : aheadT (par s) = par s ++ ⟨#[47]⟩ := by unfold aheadT; rw [if_neg (by omega)]
      rw [e2]
      unfold HasPre
      rw [size_sl, hps]
      exact ⟨⟨by omega, extract_snoc s _ h1 h2⟩, h3⟩
  · rintro ⟨⟨h1, h2⟩, h3⟩
    by_cases e : p.size = 0
    · have e2 : aheadT p = ⟨#[]⟩ := by unfold aheadT; rw [if_pos e]
      rw [e2] at h3
      have ep : p = ⟨#[]⟩ := by
        apply ByteArray.ext
        apply Array.ext'
        have : p.data.toList.length = 0 := by rw [Array.length_toList]; exact e
        exact List.length_eq_zero_iff.1 this
      rcases lastTo_spec s s.size with ⟨_, g2⟩ | ⟨g1, g2, _⟩
      · unfold par; rw [g2, ep]; exact extract_none s
      · exact absurd g2 (h3 _ (Nat.zero_le _) g1)
    · have e2 : aheadT p = p ++ ⟨#[47]⟩ := by unfold aheadT; rw [if_neg e]
      rw [e2, size_sl] at h1 h2 h3
      obtain ⟨g1, g2⟩ := hasPre_sl h1 h2
      rcases lastTo_spec s s.size with ⟨k1, _⟩ | ⟨k1, k2, k3⟩
      · exact absurd g2 (k1 _ (Nat.zero_le _) (by omega))
      · have : lastTo s s.size = p.size := by
          rcases Nat.lt_trichotomy (lastTo s s.size) p.size with z | z | z
          · exact absurd g2 (k3 _ (by omega) (by omega))
          · exact z
          · exact absurd k2 (h3 _ (by omega) k1)
        unfold par
        rw [this]
        exact g1
end Go.Proofs.Ytglfhajfbdjjcaa
