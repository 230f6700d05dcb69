/-
  The leaves beside the way up: as a list of spans; what a proof leads to, step by step.
-/
import Derived.Test.YtpljdlgjeeikkaaDoorTreeM
namespace Go.Proofs.YtpljdlgjeeikkaaDoor
open Go.ChangeShapes Go.WideShapes Go.ChangeAt Go.RowKit
set_option linter.unusedVariables false
/-- The spans beside the way up from place k within p to q, the lowest first. -/
def sideT (p q k : Nat) : List (Nat × Nat) :=
  if h : q - p ≤ 1 then [] else if k < p + gh (q - p) then sideT p (p + gh (q - p)) k ++ [(p + gh (q - p), q)] else sideT (p + gh (q - p)) q k ++ [(p, p + gh (q - p))]
termination_by q - p
decreasing_by
  · unfold gh; omega
  · unfold gh; omega
theorem sideT_one (p q k : Nat) (h : q - p ≤ 1) : sideT p q k = [] := by rw [sideT, dif_pos h]
theorem sideT_lo (p q k m : Nat) (h : 2 ≤ q - p) (hm : m = p + gh (q - p)) (hk : k < m) : sideT p q k = sideT p m k ++ [(m, q)] := by subst hm; rw [sideT, dif_neg (by omega), if_pos hk]
theorem sideT_hi (p q k m : Nat) (h : 2 ≤ q - p) (hm : m = p + gh (q - p)) (hk : ¬ k < m) : sideT p q k = sideT m q k ++ [(p, m)] := by subst hm; rw [sideT, dif_neg (by omega), if_neg hk]
def entS (L : List (Nat × Nat)) (i : Nat) : Nat × Nat := L.getD i (0, 0)
theorem entS_app (L : List (Nat × Nat)) (x : Nat × Nat) {i : Nat} (h : i < L.length) : entS (L ++ [x]) i = entS L i := by
  unfold entS
  rw [List.getD_eq_getElem?_getD, List.getD_eq_getElem?_getD, List.getElem?_append_left h]
theorem entS_last (L : List (Nat × Nat)) (x : Nat × Nat) : entS (L ++ [x]) L.length = x := by
  unfold entS
  simp
/-- One step up after another. -/
def stepT (k : Nat) (P : Nat → ByteArray) (L : Nat → Nat × Nat) (h : ByteArray) : Nat → ByteArray
  | 0 => h
  | i + 1 => if (L i).2 ≤ k then nodeT (P i) (stepT k P L h i) else nodeT (stepT k P L h i) (P i)
theorem stepT_size (k : Nat) (P : Nat → ByteArray) (L : Nat → Nat × Nat) (h : ByteArray) (hh : h.size = 32) : ∀ i, (stepT k P L h i).size = 32
  | 0 => hh
  | i + 1 => by
    unfold stepT
    split
    · exact hashT_size _
    · exact hashT_size _
theorem stepT_congr {k : Nat} {P : Nat → ByteArray} {L M : Nat → Nat × Nat} {h : ByteArray} : ∀ {i : Nat}, (∀ j, j < i → L j = M j) → stepT k P L h i = stepT k P M h i
  | 0, _ => rfl
  | i + 1, e => by
    unfold stepT
    rw [e i (by omega), stepT_congr (fun j hj => e j (by omega))]
theorem side_len {n : Nat} : ∀ {p q k : Nat}, q - p = n → p ≤ k → k < q → (sideT p q k).length = lenT n (k - p) := by
  induction n using Nat.strongRecOn with
  | ind n ih =>
    intro p q k e h1 h2
    rcases (show n ≤ 1 ∨ 2 ≤ n by omega) with h | h
    · rw [sideT_one _ _ _ (by omega), lenT_one _ _ h]
      rfl
    · have g1 := gh_lt h
      have g2 := gh_pos (n := n) (by omega)
      obtain ⟨m, hm⟩ : ∃ m, m = p + gh (q - p) := ⟨_, rfl⟩
      rw [e] at hm
      by_cases hk : k < m
      · rw [sideT_lo p q k m (by omega) (by rw [e]; exact hm) hk, lenT_lo _ _ h (by omega), List.length_append, ih (gh n) g1 (by omega) h1 hk]
        rfl
      · rw [sideT_hi p q k m (by omega) (by rw [e]; exact hm) hk, lenT_hi _ _ h (by omega), List.length_append, ih (n - gh n) (by omega) (by omega) (by omega) h2, show k - m = k - p - gh n from by omega]
        rfl
theorem side_up (h : ByteArray) (P : Nat → ByteArray) {n : Nat} : ∀ {p q k : Nat}, q - p = n → p ≤ k → k < q → stepT k P (entS (sideT p q k)) h (lenT n (k - p)) = upT h n (k - p) P := by
  induction n using Nat.strongRecOn with
  | ind n ih =>
    intro p q k e h1 h2
    rcases (show n ≤ 1 ∨ 2 ≤ n by omega) with hn | hn
    · rw [lenT_one _ _ hn, upT_one _ _ _ _ hn]
      rfl
    · have g1 := gh_lt hn
      have g2 := gh_pos (n := n) (by omega)
      obtain ⟨m, hm⟩ : ∃ m, m = p + gh (q - p) := ⟨_, rfl⟩
      rw [e] at hm
      by_cases hk : k < m
      · have el := side_len (p := p) (q := m) (k := k) (n := gh n) (by omega) h1 hk
        have e2 := entS_last (sideT p m k) (m, q)
        rw [sideT_lo p q k m (by omega) (by rw [e]; exact hm) hk, lenT_lo _ _ hn (by omega), upT_lo _ _ _ _ hn (by omega)]
        rw [el] at e2
        show (if (entS _ (lenT (gh n) (k - p))).2 ≤ k then _ else _) = _
        rw [e2, if_neg (by dsimp only; omega), stepT_congr (M := entS (sideT p m k)) (fun j hj => entS_app _ _ (by rw [el]; exact hj)), ih (gh n) g1 (by omega) h1 hk]
      · have el := side_len (p := m) (q := q) (k := k) (n := n - gh n) (by omega) (by omega) h2
        have e2 := entS_last (sideT m q k) (p, m)
        have ek : k - p - gh n = k - m := by omega
        rw [sideT_hi p q k m (by omega) (by rw [e]; exact hm) hk, lenT_hi _ _ hn (by omega), upT_hi _ _ _ _ hn (by omega), ek]
        rw [el] at e2
        show (if (entS _ (lenT (n - gh n) (k - m))).2 ≤ k then _ else _) = _
        rw [e2, if_pos (by dsimp only; omega), stepT_congr (M := entS (sideT m q k)) (fun j hj => entS_app _ _ (by rw [el]; exact hj)), ih (n - gh n) (by omega) (by omega) (by omega) h2]
theorem side_path (F : Nat → Lf) {n : Nat} : ∀ {p q k : Nat}, q - p = n → p ≤ k → k < q → (sideT p q k).map (fun s => treeT F s.1 (s.2 - s.1)) = pathT F p n (k - p) := by
  induction n using Nat.strongRecOn with
  | ind n ih =>
    intro p q k e h1 h2
    rcases (show n ≤ 1 ∨ 2 ≤ n by omega) with h | h
    · rw [sideT_one _ _ _ (by omega), pathT_one _ _ _ _ h]
      rfl
    · have g1 := gh_lt h
      have g2 := gh_pos (n := n) (by omega)
      obtain ⟨m, hm⟩ : ∃ m, m = p + gh (q - p) := ⟨_, rfl⟩
      rw [e] at hm
      by_cases hk : k < m
      · rw [sideT_lo p q k m (by omega) (by rw [e]; exact hm) hk, pathT_lo _ _ _ _ h (by omega), List.map_append, ih (gh n) g1 (by omega) h1 hk]
        show _ ++ [treeT F m (q - m)] = _
        rw [show m = p + gh n from hm, show q - (p + gh n) = n - gh n from by omega]
      · rw [sideT_hi p q k m (by omega) (by rw [e]; exact hm) hk, pathT_hi _ _ _ _ h (by omega), List.map_append, ih (n - gh n) (by omega) (by omega) (by omega) h2]
        show _ ++ [treeT F p (m - p)] = _
        rw [show m = p + gh n from hm, show p + gh n - p = gh n from by omega, show k - (p + gh n) = k - p - gh n from by omega]
theorem side_in {n : Nat} : ∀ {p q k : Nat}, q - p = n → p ≤ k → k < q → ∀ s ∈ sideT p q k, p ≤ s.1 ∧ s.1 < s.2 ∧ s.2 ≤ q := by
  induction n using Nat.strongRecOn with
  | ind n ih =>
    intro p q k e h1 h2 s hs
    rcases (show n ≤ 1 ∨ 2 ≤ n by omega) with h | h
    · rw [sideT_one _ _ _ (by omega)] at hs
      cases hs
    · have g1 := gh_lt h
      have g2 := gh_pos (n := n) (by omega)
      obtain ⟨m, hm⟩ : ∃ m, m = p + gh (q - p) := ⟨_, rfl⟩
      rw [e] at hm
      by_cases hk : k < m
      · rw [sideT_lo p q k m (by omega) (by rw [e]; exact hm) hk] at hs
        rcases List.mem_append.1 hs with q1 | q1
        · have := ih (gh n) g1 (by omega) h1 hk s q1
          omega
        · have := List.mem_singleton.1 q1
          subst this
          dsimp only
          omega
      · rw [sideT_hi p q k m (by omega) (by rw [e]; exact hm) hk] at hs
        rcases List.mem_append.1 hs with q1 | q1
        · have := ih (n - gh n) (by omega) (by omega) (by omega) h2 s q1
          omega
        · have := List.mem_singleton.1 q1
          subst this
          dsimp only
          omega
theorem lenT_le {n : Nat} : ∀ {k : Nat}, lenT n k ≤ n := by
  induction n using Nat.strongRecOn with
  | ind n ih =>
    intro k
    rcases (show n ≤ 1 ∨ 2 ≤ n by omega) with h | h
    · rw [lenT_one _ _ h]; omega
    · have g1 := gh_lt h
      have g2 := gh_pos (n := n) (by omega)
      by_cases hk : k < gh n
      · rw [lenT_lo _ _ h hk]; have := ih _ g1 (k := k); omega
      · rw [lenT_hi _ _ h hk]; have := ih (n - gh n) (by omega) (k := k - gh n); omega
end Go.Proofs.YtpljdlgjeeikkaaDoor
