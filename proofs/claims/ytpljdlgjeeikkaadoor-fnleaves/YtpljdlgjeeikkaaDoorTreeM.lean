/-
  The tree: what is hashed, roots of leaves, and what a proof leads to.
-/
import Derived.Test.YtpljdlgjeeikkaaDoorRowMT
import Derived.Test.YtpljdlgjeeikkaaDoorNonce
import Derived.Test.YtpljdlgjeeikkaaDoorLfOk
namespace Go.Proofs.YtpljdlgjeeikkaaDoor
open Go.ChangeShapes Go.WideShapes Go.ChangeAt Go.RowKit
set_option linter.unusedVariables false
def fourT (x : Nat) : ByteArray := kstr (fourF x) 0 4
theorem fourT_size (x : Nat) : (fourT x).size = 4 := kstr_size _ _ _
theorem fourT_at (x i : Nat) (h : i < 4) : strB (fourT x) i = fourF x i := by
  unfold fourT
  rw [strB_kstr _ _ _ _ (by rw [Nat.zero_add]; exact fourF_lt _ _) h, Nat.zero_add]
def blockL : ByteArray := ⟨#[98, 108, 111, 99, 107]⟩
/-- What is hashed for a block. -/
def bsumX (p v : Nat) (s : ByteArray) : ByteArray := blockL ++ fourT p ++ fourT v ++ s
def bsumT (p v : Nat) (s : ByteArray) : ByteArray := hashT (bsumX p v s)
/-- What is hashed for a leaf, for two roots. -/
def leafX (x : Lf) : ByteArray := ⟨#[0]⟩ ++ fourT x.v.toNat ++ x.h
def leafT (x : Lf) : ByteArray := hashT (leafX x)
def nodeX (a b : ByteArray) : ByteArray := ⟨#[1]⟩ ++ a ++ b
def nodeT (a b : ByteArray) : ByteArray := hashT (nodeX a b)
def noneT : ByteArray := hashT ⟨#[2]⟩
theorem leafX_size (x : Lf) : (leafX x).size = 5 + x.h.size := by
  unfold leafX
  rw [ByteArray.size_append, ByteArray.size_append, fourT_size]
  rfl
theorem nodeX_size (a b : ByteArray) : (nodeX a b).size = 1 + a.size + b.size := by
  unfold nodeX
  rw [ByteArray.size_append, ByteArray.size_append]
  rfl
theorem bsumX_size (p v : Nat) (s : ByteArray) : (bsumX p v s).size = 13 + s.size := by
  unfold bsumX
  rw [ByteArray.size_append, ByteArray.size_append, ByteArray.size_append, fourT_size, fourT_size]
  rfl
theorem leafX_is (x : Lf) (f : Nat → Nat) (hf : f 0 = 0) (i : Nat) (hi : i < 5 + x.h.size) : Sha.cat 5 (numF 1 4 x.v.toNat f) (strB x.h) i = strB (leafX x) i := by
  unfold leafX
  rw [strB_append, strB_append, ByteArray.size_append, fourT_size]
  show Sha.cat 5 _ _ i = if i < 1 + 4 then (if i < 1 then _ else _) else _
  unfold Sha.cat
  rcases Nat.lt_or_ge i 5 with h | h
  · rw [if_pos h, if_pos (by omega)]
    rcases Nat.lt_or_ge i 1 with h1 | h1
    · obtain rfl : i = 0 := by omega
      rw [if_pos (by omega)]
      unfold numF
      rw [if_pos (by omega), hf]
      rfl
    · rw [if_neg (by omega)]
      show _ = strB (fourT x.v.toNat) (i - 1)
      rw [fourT_at _ _ (by omega), show i = 1 + (i - 1) from by omega, four_num, show 1 + (i - 1) - 1 = i - 1 from by omega]
  · rw [if_neg (by omega), if_neg (by omega)]
    rfl
theorem nodeX_is (a b : ByteArray) (f : Nat → Nat) (hf : f 0 = 1) (i : Nat) (hi : i < 1 + a.size + b.size) : Sha.cat (1 + a.size) (Sha.cat 1 f (strB a)) (strB b) i = strB (nodeX a b) i := by
  unfold nodeX
  rw [strB_append, strB_append, ByteArray.size_append]
  show Sha.cat _ _ _ i = if i < 1 + a.size then (if i < 1 then _ else strB a (i - 1)) else strB b (i - (1 + a.size))
  unfold Sha.cat
  rcases Nat.lt_or_ge i (1 + a.size) with h | h
  · rw [if_pos h, if_pos h]
    rcases Nat.lt_or_ge i 1 with h1 | h1
    · obtain rfl : i = 0 := by omega
      rw [if_pos (by omega), if_pos (by omega), hf]
      rfl
    · rw [if_neg (by omega), if_neg (by omega)]
  · rw [if_neg (by omega), if_neg (by omega)]
theorem bsumX_is (p v : Nat) (s : ByteArray) (f : Nat → Nat) (hf : ∀ i, i < 5 → f i = strB blockL i) (i : Nat) (hi : i < 13 + s.size) : Sha.cat 13 (numF 9 4 v (numF 5 4 p f)) (strB s) i = strB (bsumX p v s) i := by
  unfold bsumX
  rw [strB_append, strB_append, strB_append, ByteArray.size_append, ByteArray.size_append, fourT_size, fourT_size]
  show Sha.cat 13 _ _ i = if i < 5 + 4 + 4 then (if i < 5 + 4 then (if i < 5 then strB blockL i else strB (fourT p) (i - 5)) else strB (fourT v) (i - (5 + 4))) else strB s (i - (5 + 4 + 4))
  unfold Sha.cat
  rcases Nat.lt_or_ge i 13 with h | h
  · rw [if_pos h, if_pos (by omega)]
    rcases Nat.lt_or_ge i 9 with h1 | h1
    · rw [if_pos (by omega)]
      rcases Nat.lt_or_ge i 5 with h2 | h2
      · rw [if_pos h2]
        unfold numF
        rw [if_pos (by omega), if_pos h2, hf i h2]
      · rw [if_neg (by omega), fourT_at _ _ (by omega)]
        have e : numF 9 4 v (numF 5 4 p f) i = numF 5 4 p f i := by
          show (if i < 9 then numF 5 4 p f i else _) = _
          rw [if_pos h1]
        rw [e, show i = 5 + (i - 5) from by omega, four_num, show 5 + (i - 5) - 5 = i - 5 from by omega]
    · rw [if_neg (by omega), fourT_at _ _ (by omega), show i = 9 + (i - 9) from by omega, four_num, show 9 + (i - 9) - (5 + 4) = i - 9 from by omega]
  · rw [if_neg (by omega), if_neg (by omega)]
/-- The greater half. -/
def gh (n : Nat) : Nat := (n + 1) / 2
/-- The root of n leaves from o on. -/
def treeT (F : Nat → Lf) (o n : Nat) : ByteArray :=
  if h : n = 0 then noneT else if h1 : n = 1 then leafT (F o) else nodeT (treeT F o (gh n)) (treeT F (o + gh n) (n - gh n))
termination_by n
decreasing_by
  · unfold gh; omega
  · unfold gh; omega
theorem treeT_none (F : Nat → Lf) (o : Nat) : treeT F o 0 = noneT := by rw [treeT]; simp
theorem treeT_one (F : Nat → Lf) (o : Nat) : treeT F o 1 = leafT (F o) := by rw [treeT]; simp
theorem treeT_two (F : Nat → Lf) (o n : Nat) (h : 2 ≤ n) : treeT F o n = nodeT (treeT F o (gh n)) (treeT F (o + gh n) (n - gh n)) := by
  rw [treeT, dif_neg (by omega), dif_neg (by omega)]
theorem treeT_size (F : Nat → Lf) (o n : Nat) : (treeT F o n).size = 32 := by
  rw [treeT]
  split
  · exact hashT_size _
  · split
    · exact hashT_size _
    · exact hashT_size _
theorem treeT_congr {F G : Nat → Lf} {n : Nat} : ∀ {o p : Nat}, (∀ i, i < n → F (o + i) = G (p + i)) → treeT F o n = treeT G p n := by
  induction n using Nat.strongRecOn with
  | ind n ih =>
    intro o p h
    rcases (show n = 0 ∨ n = 1 ∨ 2 ≤ n by omega) with rfl | rfl | h2
    · rw [treeT_none, treeT_none]
    · rw [treeT_one, treeT_one]
      have := h 0 (by omega)
      rw [Nat.add_zero, Nat.add_zero] at this
      rw [this]
    · have g1 : gh n < n := by unfold gh; omega
      have g2 : n - gh n < n := by unfold gh; omega
      rw [treeT_two _ _ _ h2, treeT_two _ _ _ h2, ih (gh n) g1 (fun i hi => h i (by omega)), ih (n - gh n) g2 (fun i hi => by
        have := h (gh n + i) (by omega)
        rwa [← Nat.add_assoc, ← Nat.add_assoc] at this)]
/-- The roots beside the way up to the root of n from place k, from o on, the lowest first. -/
def pathT (F : Nat → Lf) (o n k : Nat) : List ByteArray :=
  if h : n ≤ 1 then [] else if k < gh n then pathT F o (gh n) k ++ [treeT F (o + gh n) (n - gh n)] else pathT F (o + gh n) (n - gh n) (k - gh n) ++ [treeT F o (gh n)]
termination_by n
decreasing_by
  · unfold gh; omega
  · unfold gh; omega
theorem pathT_one (F : Nat → Lf) (o n k : Nat) (h : n ≤ 1) : pathT F o n k = [] := by rw [pathT, dif_pos h]
theorem pathT_lo (F : Nat → Lf) (o n k : Nat) (h : 2 ≤ n) (hk : k < gh n) : pathT F o n k = pathT F o (gh n) k ++ [treeT F (o + gh n) (n - gh n)] := by rw [pathT, dif_neg (by omega), if_pos hk]
theorem pathT_hi (F : Nat → Lf) (o n k : Nat) (h : 2 ≤ n) (hk : ¬ k < gh n) : pathT F o n k = pathT F (o + gh n) (n - gh n) (k - gh n) ++ [treeT F o (gh n)] := by rw [pathT, dif_neg (by omega), if_neg hk]
/-- How long a proof is. -/
def lenT (n k : Nat) : Nat :=
  if h : n ≤ 1 then 0 else if k < gh n then lenT (gh n) k + 1 else lenT (n - gh n) (k - gh n) + 1
termination_by n
decreasing_by
  · unfold gh; omega
  · unfold gh; omega
theorem lenT_one (n k : Nat) (h : n ≤ 1) : lenT n k = 0 := by rw [lenT, dif_pos h]
theorem lenT_lo (n k : Nat) (h : 2 ≤ n) (hk : k < gh n) : lenT n k = lenT (gh n) k + 1 := by rw [lenT, dif_neg (by omega), if_pos hk]
theorem lenT_hi (n k : Nat) (h : 2 ≤ n) (hk : ¬ k < gh n) : lenT n k = lenT (n - gh n) (k - gh n) + 1 := by rw [lenT, dif_neg (by omega), if_neg hk]
/-- What h at place k of n leads to by the first roots of P. -/
def upT (h : ByteArray) (n k : Nat) (P : Nat → ByteArray) : ByteArray :=
  if _h : n ≤ 1 then h else if k < gh n then nodeT (upT h (gh n) k P) (P (lenT (gh n) k)) else nodeT (P (lenT (n - gh n) (k - gh n))) (upT h (n - gh n) (k - gh n) P)
termination_by n
decreasing_by
  · unfold gh; omega
  · unfold gh; omega
theorem upT_one (h : ByteArray) (n k : Nat) (P : Nat → ByteArray) (hn : n ≤ 1) : upT h n k P = h := by rw [upT, dif_pos hn]
theorem upT_lo (h : ByteArray) (n k : Nat) (P : Nat → ByteArray) (hn : 2 ≤ n) (hk : k < gh n) : upT h n k P = nodeT (upT h (gh n) k P) (P (lenT (gh n) k)) := by rw [upT, dif_neg (by omega), if_pos hk]
theorem upT_hi (h : ByteArray) (n k : Nat) (P : Nat → ByteArray) (hn : 2 ≤ n) (hk : ¬ k < gh n) : upT h n k P = nodeT (P (lenT (n - gh n) (k - gh n))) (upT h (n - gh n) (k - gh n) P) := by rw [upT, dif_neg (by omega), if_neg hk]
theorem gh_pos {n : Nat} (h : 1 ≤ n) : 1 ≤ gh n := by unfold gh; omega
theorem gh_lt {n : Nat} (h : 2 ≤ n) : gh n < n := by unfold gh; omega
theorem pathT_length (F : Nat → Lf) {n : Nat} : ∀ {o k : Nat}, (pathT F o n k).length = lenT n k := by
  induction n using Nat.strongRecOn with
  | ind n ih =>
    intro o k
    rcases (show n ≤ 1 ∨ 2 ≤ n by omega) with h | h
    · rw [pathT_one _ _ _ _ h, lenT_one _ _ h]
      rfl
    · have g1 := gh_lt h
      have g2 := gh_pos (n := n) (by omega)
      by_cases hk : k < gh n
      · rw [pathT_lo _ _ _ _ h hk, lenT_lo _ _ h hk, List.length_append, ih _ g1]
        rfl
      · rw [pathT_hi _ _ _ _ h hk, lenT_hi _ _ h hk, List.length_append, ih _ (by omega)]
        rfl
theorem upT_congr {h : ByteArray} {n : Nat} : ∀ {k : Nat} {P Q : Nat → ByteArray}, (∀ i, i < lenT n k → P i = Q i) → upT h n k P = upT h n k Q := by
  induction n using Nat.strongRecOn with
  | ind n ih =>
    intro k P Q e
    rcases (show n ≤ 1 ∨ 2 ≤ n by omega) with hn | hn
    · rw [upT_one _ _ _ _ hn, upT_one _ _ _ _ hn]
    · have g1 := gh_lt hn
      have g2 := gh_pos (n := n) (by omega)
      by_cases hk : k < gh n
      · rw [lenT_lo _ _ hn hk] at e
        rw [upT_lo _ _ _ _ hn hk, upT_lo _ _ _ _ hn hk, ih _ g1 (fun i hi => e i (by omega)), e _ (by omega)]
      · rw [lenT_hi _ _ hn hk] at e
        rw [upT_hi _ _ _ _ hn hk, upT_hi _ _ _ _ hn hk, ih _ (by omega) (fun i hi => e i (by omega)), e _ (by omega)]
/-- A proof's entries. -/
def entT (L : List ByteArray) (i : Nat) : ByteArray := L.getD i ⟨#[]⟩
theorem entT_app (L : List ByteArray) (x : ByteArray) {i : Nat} (h : i < L.length) : entT (L ++ [x]) i = entT L i := by
  unfold entT
  rw [List.getD_eq_getElem?_getD, List.getD_eq_getElem?_getD, List.getElem?_append_left h]
theorem entT_last (L : List ByteArray) (x : ByteArray) : entT (L ++ [x]) L.length = x := by
  unfold entT
  simp
/-- What is proved of a leaf leads to the root; and with another leaf there to the root of what there is then. -/
theorem up_path (F G : Nat → Lf) {n : Nat} : ∀ {o k : Nat}, k < n → (∀ i, i < n → i ≠ k → F (o + i) = G (o + i)) → upT (leafT (G (o + k))) n k (entT (pathT F o n k)) = treeT G o n := by
  induction n using Nat.strongRecOn with
  | ind n ih =>
    intro o k hk e
    rcases (show n = 1 ∨ 2 ≤ n by omega) with rfl | h
    · obtain rfl : k = 0 := by omega
      rw [upT_one _ _ _ _ (by omega), treeT_one, Nat.add_zero]
    · have g1 := gh_lt h
      have g2 := gh_pos (n := n) (by omega)
      by_cases hl : k < gh n
      · rw [upT_lo _ _ _ _ h hl, pathT_lo _ _ _ _ h hl, treeT_two _ _ _ h]
        have e1 : upT (leafT (G (o + k))) (gh n) k (entT (pathT F o (gh n) k ++ [treeT F (o + gh n) (n - gh n)])) = treeT G o (gh n) := by
          rw [upT_congr (Q := entT (pathT F o (gh n) k)) (fun i hi => entT_app _ _ (by rw [pathT_length]; exact hi))]
          exact ih _ g1 hl (fun i hi hne => e i (by omega) hne)
        rw [e1]
        have e2 := entT_last (pathT F o (gh n) k) (treeT F (o + gh n) (n - gh n))
        rw [pathT_length] at e2
        rw [e2, treeT_congr (F := F) (G := G) (o := o + gh n) (p := o + gh n) (fun i hi => by
          have := e (gh n + i) (by omega) (by omega)
          rwa [← Nat.add_assoc] at this)]
      · rw [upT_hi _ _ _ _ h hl, pathT_hi _ _ _ _ h hl, treeT_two _ _ _ h]
        have e1 : upT (leafT (G (o + k))) (n - gh n) (k - gh n) (entT (pathT F (o + gh n) (n - gh n) (k - gh n) ++ [treeT F o (gh n)])) = treeT G (o + gh n) (n - gh n) := by
          rw [upT_congr (Q := entT (pathT F (o + gh n) (n - gh n) (k - gh n))) (fun i hi => entT_app _ _ (by rw [pathT_length]; exact hi))]
          have := ih (n - gh n) (by omega) (o := o + gh n) (k := k - gh n) (by omega) (fun i hi hne => by
            have := e (gh n + i) (by omega) (by omega)
            rwa [← Nat.add_assoc] at this)
          rwa [show o + gh n + (k - gh n) = o + k from by omega] at this
        rw [e1]
        have e2 := entT_last (pathT F (o + gh n) (n - gh n) (k - gh n)) (treeT F o (gh n))
        rw [pathT_length] at e2
        rw [e2, treeT_congr (F := F) (G := G) (o := o) (p := o) (n := gh n) (fun i hi => e i (by omega) (by omega))]
end Go.Proofs.YtpljdlgjeeikkaaDoor
