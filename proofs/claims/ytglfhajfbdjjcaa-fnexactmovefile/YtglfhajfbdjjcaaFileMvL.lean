/-
  Moves of files by the model: the mathematics of its two lists.
-/
import Derived.Test.YtglfhajfbdjjcaaFileMvI
namespace Go.Proofs.Ytglfhajfbdjjcaa
open Go.ChangeShapes Go.WideShapes Go.ChangeAt Go.RowKit
set_option linter.unusedVariables false
open Classical in
/-- The places of files that stay, of the first i. -/
noncomputable def kpL (F : Nat → Fi) (fr tp : ByteArray) : Nat → List Nat
  | 0 => []
  | i + 1 => kpL F fr tp i ++ (if ¬ Mvd fr (F i).p ∧ (F i).p ≠ tp then [i] else [])
open Classical in
/-- The places of files that are moved, of the first i. -/
noncomputable def mvL (F : Nat → Fi) (fr : ByteArray) : Nat → List Nat
  | 0 => []
  | i + 1 => mvL F fr i ++ (if Mvd fr (F i).p then [i] else [])
theorem kpL_yes {F : Nat → Fi} {fr tp : ByteArray} {i : Nat} (h : ¬ Mvd fr (F i).p) (e : (F i).p ≠ tp) : kpL F fr tp (i + 1) = kpL F fr tp i ++ [i] := by rw [kpL, if_pos ⟨h, e⟩]
theorem kpL_mv {F : Nat → Fi} {fr tp : ByteArray} {i : Nat} (h : Mvd fr (F i).p) : kpL F fr tp (i + 1) = kpL F fr tp i := by rw [kpL, if_neg (fun q => q.1 h), List.append_nil]
theorem kpL_to {F : Nat → Fi} {fr tp : ByteArray} {i : Nat} (e : (F i).p = tp) : kpL F fr tp (i + 1) = kpL F fr tp i := by rw [kpL, if_neg (fun q => q.2 e), List.append_nil]
theorem mvL_yes {F : Nat → Fi} {fr : ByteArray} {i : Nat} (h : Mvd fr (F i).p) : mvL F fr (i + 1) = mvL F fr i ++ [i] := by rw [mvL, if_pos h]
theorem mvL_no {F : Nat → Fi} {fr : ByteArray} {i : Nat} (h : ¬ Mvd fr (F i).p) : mvL F fr (i + 1) = mvL F fr i := by rw [mvL, if_neg h, List.append_nil]
theorem kpL_mem {F : Nat → Fi} {fr tp : ByteArray} {x : Nat} : ∀ {i : Nat}, x ∈ kpL F fr tp i ↔ x < i ∧ ¬ Mvd fr (F x).p ∧ (F x).p ≠ tp
  | 0 => by simp [kpL]
  | i + 1 => by
    rw [kpL, List.mem_append, kpL_mem]
    by_cases h : ¬ Mvd fr (F i).p ∧ (F i).p ≠ tp
    · rw [if_pos h, List.mem_singleton]
      constructor
      · rintro (q | rfl)
        · exact ⟨by omega, q.2⟩
        · exact ⟨by omega, h⟩
      · rintro ⟨q1, q2⟩
        by_cases e : x = i
        · exact .inr e
        · exact .inl ⟨by omega, q2⟩
    · rw [if_neg h]
      constructor
      · rintro (q | q)
        · exact ⟨by omega, q.2⟩
        · cases q
      · rintro ⟨q1, q2⟩
        by_cases e : x = i
        · subst e; exact absurd q2 h
        · exact .inl ⟨by omega, q2⟩
theorem mvL_mem {F : Nat → Fi} {fr : ByteArray} {x : Nat} : ∀ {i : Nat}, x ∈ mvL F fr i ↔ x < i ∧ Mvd fr (F x).p
  | 0 => by simp [mvL]
  | i + 1 => by
    rw [mvL, List.mem_append, mvL_mem]
    by_cases h : Mvd fr (F i).p
    · rw [if_pos h, List.mem_singleton]
      constructor
      · rintro (q | rfl)
        · exact ⟨by omega, q.2⟩
        · exact ⟨by omega, h⟩
      · rintro ⟨q1, q2⟩
        by_cases e : x = i
        · exact .inr e
        · exact .inl ⟨by omega, q2⟩
    · rw [if_neg h]
      constructor
      · rintro (q | q)
        · exact ⟨by omega, q.2⟩
        · cases q
      · rintro ⟨q1, q2⟩
        by_cases e : x = i
        · subst e; exact absurd q2 h
        · exact .inl ⟨by omega, q2⟩
theorem lists_len (F : Nat → Fi) (fr tp : ByteArray) : ∀ i, (kpL F fr tp i).length + (mvL F fr i).length ≤ i
  | 0 => Nat.le_refl _
  | i + 1 => by
    have := lists_len F fr tp i
    by_cases h : Mvd fr (F i).p
    · rw [kpL_mv h, mvL_yes h, List.length_append]; simp; omega
    · rw [mvL_no h]
      by_cases e : (F i).p = tp
      · rw [kpL_to e]; omega
      · rw [kpL_yes h e, List.length_append]; simp; omega
/-- Each list goes up. -/
theorem kpL_up (F : Nat → Fi) (fr tp : ByteArray) : ∀ i, (kpL F fr tp i).Pairwise (· < ·)
  | 0 => List.Pairwise.nil
  | i + 1 => by
    rw [kpL]
    refine List.pairwise_append.2 ⟨kpL_up F fr tp i, by split <;> simp, fun a ha b hb => ?_⟩
    have h1 := (kpL_mem.1 ha).1
    split at hb
    · obtain rfl := List.mem_singleton.1 hb; exact h1
    · cases hb
theorem mvL_up (F : Nat → Fi) (fr : ByteArray) : ∀ i, (mvL F fr i).Pairwise (· < ·)
  | 0 => List.Pairwise.nil
  | i + 1 => by
    rw [mvL]
    refine List.pairwise_append.2 ⟨mvL_up F fr i, by split <;> simp, fun a ha b hb => ?_⟩
    have h1 := (mvL_mem.1 ha).1
    split at hb
    · obtain rfl := List.mem_singleton.1 hb; exact h1
    · cases hb
def nAt (L : List Nat) (r : Nat) : Nat := L.getD r 0
theorem nAt_mem {L : List Nat} {r : Nat} (h : r < L.length) : nAt L r ∈ L := by unfold nAt; simp [h]
theorem nAt_lt {L : List Nat} (h : L.Pairwise (· < ·)) {r s : Nat} (hrs : r < s) (hs : s < L.length) : nAt L r < nAt L s := by
  have := List.pairwise_iff_getElem.1 h r s (by omega) hs hrs
  unfold nAt
  simpa [hs, show r < L.length by omega] using this
theorem nAt_of {L : List Nat} {x : Nat} (h : x ∈ L) : ∃ r, r < L.length ∧ nAt L r = x := by
  obtain ⟨r, hr, e⟩ := List.mem_iff_getElem.1 h
  exact ⟨r, hr, by unfold nAt; simp [hr, e]⟩
theorem nAt_snoc (L : List Nat) (x : Nat) (r : Nat) (h : r < L.length + 1) : nAt (L ++ [x]) r = if r = L.length then x else nAt L r := by
  unfold nAt
  by_cases e : r = L.length
  · subst e; simp
  · rw [if_neg e]
    simp [List.getD_eq_getElem?_getD, List.getElem?_append_left (show r < L.length by omega)]
/-- What has been put so far. -/
def MemP (F : Nat → Fi) (fr tp : ByteArray) (n r : Nat) (y : Fi) : Prop := (∃ x, x ∈ kpL F fr tp n ∧ y = mvF fr tp (F x)) ∨ ∃ s, s < r ∧ y = mvF fr tp (F (nAt (mvL F fr n) s))
structure InvP (F : Nat → Fi) (fr tp : ByteArray) (n r m : Nat) (K : Nat → Fi) : Prop where
  len : m = (kpL F fr tp n).length + r
  src : ∀ i, i < m → MemP F fr tp n r (K i)
  all : ∀ y, MemP F fr tp n r y → ∃ i, i < m ∧ K i = y
  up : Rises (fun i => ord (K i).p) m
theorem mvF_kp {F : Nat → Fi} {fr tp : ByteArray} {n x : Nat} (h : x ∈ kpL F fr tp n) : mvF fr tp (F x) = F x := by
  unfold mvF
  rw [mvT_no (kpL_mem.1 h).2.1]
theorem invP_start {n : Nat} {F : Nat → Fi} {fr tp : ByteArray} (hs : Srt n F) : InvP F fr tp n 0 (kpL F fr tp n).length (fun r => F (nAt (kpL F fr tp n) r)) := by
  refine ⟨rfl, fun i hi => .inl ⟨_, nAt_mem hi, (mvF_kp (nAt_mem hi)).symm⟩, fun y hy => ?_, fun i j hij hj => ?_⟩
  · rcases hy with ⟨x, hx, rfl⟩ | ⟨s, hs', _⟩
    · obtain ⟨r, hr, e⟩ := nAt_of hx
      exact ⟨r, hr, by show F (nAt _ r) = _; rw [e, mvF_kp hx]⟩
    · omega
  · have h1 := nAt_lt (kpL_up F fr tp n) hij hj
    exact hs.up _ _ h1 (kpL_mem.1 (nAt_mem hj)).1
theorem ins_rises {f : Nat → Int} {n k : Nat} {x : Int} (h : Rises f n) (hp : Pos f n x k) (hne : ∀ i, i < n → f i ≠ x) : Rises (insE f k x) (n + 1) := fun i j hij hj => by
  obtain ⟨h1, h2, h3⟩ := hp
  rcases Nat.lt_trichotomy i k with a | a | a
  · rw [insE_lt _ _ a]
    rcases Nat.lt_trichotomy j k with b | b | b
    · rw [insE_lt _ _ b]; exact h i j hij (by omega)
    · subst b; rw [insE_eq]; exact h2 i a
    · rw [insE_gt _ _ b]; exact h i (j - 1) (by omega) (by omega)
  · subst a
    rw [insE_eq, insE_gt _ _ hij]
    have h4 := h3 (j - 1) (by omega) (by omega)
    have h5 := hne (j - 1) (by omega)
    omega
  · rw [insE_gt _ _ a, insE_gt _ _ (by omega)]
    exact h (i - 1) (j - 1) (by omega) (by omega)
/-- One more is put. -/
theorem InvP.put {n : Nat} {F : Nat → Fi} {fr tp : ByteArray} {r m m' : Nat} {K G : Nat → Fi} (h : InvP F fr tp n r m K) (hr : r < (mvL F fr n).length) (hap : ∀ i j, i < n → j < n → (F i).p ≠ tp → (F j).p ≠ tp → mvT fr tp (F i).p = mvT fr tp (F j).p → i = j) (hmt : ∀ j, j < n → Mvd fr (F j).p → (F j).p ≠ tp) (hsh : ∀ j, j < n → (mvT fr tp (F j).p).size ≤ 40)
    (hp : PutIs m K (mvF fr tp (F (nAt (mvL F fr n) r))) m' G) : InvP F fr tp n (r + 1) m' G := by
  obtain ⟨a, ha⟩ : ∃ a, a = nAt (mvL F fr n) r := ⟨_, rfl⟩
  have hma := mvL_mem.1 (ha ▸ nAt_mem hr)
  rw [← ha] at hp
  have hne : ∀ y, MemP F fr tp n r y → y.p ≠ (mvF fr tp (F a)).p := fun y hy e => by
    rcases hy with ⟨x, hx, rfl⟩ | ⟨s, hs, rfl⟩
    · have hm := kpL_mem.1 hx
      have := hap x a hm.1 hma.1 hm.2.2 (hmt a hma.1 hma.2) e
      subst this
      exact hm.2.1 hma.2
    · have hm := mvL_mem.1 (nAt_mem (show s < (mvL F fr n).length by omega))
      have := hap _ a hm.1 hma.1 (hmt _ hm.1 hm.2) (hmt a hma.1 hma.2) e
      have h2 := nAt_lt (mvL_up F fr n) hs hr
      rw [this, ha] at h2
      omega
  have hsz : ∀ y, MemP F fr tp n r y → y.p.size ≤ 40 := fun y hy => by
    rcases hy with ⟨x, hx, rfl⟩ | ⟨s, hs, rfl⟩
    · exact hsh x (kpL_mem.1 hx).1
    · exact hsh _ (mvL_mem.1 (nAt_mem (show s < (mvL F fr n).length by omega))).1
  rcases hp with ⟨k, hk, e, _, _⟩ | ⟨_, rfl, k, hP, hG⟩
  · exact absurd e (hne _ (h.src k hk))
  · have hkm := hP.1
    have hG' : ∀ i, i < m + 1 → G i = insE K k (mvF fr tp (F a)) i := hG
    have hmem : ∀ i, i < m + 1 → G i = mvF fr tp (F a) ∨ ∃ j, j < m ∧ G i = K j := fun i hi => by
      rw [hG' i hi]
      rcases Nat.lt_trichotomy i k with q | q | q
      · rw [insE_lt _ _ q]; exact .inr ⟨i, by omega, rfl⟩
      · subst q; rw [insE_eq]; exact .inl rfl
      · rw [insE_gt _ _ q]; exact .inr ⟨i - 1, by omega, rfl⟩
    refine ⟨by have := h.len; omega, fun i hi => ?_, fun y hy => ?_, ?_⟩
    · rcases hmem i hi with e | ⟨j, hj, e⟩
      · exact .inr ⟨r, by omega, by rw [e, ha]⟩
      · rw [e]
        rcases h.src j hj with q | ⟨s, hs, q⟩
        · exact .inl q
        · exact .inr ⟨s, by omega, q⟩
    · have old : ∀ y, MemP F fr tp n r y → ∃ i, i < m + 1 ∧ G i = y := fun y hy => by
        obtain ⟨j, hj, e⟩ := h.all y hy
        rcases Nat.lt_or_ge j k with q | q
        · exact ⟨j, by omega, by rw [hG' j (by omega), insE_lt _ _ q]; exact e⟩
        · exact ⟨j + 1, by omega, by rw [hG' (j + 1) (by omega), insE_gt _ _ (by omega)]; exact e⟩
      rcases hy with q | ⟨s, hs, q⟩
      · exact old y (.inl q)
      · rcases Nat.lt_or_ge s r with z | z
        · exact old y (.inr ⟨s, z, q⟩)
        · obtain rfl : s = r := by omega
          exact ⟨k, by omega, by rw [hG' k (by omega), insE_eq, q, ha]⟩
    · have h8 : Rises (insE (fun i => ord (K i).p) k (ord (mvF fr tp (F a)).p)) (m + 1) := ins_rises h.up hP (fun i hi e => by
        have h9 := h.src i hi
        exact hne _ h9 (ord_inj (hsz _ h9) (hsh a hma.1) e))
      intro i j hij hj
      have e1 : ∀ i, i < m + 1 → ord (G i).p = insE (fun i => ord (K i).p) k (ord (mvF fr tp (F a)).p) i := fun i hi => by
        rw [hG' i hi]
        unfold insE
        split
        · rfl
        · split <;> rfl
      show ord (G i).p < ord (G j).p
      rw [e1 i (by omega), e1 j hj]
      exact h8 i j hij hj
/-- Behind all. -/
theorem InvP.arr {n : Nat} {F : Nat → Fi} {fr tp : ByteArray} {m : Nat} {K : Nat → Fi} (h : InvP F fr tp n (mvL F fr n).length m K) (hmt : ∀ j, j < n → Mvd fr (F j).p → (F j).p ≠ tp) : ArrM n F fr tp m K := by
  refine ⟨by have := h.len; have := lists_len F fr tp n; omega, fun i hi => ?_, fun j hj hne => h.all _ ?_, h.up⟩
  · rcases h.src i hi with ⟨x, hx, e⟩ | ⟨s, hs, e⟩
    · have hm := kpL_mem.1 hx; exact ⟨x, hm.1, hm.2.2, e⟩
    · have hm := mvL_mem.1 (nAt_mem hs); exact ⟨_, hm.1, hmt _ hm.1 hm.2, e⟩
  · by_cases hm : Mvd fr (F j).p
    · obtain ⟨s, hs, e⟩ := nAt_of (mvL_mem.2 ⟨hj, hm⟩)
      exact .inr ⟨s, hs, by rw [e]⟩
    · exact .inl ⟨j, kpL_mem.2 ⟨hj, hm, hne⟩, rfl⟩
theorem mvd_ne {fr tp p : ByteArray} (h : Mvd fr p) (h1 : fr ≠ tp) (h2 : ¬ HasPre tp (fr ++ ⟨#[47]⟩)) : p ≠ tp := fun e => by
  subst e
  rcases h with q | q
  · exact h1 q.symm
  · exact h2 q
end Go.Proofs.Ytglfhajfbdjjcaa
