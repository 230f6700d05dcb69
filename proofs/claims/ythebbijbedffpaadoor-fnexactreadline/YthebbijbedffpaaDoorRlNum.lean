/-
  Numbers told by digits: what Atoi and Itoa make of a word (mathematics alone).
-/
import Derived.Lib.AtoiAll
import Derived.Lib.ItoaNum
import Derived.Lib.Strings
import Derived.Lib.ItoaMem
namespace Go.Proofs.YthebbijbedffpaaDoor
set_option linter.unusedVariables false
def digB (c : UInt8) : Bool := decide (48 ≤ c.toNat ∧ c.toNat ≤ 57)
def valL (acc : Nat) : List UInt8 → Nat
  | [] => acc
  | c :: r => valL (acc * 10 + (c.toNat - 48)) r
theorem valL_app (l : List UInt8) : ∀ (acc : Nat) (m : List UInt8), valL acc (l ++ m) = valL (valL acc l) m := by
  induction l with
  | nil => intro acc m; rfl
  | cons c r ih => intro acc m; exact ih _ m
theorem valL_snoc (l : List UInt8) (c : UInt8) : valL 0 (l ++ [c]) = valL 0 l * 10 + (c.toNat - 48) := by rw [valL_app]; rfl
theorem valL_ge (l : List UInt8) : ∀ acc, acc ≤ valL acc l := by
  induction l with
  | nil => intro acc; exact Nat.le_refl _
  | cons c r ih => intro acc; have := ih (acc * 10 + (c.toNat - 48)); show acc ≤ valL _ r; omega
/-- Digits, told canonically. -/
def canL (l : List UInt8) : Prop := l.all digB = true ∧ l ≠ [] ∧ (l.length = 1 ∨ l.head? ≠ some 48)
theorem dig_of {c : UInt8} (h : digB c = true) : 48 ≤ c.toNat ∧ c.toNat ≤ 57 := of_decide_eq_true h
theorem valL_pos : ∀ (l : List UInt8), l.all digB = true → l ≠ [] → l.head? ≠ some 48 → 1 ≤ valL 0 l := by
  intro l ha hn hh
  cases l with
  | nil => exact absurd rfl hn
  | cons c r =>
    have hc : digB c = true := by simp at ha; exact ha.1
    have hd := dig_of hc
    have hc48 : c.toNat ≠ 48 := fun e => hh (by show some c = some 48; congr 1; exact UInt8.toNat_inj.1 e)
    have := valL_ge r (0 * 10 + (c.toNat - 48))
    show 1 ≤ valL _ r
    omega
theorem snoc_cases (l : List UInt8) : l = [] ∨ ∃ m c, l = m ++ [c] := by
  rcases List.eq_nil_or_concat l with h | ⟨m, c, h⟩
  · exact .inl h
  · exact .inr ⟨m, c, by rw [h, List.concat_eq_append]⟩
theorem ofNat_dig {c : UInt8} (h : digB c = true) : UInt8.ofNat (48 + (c.toNat - 48)) = c := by
  have := dig_of h
  apply UInt8.toNat_inj.1
  rw [UInt8.toNat_ofNat']
  omega
theorem dec_val : ∀ (n : Nat) (l : List UInt8), l.length = n → canL l → Lib.decDigits (valL 0 l) = l := by
  intro n
  induction n with
  | zero => intro l hl h; exact absurd (List.length_eq_zero_iff.1 hl) h.2.1
  | succ n ih =>
    intro l hl h
    rcases snoc_cases l with rfl | ⟨m, c, rfl⟩
    · exact absurd rfl h.2.1
    · have ha := h.1
      rw [List.all_append, Bool.and_eq_true] at ha
      have hc : digB c = true := by simpa using ha.2
      have hd := dig_of hc
      rw [valL_snoc]
      by_cases hm : m = []
      · subst hm
        show Lib.decDigits (0 * 10 + (c.toNat - 48)) = [c]
        rw [Nat.zero_mul, Nat.zero_add, Lib.decDigits_one (by omega), ofNat_dig hc]
      · have hlen : m.length = n := by simp at hl; exact hl
        have hh : m.head? ≠ some 48 := by
          rcases h.2.2 with q | q
          · simp at q; exact absurd q hm
          · intro e; exact q (by rw [List.head?_append, e]; rfl)
        have hp := valL_pos m ha.1 hm hh
        have hcan : canL m := ⟨ha.1, hm, .inr hh⟩
        rw [Lib.decDigits, dif_neg (by omega)]
        have e1 : (valL 0 m * 10 + (c.toNat - 48)) / 10 = valL 0 m := by omega
        have e2 : (valL 0 m * 10 + (c.toNat - 48)) % 10 = c.toNat - 48 := by omega
        rw [e1, e2, ih m hlen hcan, ofNat_dig hc]
theorem digB_of {k : Nat} (h : k < 10) : digB (UInt8.ofNat (48 + k)) = true ∧ (UInt8.ofNat (48 + k)).toNat = 48 + k := by
  have e : (UInt8.ofNat (48 + k)).toNat = 48 + k := by rw [UInt8.toNat_ofNat']; omega
  exact ⟨decide_eq_true (by rw [e]; omega), e⟩
theorem dec_canon : ∀ (n u : Nat), u ≤ n → canL (Lib.decDigits u) ∧ valL 0 (Lib.decDigits u) = u ∧ (1 ≤ u → (Lib.decDigits u).head? ≠ some 48) := by
  intro n
  induction n with
  | zero =>
    intro u hu
    obtain rfl : u = 0 := by omega
    rw [Lib.decDigits_one (by omega)]
    exact ⟨⟨by decide, by simp, .inl rfl⟩, by decide, fun h => by omega⟩
  | succ n ih =>
    intro u hu
    by_cases h : u < 10
    · rw [Lib.decDigits_one h]
      obtain ⟨d1, d2⟩ := digB_of h
      refine ⟨⟨by rw [List.all_cons, d1]; rfl, by simp, .inl rfl⟩, ?_, fun h1 e => ?_⟩
      · show 0 * 10 + ((UInt8.ofNat (48 + u)).toNat - 48) = u
        rw [d2]; omega
      · have e' : UInt8.ofNat (48 + u) = 48 := Option.some.inj e
        have := congrArg UInt8.toNat e'
        rw [d2] at this
        have h48 : (48 : UInt8).toNat = 48 := rfl
        omega
    · obtain ⟨c1, c2, c3⟩ := ih (u / 10) (by omega)
      have hp := c3 (by omega)
      rw [Lib.decDigits, dif_neg h]
      obtain ⟨d1, d2⟩ := digB_of (Nat.mod_lt u (by omega : 0 < 10))
      have hh : (Lib.decDigits (u / 10) ++ [UInt8.ofNat (48 + u % 10)]).head? ≠ some 48 := by
        rw [List.head?_append]
        cases hx : (Lib.decDigits (u / 10)).head? with
        | none => rw [List.head?_eq_none_iff] at hx; exact absurd hx c1.2.1
        | some x => rw [hx] at hp; exact hp
      refine ⟨⟨by rw [List.all_append, c1.1, List.all_cons, d1]; rfl, by simp, .inr hh⟩, ?_, fun _ => hh⟩
      rw [valL_snoc, c2, d2]
      omega
theorem valL_lt : ∀ (l : List UInt8) (acc k : Nat), l.all digB = true → acc < 10 ^ k → valL acc l < 10 ^ (k + l.length) := by
  intro l
  induction l with
  | nil => intro acc k _ h; exact h
  | cons c r ih =>
    intro acc k ha h
    have hc : digB c = true ∧ r.all digB = true := by simp at ha; exact ⟨ha.1, by simpa using ha.2⟩
    have hd := dig_of hc.1
    have := ih (acc * 10 + (c.toNat - 48)) (k + 1) hc.2 (by rw [Nat.pow_succ]; omega)
    show valL _ r < _
    rw [List.length_cons, show k + (r.length + 1) = k + 1 + r.length from by omega]
    exact this
theorem parse_ok : ∀ (l : List UInt8) (acc k : Nat), l.all digB = true → acc < 10 ^ k → k + l.length ≤ 18 → Lib.parseUint10 acc l = .ok (valL acc l) := by
  intro l
  induction l with
  | nil => intro acc k _ _ _; rfl
  | cons c r ih =>
    intro acc k ha h hk
    have hc : digB c = true ∧ r.all digB = true := by simp at ha; exact ⟨ha.1, by simpa using ha.2⟩
    have hd := dig_of hc.1
    have hk' : k ≤ 17 := by simp at hk; omega
    have hlt : acc < 10 ^ 17 := Nat.lt_of_lt_of_le h (Nat.pow_le_pow_right (by omega) hk')
    have e17 : (10 : Nat) ^ 17 = 100000000000000000 := by decide
    rw [e17] at hlt
    unfold Lib.parseUint10
    rw [if_pos hd, if_neg (by omega), if_neg (by omega)]
    exact ih _ (k + 1) hc.2 (by rw [Nat.pow_succ]; omega) (by simp at hk; omega)
theorem parse_inv : ∀ (l : List UInt8) (acc u : Nat), Lib.parseUint10 acc l = .ok u → l.all digB = true ∧ u = valL acc l := by
  intro l
  induction l with
  | nil => intro acc u h; simp only [Lib.parseUint10] at h; injection h with h; exact ⟨rfl, h.symm⟩
  | cons c r ih =>
    intro acc u h
    simp only [Lib.parseUint10] at h
    split at h
    · rename_i hd
      split at h
      · cases h
      · split at h
        · cases h
        · obtain ⟨h1, h2⟩ := ih _ u h
          exact ⟨by simp [show digB c = true from decide_eq_true hd]; simpa using h1, h2⟩
    · cases h
open Classical in
/-- The number that a word tells, if it tells one canonically and shortly. -/
noncomputable def numL (l : List UInt8) : Option Int :=
  if l.head? = some 45 then (if canL l.tail ∧ l.tail.head? ≠ some 48 ∧ l.tail.length ≤ 18 then some (-(valL 0 l.tail : Int)) else none)
  else (if canL l ∧ l.length ≤ 18 then some (valL 0 l : Int) else none)
theorem trim45 (l : List UInt8) : Lib.trimPrefix l [45] = if l.head? = some 45 then l.tail else l := by
  cases l with
  | nil => rfl
  | cons c r =>
    unfold Lib.trimPrefix Lib.hasPrefix
    by_cases h : c = 45
    · subst h; simp
    · have : ¬ (some c = some (45 : UInt8)) := fun e => h (Option.some.inj e)
      simp [h]
      intro e
      exact absurd e.symm h
theorem all_head {l : List UInt8} (h : l.all digB = true) {c : UInt8} (e : l.head? = some c) : digB c = true := by
  cases l with
  | nil => cases e
  | cons x r =>
    have : x = c := Option.some.inj e
    subst this
    simp at h
    exact h.1
theorem num_atoi {l : List UInt8} {v : Int} (h : numL l = some v) : Lib.atoiAll l = .ok v ∧ Lib.itoa v = l ∧ (Lib.trimPrefix l [45]).length ≤ 18 := by
  rw [trim45]
  unfold numL at h
  have e18 : (10 : Nat) ^ 18 = 1000000000000000000 := by decide
  by_cases h45 : l.head? = some 45
  · rw [if_pos h45] at h ⊢
    split at h
    · rename_i hc
      obtain ⟨hcan, hh, hlen⟩ := hc
      have hv : -(valL 0 l.tail : Int) = v := Option.some.inj h
      obtain ⟨d, rfl⟩ : ∃ d, l = 45 :: d := by
        cases l with
        | nil => cases h45
        | cons x r => exact ⟨r, by rw [Option.some.inj h45]⟩
      have ht : (45 :: d : List UInt8).tail = d := rfl
      rw [ht] at hcan hh hlen hv ⊢
      have hp := valL_pos d hcan.1 hcan.2.1 hh
      have hlt := valL_lt d 0 0 hcan.1 (by decide)
      have hb : valL 0 d < 10 ^ 18 := Nat.lt_of_lt_of_le hlt (Nat.pow_le_pow_right (by omega) (by omega))
      rw [e18] at hb
      refine ⟨?_, ?_, hlen⟩
      · have h1 : Lib.parseMag d = .ok (valL 0 d) := by unfold Lib.parseMag; rw [if_neg hcan.2.1]; exact parse_ok d 0 0 hcan.1 (by decide) (by omega)
        have n45 : (45 : UInt8).toNat = 45 := rfl
        unfold Lib.atoiAll
        simp only [n45]
        rw [if_pos (by simp), h1]
        simp only [not_true_eq_false, false_and, if_false, true_and, if_true]
        rw [if_neg (by omega), hv]
      · rw [← hv, Lib.itoa_neg _ hp, dec_val _ d rfl hcan]
    · cases h
  · rw [if_neg h45] at h ⊢
    split at h
    · rename_i hc
      obtain ⟨hcan, hlen⟩ := hc
      have hv : (valL 0 l : Int) = v := Option.some.inj h
      have hlt := valL_lt l 0 0 hcan.1 (by decide)
      have hb : valL 0 l < 10 ^ 18 := Nat.lt_of_lt_of_le hlt (Nat.pow_le_pow_right (by omega) (by omega))
      rw [e18] at hb
      have h1 : Lib.parseMag l = .ok (valL 0 l) := by unfold Lib.parseMag; rw [if_neg hcan.2.1]; exact parse_ok l 0 0 hcan.1 (by decide) (by omega)
      refine ⟨?_, ?_, hlen⟩
      · cases l with
        | nil => exact absurd rfl hcan.2.1
        | cons c r =>
          have hd := dig_of (all_head hcan.1 (c := c) rfl)
          unfold Lib.atoiAll
          simp only
          rw [if_neg (by omega), h1]
          have n : ¬ c.toNat = 45 := by omega
          simp only [n, not_false_eq_true, true_and, false_and, if_false]
          rw [if_neg (by omega), hv]
      · rw [← hv, Lib.itoa_nonneg, dec_val _ l rfl hcan]
    · cases h
theorem atoi_num {l : List UInt8} {v : Int} (h : Lib.itoa v = l) (hl : (Lib.trimPrefix l [45]).length ≤ 18) : numL l = some v := by
  rw [trim45] at hl
  subst h
  unfold Lib.itoa at *
  by_cases hv : v < 0
  · rw [if_pos hv] at hl ⊢
    replace hl : (Lib.decDigits v.natAbs).length ≤ 18 := by simpa using hl
    obtain ⟨c1, c2, c3⟩ := dec_canon v.natAbs v.natAbs (Nat.le_refl _)
    unfold numL
    rw [if_pos (show (45 :: Lib.decDigits v.natAbs : List UInt8).head? = some 45 from rfl), if_pos (show canL (45 :: Lib.decDigits v.natAbs : List UInt8).tail ∧ (45 :: Lib.decDigits v.natAbs : List UInt8).tail.head? ≠ some 48 ∧ (45 :: Lib.decDigits v.natAbs : List UInt8).tail.length ≤ 18 from ⟨c1, c3 (by omega), hl⟩)]
    show some (-(valL 0 (Lib.decDigits v.natAbs) : Int)) = some v
    rw [c2]
    congr 1
    omega
  · rw [if_neg hv] at hl ⊢
    obtain ⟨c1, c2, c3⟩ := dec_canon v.toNat v.toNat (Nat.le_refl _)
    have hh : (Lib.decDigits v.toNat).head? ≠ some 45 := fun e => by
      have := dig_of (all_head c1.1 e)
      have h45 : (45 : UInt8).toNat = 45 := rfl
      omega
    rw [if_neg hh] at hl
    unfold numL
    rw [if_neg hh, if_pos ⟨c1, hl⟩, c2]
    congr 1
    omega
end Go.Proofs.YthebbijbedffpaaDoor
