/-
  Contracts of NameOK in the program and in the model, and the walk of the law FnExactNameOK: at any text it returns true and leaves the world as it was.
-/
import Derived.Test.YtgcdoabcopihlaaGreatRows
import Derived.WalkKit
import Derived.ProofKit
import Derived.OpenShut
import Derived.ShutString
namespace Go.Proofs.YtgcdoabcopihlaaGreat
open Go.ChangeShapes Go.WideShapes Go.ChangeAt Go.RowKit

def isL (c : Int) : Bool := decide ((97 ≤ c ∧ c ≤ 122) ∨ (65 ≤ c ∧ c ≤ 90) ∨ c = 95)
def isD (c : Int) : Bool := decide (48 ≤ c ∧ c ≤ 57)
theorem isL_yes {c : Int} (h : (97 ≤ c ∧ c ≤ 122) ∨ (65 ≤ c ∧ c ≤ 90) ∨ c = 95) : isL c = true := by simp only [isL, decide_eq_true_eq]; exact h
theorem isL_no {c : Int} (h : ¬ ((97 ≤ c ∧ c ≤ 122) ∨ (65 ≤ c ∧ c ≤ 90) ∨ c = 95)) : isL c = false := by simp only [isL, decide_eq_false_iff_not]; exact h
theorem isD_yes {c : Int} (h : 48 ≤ c ∧ c ≤ 57) : isD c = true := by simp only [isD, decide_eq_true_eq]; exact h
theorem isD_no {c : Int} (h : ¬ (48 ≤ c ∧ c ≤ 57)) : isD c = false := by simp only [isD, decide_eq_false_iff_not]; exact h
theorem ret_bool {a b : Bool} (h : a = b) : Ending.returned (.bool a) = .returned (.bool b) := by rw [h]
theorem isL_isD {c : Int} (h : isL c = true) : isD c = false := by
  simp only [isL, isD, decide_eq_true_eq, decide_eq_false_iff_not] at *; omega

/-- The ending returns a bool that says whether p. -/
def Says (e : Ending) (p : Prop) : Prop := ∃ b : Bool, e = .returned (.bool b) ∧ (b = true ↔ p)

theorem isLetter_any (c : Int) (w : World) :
    Calls Tryz.prog 101 #[.int .u8 c] w fun e w' => e = .returned (.bool (isL c)) ∧ w' = w := by
  by_cases a : 97 ≤ c
  · have a' : decide (97 ≤ c) = true := by simpa using a
    by_cases b : c ≤ 122
    · have b' : decide (c ≤ 122) = true := by simpa using b
      have H : Hid (isL c = true) := isL_yes (by omega)
      clear a b
      go_enter Tryz.func101, Tryz.ntmps101
      go_wp2
      go_ret
      exact ⟨by rw [H.out]; rfl, rfl⟩
    · have b' : decide (c ≤ 122) = false := by simpa using b
      have c' : decide (65 ≤ c) = true := by simp; omega
      have d' : decide (c ≤ 90) = false := by simp; omega
      have e' : (c == 95) = false := by simp; omega
      have H : Hid (isL c = false) := isL_no (by omega)
      clear a b
      go_enter Tryz.func101, Tryz.ntmps101
      go_wp2
      go_ret
      exact ⟨by rw [H.out]; rfl, rfl⟩
  · have a' : decide (97 ≤ c) = false := by simpa using a
    by_cases b : 65 ≤ c
    · have b' : decide (65 ≤ c) = true := by simpa using b
      by_cases d : c ≤ 90
      · have d' : decide (c ≤ 90) = true := by simpa using d
        have H : Hid (isL c = true) := isL_yes (by omega)
        clear a b d
        go_enter Tryz.func101, Tryz.ntmps101
        go_wp2
        go_ret
        exact ⟨by rw [H.out]; rfl, rfl⟩
      · have d' : decide (c ≤ 90) = false := by simpa using d
        by_cases e : c = 95
        · subst e
          go_enter Tryz.func101, Tryz.ntmps101
          go_wp2
          go_ret
          exact ⟨rfl, rfl⟩
        · have e' : (c == 95) = false := by simp; omega
          have H : Hid (isL c = false) := isL_no (by omega)
          clear a b d e
          go_enter Tryz.func101, Tryz.ntmps101
          go_wp2
          go_ret
          exact ⟨by rw [H.out]; rfl, rfl⟩
    · have b' : decide (65 ≤ c) = false := by simpa using b
      have e' : (c == 95) = false := by simp; omega
      have H : Hid (isL c = false) := isL_no (by omega)
      clear a b
      go_enter Tryz.func101, Tryz.ntmps101
      go_wp2
      go_ret
      exact ⟨by rw [H.out]; rfl, rfl⟩
theorem l00Letter_any (c : Int) (w : World) :
    Calls Tryz.prog 138 #[.int .u8 c] w fun e w' => e = .returned (.bool (isL c)) ∧ w' = w := by
  by_cases a : 97 ≤ c
  · have a' : decide (97 ≤ c) = true := by simpa using a
    by_cases b : c ≤ 122
    · have b' : decide (c ≤ 122) = true := by simpa using b
      have H : Hid (isL c = true) := isL_yes (by omega)
      clear a b
      go_enter Tryz.func138, Tryz.ntmps138
      go_wp2
      go_ret
      exact ⟨by rw [H.out]; rfl, rfl⟩
    · have b' : decide (c ≤ 122) = false := by simpa using b
      have c' : decide (65 ≤ c) = true := by simp; omega
      have d' : decide (c ≤ 90) = false := by simp; omega
      have e' : (c == 95) = false := by simp; omega
      have H : Hid (isL c = false) := isL_no (by omega)
      clear a b
      go_enter Tryz.func138, Tryz.ntmps138
      go_wp2
      go_ret
      exact ⟨by rw [H.out]; rfl, rfl⟩
  · have a' : decide (97 ≤ c) = false := by simpa using a
    by_cases b : 65 ≤ c
    · have b' : decide (65 ≤ c) = true := by simpa using b
      by_cases d : c ≤ 90
      · have d' : decide (c ≤ 90) = true := by simpa using d
        have H : Hid (isL c = true) := isL_yes (by omega)
        clear a b d
        go_enter Tryz.func138, Tryz.ntmps138
        go_wp2
        go_ret
        exact ⟨by rw [H.out]; rfl, rfl⟩
      · have d' : decide (c ≤ 90) = false := by simpa using d
        by_cases e : c = 95
        · subst e
          go_enter Tryz.func138, Tryz.ntmps138
          go_wp2
          go_ret
          exact ⟨rfl, rfl⟩
        · have e' : (c == 95) = false := by simp; omega
          have H : Hid (isL c = false) := isL_no (by omega)
          clear a b d e
          go_enter Tryz.func138, Tryz.ntmps138
          go_wp2
          go_ret
          exact ⟨by rw [H.out]; rfl, rfl⟩
    · have b' : decide (65 ≤ c) = false := by simpa using b
      have e' : (c == 95) = false := by simp; omega
      have H : Hid (isL c = false) := isL_no (by omega)
      clear a b
      go_enter Tryz.func138, Tryz.ntmps138
      go_wp2
      go_ret
      exact ⟨by rw [H.out]; rfl, rfl⟩
theorem isDigit_any (c : Int) (w : World) :
    Calls Tryz.prog 100 #[.int .u8 c] w fun e w' => e = .returned (.bool (isD c)) ∧ w' = w := by
  by_cases a : 48 ≤ c
  · have a' : decide (48 ≤ c) = true := by simpa using a
    have H : Hid (isD c = decide (c ≤ 57)) := by show _ = _; simp [isD, a]
    clear a
    go_enter Tryz.func100, Tryz.ntmps100
    go_wp2
    go_ret
    exact ⟨by rw [H.out]; rfl, rfl⟩
  · have a' : decide (48 ≤ c) = false := by simpa using a
    have H : Hid (isD c = false) := isD_no (by omega)
    clear a
    go_enter Tryz.func100, Tryz.ntmps100
    go_wp2
    go_ret
    exact ⟨by rw [H.out]; rfl, rfl⟩
theorem l00Digit_any (c : Int) (w : World) :
    Calls Tryz.prog 139 #[.int .u8 c] w fun e w' => e = .returned (.bool (isD c)) ∧ w' = w := by
  by_cases a : 48 ≤ c
  · have a' : decide (48 ≤ c) = true := by simpa using a
    have H : Hid (isD c = decide (c ≤ 57)) := by show _ = _; simp [isD, a]
    clear a
    go_enter Tryz.func139, Tryz.ntmps139
    go_wp2
    go_ret
    exact ⟨by rw [H.out]; rfl, rfl⟩
  · have a' : decide (48 ≤ c) = false := by simpa using a
    have H : Hid (isD c = false) := isD_no (by omega)
    clear a
    go_enter Tryz.func139, Tryz.ntmps139
    go_wp2
    go_ret
    exact ⟨by rw [H.out]; rfl, rfl⟩

/-- The byte at a place, as a number; 0 behind the end. -/
def byteAt (s : ByteArray) (i : Nat) : Int := if h : i < s.size then (s[i].toNat : Int) else 0
theorem byteAt_eq (s : ByteArray) (i : Nat) (h : i < s.size) : (s[i].toNat : Int) = byteAt s i := by simp [byteAt, h]
def okc (c : Int) : Bool := isL c || isD c
def Nm (s : ByteArray) : Prop := 1 ≤ s.size ∧ s.size ≤ 40 ∧ isL (byteAt s 0) = true ∧ ∀ j, j < s.size → okc (byteAt s j) = true

theorem implNameOK_any (s : ByteArray) (hs : s.size ≤ maxLen) (w : World) :
    Calls Tryz.prog 67 #[.string s] w fun e w' => Says e (Nm s) ∧ w' = w := by
  unfold maxLen at hs
  by_cases h1 : s.size < 1
  · have g1 : decide ((s.size : Int) < 1) = true := by simp; omega
    have H : Hid (¬ Nm s) := fun h => by have := h.1; omega
    go_enter Tryz.func67, Tryz.ntmps67
    go_wp2
    go_ret
    exact ⟨⟨false, rfl, by simp [H.out]⟩, rfl⟩
  by_cases h2 : 40 < s.size
  · have g1 : decide ((s.size : Int) < 1) = false := by simp; omega
    have g2 : decide (40 < (s.size : Int)) = true := by simp; omega
    have H : Hid (¬ Nm s) := fun h => by have := h.2.1; omega
    go_enter Tryz.func67, Tryz.ntmps67
    go_wp2
    go_ret
    exact ⟨⟨false, rfl, by simp [H.out]⟩, rfl⟩
  have g1 : decide ((s.size : Int) < 1) = false := by simp; omega
  have g2 : decide (40 < (s.size : Int)) = false := by simp; omega
  have g0 : 0 < s.size := by omega
  have e0 := byteAt_eq s 0 g0
  go_enter Tryz.func67, Tryz.ntmps67
  cases hd : isD (byteAt s 0)
  · go_wp2_with (go_at_call 100; refine (isDigit_any _ _).mono ?_; rintro e w' ⟨rfl, rfl⟩)
    go_loop [3, 19] (fun _ i => ∃ k : Nat, k ≤ s.size ∧ i = .int .i64 k ∧ ∀ j, j < k → okc (byteAt s j) = true) (fun _ i => s.size - (intOf i).toNat)
    case atStart => exact ⟨0, Nat.zero_le _, rfl, fun j h => absurd h (by omega)⟩
    case round =>
      obtain ⟨k, hk, rfl, hj⟩ := hrel
      have HJ : Hid (∀ j, j < k → okc (byteAt s j) = true) := hj
      have HD : Hid (isD (byteAt s 0) = false) := hd
      clear hj hd
      by_cases hlt : k < s.size
      · have ek := byteAt_eq s k hlt
        cases hl : isL (byteAt s k)
        · cases hdk : isD (byteAt s k)
          · have H : Hid (¬ Nm s) := fun h => by have := h.2.2.2 k hlt; simp [okc, hl, hdk] at this
            go_wp2_with (first | (go_at_call 100; refine (isDigit_any _ _).mono ?_; rintro e w' ⟨rfl, rfl⟩) | (go_at_call 101; refine (isLetter_any _ _).mono ?_; rintro e w' ⟨rfl, rfl⟩))
            go_ret
            exact ⟨⟨false, rfl, by simp [H.out]⟩, rfl⟩
          · have H : Hid (okc (byteAt s k) = true) := by show _ = _; simp [okc, hdk]
            go_wp2_with (first | (go_at_call 100; refine (isDigit_any _ _).mono ?_; rintro e w' ⟨rfl, rfl⟩) | (go_at_call 101; refine (isLetter_any _ _).mono ?_; rintro e w' ⟨rfl, rfl⟩))
            go_round
            case rel => exact ⟨k + 1, by omega, by go_num, fun j h => by rcases Nat.lt_or_ge j k with g | g; exact HJ.out j g; rw [show j = k from by omega]; exact H.out⟩
            case measure => simp [intOf]; omega
        · have H : Hid (okc (byteAt s k) = true) := by show _ = _; simp [okc, hl]
          go_wp2_with (first | (go_at_call 100; refine (isDigit_any _ _).mono ?_; rintro e w' ⟨rfl, rfl⟩) | (go_at_call 101; refine (isLetter_any _ _).mono ?_; rintro e w' ⟨rfl, rfl⟩))
          go_round
          case rel => exact ⟨k + 1, by omega, by go_num, fun j h => by rcases Nat.lt_or_ge j k with g | g; exact HJ.out j g; rw [show j = k from by omega]; exact H.out⟩
          case measure => simp [intOf]; omega
      · have H : Hid (Nm s) := by
          refine ⟨by omega, by omega, ?_, fun j h => HJ.out j (by omega)⟩
          have h0 := HJ.out 0 (by omega)
          simp only [okc, Bool.or_eq_true] at h0
          rcases h0 with h0 | h0
          · exact h0
          · rw [HD.out] at h0; cases h0
        go_wp2
        go_ret
        exact ⟨⟨true, rfl, by simp [H.out]⟩, rfl⟩
  · have H : Hid (¬ Nm s) := fun h => by have := isL_isD h.2.2.1; rw [hd] at this; cases this
    go_wp2_with (go_at_call 100; refine (isDigit_any _ _).mono ?_; rintro e w' ⟨rfl, rfl⟩)
    go_ret
    exact ⟨⟨false, rfl, by simp [H.out]⟩, rfl⟩
theorem l00Word_any (s : ByteArray) (hs : s.size ≤ maxLen) (w : World) :
    Calls Tryz.prog 117 #[.string s] w fun e w' => Says e (Nm s) ∧ w' = w := by
  unfold maxLen at hs
  by_cases h1 : s.size < 1
  · have g1 : decide ((s.size : Int) < 1) = true := by simp; omega
    have H : Hid (¬ Nm s) := fun h => by have := h.1; omega
    go_enter Tryz.func117, Tryz.ntmps117
    go_wp2
    go_ret
    exact ⟨⟨false, rfl, by simp [H.out]⟩, rfl⟩
  by_cases h2 : 40 < s.size
  · have g1 : decide ((s.size : Int) < 1) = false := by simp; omega
    have g2 : decide (40 < (s.size : Int)) = true := by simp; omega
    have H : Hid (¬ Nm s) := fun h => by have := h.2.1; omega
    go_enter Tryz.func117, Tryz.ntmps117
    go_wp2
    go_ret
    exact ⟨⟨false, rfl, by simp [H.out]⟩, rfl⟩
  have g1 : decide ((s.size : Int) < 1) = false := by simp; omega
  have g2 : decide (40 < (s.size : Int)) = false := by simp; omega
  have g0 : 0 < s.size := by omega
  have e0 := byteAt_eq s 0 g0
  go_enter Tryz.func117, Tryz.ntmps117
  cases hd : isL (byteAt s 0)
  · have H : Hid (¬ Nm s) := fun h => by have := h.2.2.1; rw [hd] at this; cases this
    go_wp2_with (go_at_call 138; refine (l00Letter_any _ _).mono ?_; rintro e w' ⟨rfl, rfl⟩)
    go_ret
    exact ⟨⟨false, rfl, by simp [H.out]⟩, rfl⟩
  · go_wp2_with (go_at_call 138; refine (l00Letter_any _ _).mono ?_; rintro e w' ⟨rfl, rfl⟩)
    go_loop [3] (fun i => ∃ k : Nat, 1 ≤ k ∧ k ≤ s.size ∧ i = .int .i64 k ∧ ∀ j, j < k → okc (byteAt s j) = true) (fun i => s.size - (intOf i).toNat)
    case atStart => exact ⟨1, by omega, by omega, rfl, fun j h => by rw [show j = 0 from by omega]; simp [okc, hd]⟩
    case round =>
      obtain ⟨k, hk1, hk, rfl, hj⟩ := hrel
      have HJ : Hid (∀ j, j < k → okc (byteAt s j) = true) := hj
      have HD : Hid (isL (byteAt s 0) = true) := hd
      clear hj hd
      by_cases hlt : k < s.size
      · have ek := byteAt_eq s k hlt
        cases hl : isL (byteAt s k)
        · cases hdk : isD (byteAt s k)
          · have H : Hid (¬ Nm s) := fun h => by have := h.2.2.2 k hlt; simp [okc, hl, hdk] at this
            go_wp2_with (first | (go_at_call 139; refine (l00Digit_any _ _).mono ?_; rintro e w' ⟨rfl, rfl⟩) | (go_at_call 138; refine (l00Letter_any _ _).mono ?_; rintro e w' ⟨rfl, rfl⟩))
            go_ret
            exact ⟨⟨false, rfl, by simp [H.out]⟩, rfl⟩
          · have H : Hid (okc (byteAt s k) = true) := by show _ = _; simp [okc, hdk]
            go_wp2_with (first | (go_at_call 139; refine (l00Digit_any _ _).mono ?_; rintro e w' ⟨rfl, rfl⟩) | (go_at_call 138; refine (l00Letter_any _ _).mono ?_; rintro e w' ⟨rfl, rfl⟩))
            go_round
            case rel => exact ⟨k + 1, by omega, by omega, by go_num, fun j h => by rcases Nat.lt_or_ge j k with g | g; exact HJ.out j g; rw [show j = k from by omega]; exact H.out⟩
            case measure => simp [intOf]; omega
        · have H : Hid (okc (byteAt s k) = true) := by show _ = _; simp [okc, hl]
          go_wp2_with (first | (go_at_call 139; refine (l00Digit_any _ _).mono ?_; rintro e w' ⟨rfl, rfl⟩) | (go_at_call 138; refine (l00Letter_any _ _).mono ?_; rintro e w' ⟨rfl, rfl⟩))
          go_round
          case rel => exact ⟨k + 1, by omega, by omega, by go_num, fun j h => by rcases Nat.lt_or_ge j k with g | g; exact HJ.out j g; rw [show j = k from by omega]; exact H.out⟩
          case measure => simp [intOf]; omega
      · have H : Hid (Nm s) := ⟨by omega, by omega, HD.out, fun j h => HJ.out j (by omega)⟩
        go_wp2
        go_ret
        exact ⟨⟨true, rfl, by simp [H.out]⟩, rfl⟩
theorem specNameOK_any (s : ByteArray) (hs : s.size ≤ maxLen) (w : World) :
    Calls Tryz.prog 96 #[.string s] w fun e w' => Says e (Nm s) ∧ w' = w := by
  have HS : Hid (s.size ≤ maxLen) := hs
  unfold maxLen at hs
  go_enter Tryz.func96, Tryz.ntmps96
  go_wp2_with (go_at_call 117; refine (l00Word_any s HS.out _).mono ?_; rintro e w' ⟨⟨b, rfl, hb⟩, rfl⟩; have HB : Hid (b = true ↔ Nm s) := hb; clear hb)
  go_ret
  exact ⟨⟨b, rfl, HB.out⟩, rfl⟩
end Go.Proofs.YtgcdoabcopihlaaGreat
