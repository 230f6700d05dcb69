/-
  The model: what is left of a line behind three words (l15Rest).
-/
import Derived.Test.YthebbijbedffpaaDoorRlW
import Derived.Test.YthebbijbedffpaaDoorRlC
namespace Go.Proofs.YthebbijbedffpaaDoor
open Go.ChangeShapes Go.WideShapes Go.ChangeAt Go.RowKit
set_option linter.unusedVariables false
/-- Where the model looks on, behind n words. -/
def kW (s : ByteArray) : Nat → Nat
  | 0 => 0
  | n + 1 => we s (nb s (kW s n))
theorem kW_le (s : ByteArray) : ∀ n, kW s n ≤ s.size
  | 0 => Nat.zero_le _
  | n + 1 => (we_spec s _).2.1 ((nb_spec s _).2.1 (kW_le s n))
theorem kW_nb (s : ByteArray) : ∀ n, nb s (kW s n) = nb s (oW s n) ∨ (s.size ≤ nb s (kW s n) ∧ s.size ≤ nb s (oW s n))
  | 0 => .inl rfl
  | n + 1 => by
    rcases kW_nb s n with h | ⟨h1, h2⟩
    · show nb s (we s (nb s (kW s n))) = nb s (we s (nb s (oW s n)) + 1) ∨ (s.size ≤ nb s (we s (nb s (kW s n))) ∧ s.size ≤ nb s (we s (nb s (oW s n)) + 1))
      rw [← h]
      rcases Nat.lt_or_ge (we s (nb s (kW s n))) s.size with z | z
      · left
        conv => lhs; rw [nb]
        rw [if_pos z, if_pos ((we_spec s _).2.2.2 z)]
      · right
        have a1 := (nb_spec s (we s (nb s (kW s n)))).1
        have a2 := (nb_spec s (we s (nb s (kW s n)) + 1)).1
        omega
    · right
      have b1 := (we_spec s (nb s (kW s n))).1
      have b2 := (we_spec s (nb s (oW s n))).1
      have a1 := (nb_spec s (we s (nb s (kW s n)))).1
      have a2 := (nb_spec s (we s (nb s (oW s n)) + 1)).1
      show s.size ≤ nb s (we s (nb s (kW s n))) ∧ s.size ≤ nb s (we s (nb s (oW s n)) + 1)
      omega
theorem nb_stop {s : ByteArray} {j : Nat} (h : j = s.size ∨ byteAt s j ≠ 32) : nb s j = j := by
  rw [nb]
  split
  · rename_i z
    rcases h with h | h
    · omega
    · rw [if_neg h]
  · rfl
theorem we_stop {s : ByteArray} {j : Nat} (h : j = s.size ∨ byteAt s j = 32) : we s j = j := by
  rw [we]
  split
  · rename_i z
    rcases h with h | h
    · omega
    · rw [if_pos h]
  · rfl
theorem nb_go {s : ByteArray} {j : Nat} (h1 : j < s.size) (h : byteAt s j = 32) : nb s (j + 1) = nb s j := by
  conv => rhs; rw [nb]
  rw [if_pos h1, if_pos h]
theorem we_go {s : ByteArray} {j : Nat} (h1 : j < s.size) (h : byteAt s j ≠ 32) : we s (j + 1) = we s j := by
  conv => rhs; rw [we]
  rw [if_pos h1, if_neg h]
/-- Where the text ends that begins at a. -/
theorem rest_eq {s : ByteArray} {e : Nat} (h1 : nb s (kW s 3) ≤ e) (h2 : e ≤ s.size) (h3 : te s e = te s s.size) (h4 : e = nb s (kW s 3) ∨ byteAt s (e - 1) ≠ 32) : s.extract (nb s (kW s 3)) e = tX s (oW s 3) := by
  unfold tX
  rcases Nat.lt_or_ge (nb s (kW s 3)) s.size with z | z
  · have hb := (nb_spec s (kW s 3)).2.2.2 z
    have hg := te_gt z hb
    have hle := (te_spec s e).1
    have he : te s e = e := by
      rcases h4 with h | h
      · omega
      · exact te_uniq (Nat.le_refl _) (fun i a b => by omega) (fun _ => h)
    rcases kW_nb s 3 with h | ⟨h, _⟩
    · rw [← h, ← h3, he]
    · omega
  · have : s.size ≤ nb s (oW s 3) := by
      rcases kW_nb s 3 with h | ⟨_, h⟩
      · omega
      · exact h
    rw [ext_out (.inl z), ext_out (.inl this)]
set_option maxRecDepth 100000 in
set_option maxHeartbeats 4000000 in
theorem l15Rest_any (s : ByteArray) (hs : s.size ≤ 65536) (w : World) :
    Calls Tryd.prog 39 #[.string s, .int .i64 3] w fun e w' => e = .returned (.string (tX s (oW s 3))) ∧ w' = w := by
  have s1 : (s.size : Int) ≤ 65536 := by omega
  go_enter Tryd.func39, Tryd.ntmps39
  go_wp2
  go_loopw [5, 6] (fun k i wr => ∃ n : Nat, n ≤ 3 ∧ k = .int .i64 (kW s n : Int) ∧ i = .int .i64 (n : Int) ∧ wr = w) (fun _ i _ => 3 - (intOf i).toNat)
  case atStart => exact ⟨0, by omega, rfl, rfl, rfl⟩
  case round =>
    obtain ⟨n, hn, rfl, rfl, hw⟩ := hrel
    have hk := kW_le s n
    have HWr : Hid (wr = w) := hw
    clear hw
    by_cases hle : n < 3
    · have hle' : (n : Int) < 3 := by omega
      go_wp2
      go_loopw [5] (fun k wr2 => ∃ j : Nat, j ≤ s.size ∧ nb s j = nb s (kW s n) ∧ k = .int .i64 (j : Int) ∧ wr2 = w) (fun k _ => s.size - (intOf k).toNat)
      case atStart => exact ⟨kW s n, hk, rfl, rfl, HWr.out⟩
      case round =>
        obtain ⟨j, hj, hnb, rfl, hw2⟩ := hrel
        have HW2 : Hid (wr = w) := hw2
        clear hw2
        by_cases hjs : j < s.size
        · have hjs' : (j : Int) < (s.size : Int) := by omega
          have e0 := byteAt_eq s j hjs
          by_cases hb : byteAt s j = 32
          · have g1 : (byteAt s j == 32) = true := by simpa using hb
            have N2 : Hid (nb s (j + 1) = nb s (kW s n)) := by rw [nb_go hjs hb]; exact hnb
            clear hnb hb
            go_wp2
            go_roundw
            case rel => exact ⟨j + 1, by omega, N2.out, by go_num, HW2.out⟩
            case measure => first | (simp [intOf]; omega) | simp [intOf]
          · have g1 : (byteAt s j == 32) = false := by simpa using hb
            have hj2 := hnb.symm.trans (nb_stop (.inr hb))
            clear hnb hb
            go_wp2
            try clear e0 g1
            clear hjs hjs'
            have hj3 : j ≤ s.size := hj
            go_loopw [5] (fun k wr2 => ∃ j : Nat, j ≤ s.size ∧ we s j = kW s (n + 1) ∧ k = .int .i64 (j : Int) ∧ wr2 = w) (fun k _ => s.size - (intOf k).toNat)
            case atStart => exact ⟨j, hj3, by show _ = we s (nb s (kW s n)); rw [hj2], rfl, HW2.out⟩
            case round =>
              obtain ⟨j, hj, hnb, rfl, hw2⟩ := hrel
              have HW2 : Hid (wr = w) := hw2
              clear hw2
              by_cases hjs : j < s.size
              · have hjs' : (j : Int) < (s.size : Int) := by omega
                have e0 := byteAt_eq s j hjs
                by_cases hb : byteAt s j = 32
                · have g1 : (byteAt s j == 32) = true := by simpa using hb
                  have hj2 := hnb.symm.trans (we_stop (.inr hb))
                  clear hnb hb
                  go_wp2
                  go_roundw
                  case rel => exact ⟨n + 1, by omega, by rw [hj2], by go_num, HW2.out⟩
                  case measure => first | (simp [intOf]; omega) | simp [intOf]
                · have g1 : (byteAt s j == 32) = false := by simpa using hb
                  have N2 : Hid (we s (j + 1) = kW s (n + 1)) := by rw [we_go hjs hb]; exact hnb
                  clear hnb hb
                  go_wp2
                  go_roundw
                  case rel => exact ⟨j + 1, by omega, N2.out, by go_num, HW2.out⟩
                  case measure => first | (simp [intOf]; omega) | simp [intOf]
              · have hjs' : ¬ (j : Int) < (s.size : Int) := by omega
                have hj2 := hnb.symm.trans (we_stop (.inl (by omega)))
                clear hnb
                go_wp2
                go_roundw
                case rel => exact ⟨n + 1, by omega, by rw [hj2], by go_num, HW2.out⟩
                case measure => first | (simp [intOf]; omega) | simp [intOf]
        · have hjs' : ¬ (j : Int) < (s.size : Int) := by omega
          have hj2 := hnb.symm.trans (nb_stop (.inl (by omega)))
          clear hnb
          go_wp2
          try clear e0 g1
          clear hjs hjs'
          have hj3 : j ≤ s.size := hj
          go_loopw [5] (fun k wr2 => ∃ j : Nat, j ≤ s.size ∧ we s j = kW s (n + 1) ∧ k = .int .i64 (j : Int) ∧ wr2 = w) (fun k _ => s.size - (intOf k).toNat)
          case atStart => exact ⟨j, hj3, by show _ = we s (nb s (kW s n)); rw [hj2], rfl, HW2.out⟩
          case round =>
            obtain ⟨j, hj, hnb, rfl, hw2⟩ := hrel
            have HW2 : Hid (wr = w) := hw2
            clear hw2
            by_cases hjs : j < s.size
            · have hjs' : (j : Int) < (s.size : Int) := by omega
              have e0 := byteAt_eq s j hjs
              by_cases hb : byteAt s j = 32
              · have g1 : (byteAt s j == 32) = true := by simpa using hb
                have hj2 := hnb.symm.trans (we_stop (.inr hb))
                clear hnb hb
                go_wp2
                go_roundw
                case rel => exact ⟨n + 1, by omega, by rw [hj2], by go_num, HW2.out⟩
                case measure => first | (simp [intOf]; omega) | simp [intOf]
              · have g1 : (byteAt s j == 32) = false := by simpa using hb
                have N2 : Hid (we s (j + 1) = kW s (n + 1)) := by rw [we_go hjs hb]; exact hnb
                clear hnb hb
                go_wp2
                go_roundw
                case rel => exact ⟨j + 1, by omega, N2.out, by go_num, HW2.out⟩
                case measure => first | (simp [intOf]; omega) | simp [intOf]
            · have hjs' : ¬ (j : Int) < (s.size : Int) := by omega
              have hj2 := hnb.symm.trans (we_stop (.inl (by omega)))
              clear hnb
              go_wp2
              go_roundw
              case rel => exact ⟨n + 1, by omega, by rw [hj2], by go_num, HW2.out⟩
              case measure => first | (simp [intOf]; omega) | simp [intOf]
    · obtain rfl : n = 3 := by omega
      have hle' : ¬ ((3 : Nat) : Int) < 3 := by omega
      clear hle hn
      go_wp2
      go_loopw [5] (fun k wr2 => ∃ j : Nat, j ≤ s.size ∧ nb s j = nb s (kW s 3) ∧ k = .int .i64 (j : Int) ∧ wr2 = w) (fun k _ => s.size - (intOf k).toNat)
      case atStart => exact ⟨kW s 3, hk, rfl, rfl, HWr.out⟩
      case round =>
        obtain ⟨j, hj, hnb, rfl, hw2⟩ := hrel
        have HW2 : Hid (wr = w) := hw2
        clear hw2
        by_cases hjs : j < s.size
        · have hjs' : (j : Int) < (s.size : Int) := by omega
          have e0 := byteAt_eq s j hjs
          by_cases hb : byteAt s j = 32
          · have g1 : (byteAt s j == 32) = true := by simpa using hb
            have N2 : Hid (nb s (j + 1) = nb s (kW s 3)) := by rw [nb_go hjs hb]; exact hnb
            clear hnb hb
            go_wp2
            go_roundw
            case rel => exact ⟨j + 1, by omega, N2.out, by go_num, HW2.out⟩
            case measure => first | (simp [intOf]; omega) | simp [intOf]
          · have g1 : (byteAt s j == 32) = false := by simpa using hb
            have hj2 := hnb.symm.trans (nb_stop (.inr hb))
            clear hnb hb
            go_wp2
            try clear e0 g1
            clear hjs hjs'
            have hA : nb s (kW s 3) = j := hj2
            clear hj2
            go_loopw [7] (fun k wr2 => ∃ e : Nat, e ≤ s.size ∧ nb s (kW s 3) ≤ e ∧ te s e = te s s.size ∧ k = .int .i64 (e : Int) ∧ wr2 = w) (fun k _ => (intOf k).toNat)
            case atStart => exact ⟨s.size, Nat.le_refl _, by omega, rfl, rfl, HW2.out⟩
            case round =>
              obtain ⟨e, he, hge, hte, rfl, hw3⟩ := hrel
              have HW3 : Hid (wr = w) := hw3
              have HG : Hid (nb s (kW s 3) ≤ e) := hge
              clear hw3
              by_cases hej : j < e
              · have hej' : (j : Int) < (e : Int) := by omega
                obtain ⟨f, rfl⟩ : ∃ f, e = f + 1 := ⟨e - 1, by omega⟩
                have e0 := byteAt_eq s f (by omega)
                have ec2 : ((f + 1 : Nat) : Int) - 1 = (f : Int) := by omega
                by_cases hb : byteAt s f = 32
                · have g1 : (byteAt s f == 32) = true := by simpa using hb
                  have N2 : Hid (te s f = te s s.size) := by show _ = _; rw [← hte, te, if_pos hb]
                  clear hte hb
                  go_wp2
                  go_roundw
                  case rel => exact ⟨f, by omega, by omega, N2.out, by go_num, HW3.out⟩
                  case measure => first | (simp [intOf]; omega) | simp [intOf]
                · have g1 : (byteAt s f == 32) = false := by simpa using hb
                  have R : Hid (s.extract (nb s (kW s 3)) (f + 1) = tX s (oW s 3)) := rest_eq HG.out he hte (.inr hb)
                  have q1 : (j : Int) ≤ (f : Int) + 1 := by omega
                  have q2 : (f : Int) + 1 ≤ (s.size : Int) := by omega
                  have q3 : (0 : Int) ≤ (f : Int) + 1 := by omega
                  have q4 : ((f : Int) + 1).toNat = f + 1 := by omega
                  rw [hA] at R
                  clear hte hb
                  go_wp2
                  go_ret
                  exact ⟨by rw [R.out]; rfl, HW3.out⟩
              · have hej' : ¬ (j : Int) < (e : Int) := by omega
                obtain rfl : e = j := by omega
                have R : Hid (s.extract (nb s (kW s 3)) e = tX s (oW s 3)) := rest_eq HG.out he hte (.inl hA.symm)
                rw [hA] at R
                clear hte
                go_wp2
                go_ret
                exact ⟨by rw [← R.out]; simp, HW3.out⟩
        · have hjs' : ¬ (j : Int) < (s.size : Int) := by omega
          have hj2 := hnb.symm.trans (nb_stop (.inl (by omega)))
          clear hnb
          go_wp2
          try clear e0 g1
          clear hjs hjs'
          have hA : nb s (kW s 3) = j := hj2
          clear hj2
          go_loopw [7] (fun k wr2 => ∃ e : Nat, e ≤ s.size ∧ nb s (kW s 3) ≤ e ∧ te s e = te s s.size ∧ k = .int .i64 (e : Int) ∧ wr2 = w) (fun k _ => (intOf k).toNat)
          case atStart => exact ⟨s.size, Nat.le_refl _, by omega, rfl, rfl, HW2.out⟩
          case round =>
            obtain ⟨e, he, hge, hte, rfl, hw3⟩ := hrel
            have HW3 : Hid (wr = w) := hw3
            have HG : Hid (nb s (kW s 3) ≤ e) := hge
            clear hw3
            by_cases hej : j < e
            · have hej' : (j : Int) < (e : Int) := by omega
              obtain ⟨f, rfl⟩ : ∃ f, e = f + 1 := ⟨e - 1, by omega⟩
              have e0 := byteAt_eq s f (by omega)
              have ec2 : ((f + 1 : Nat) : Int) - 1 = (f : Int) := by omega
              by_cases hb : byteAt s f = 32
              · have g1 : (byteAt s f == 32) = true := by simpa using hb
                have N2 : Hid (te s f = te s s.size) := by show _ = _; rw [← hte, te, if_pos hb]
                clear hte hb
                go_wp2
                go_roundw
                case rel => exact ⟨f, by omega, by omega, N2.out, by go_num, HW3.out⟩
                case measure => first | (simp [intOf]; omega) | simp [intOf]
              · have g1 : (byteAt s f == 32) = false := by simpa using hb
                have R : Hid (s.extract (nb s (kW s 3)) (f + 1) = tX s (oW s 3)) := rest_eq HG.out he hte (.inr hb)
                have q1 : (j : Int) ≤ (f : Int) + 1 := by omega
                have q2 : (f : Int) + 1 ≤ (s.size : Int) := by omega
                have q3 : (0 : Int) ≤ (f : Int) + 1 := by omega
                have q4 : ((f : Int) + 1).toNat = f + 1 := by omega
                rw [hA] at R
                clear hte hb
                go_wp2
                go_ret
                exact ⟨by rw [R.out]; rfl, HW3.out⟩
            · have hej' : ¬ (j : Int) < (e : Int) := by omega
              obtain rfl : e = j := by omega
              have R : Hid (s.extract (nb s (kW s 3)) e = tX s (oW s 3)) := rest_eq HG.out he hte (.inl hA.symm)
              rw [hA] at R
              clear hte
              go_wp2
              go_ret
              exact ⟨by rw [← R.out]; simp, HW3.out⟩
end Go.Proofs.YthebbijbedffpaaDoor
