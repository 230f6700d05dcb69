/-
  The words of a line, in the model (l00Words).
-/
import Derived.Test.YthebbijbedffpaaDoorRlP
import Derived.Test.YthebbijbedffpaaDoorTxE
namespace Go.Proofs.YthebbijbedffpaaDoor
open Go.ChangeShapes Go.WideShapes Go.ChangeAt Go.RowKit
set_option linter.unusedVariables false
/-- Where the j-th word is looked for; where it begins and ends. -/
def oW (s : ByteArray) : Nat → Nat
  | 0 => 0
  | j + 1 => we s (nb s (oW s j)) + 1
def aW (s : ByteArray) (j : Nat) : Nat := nb s (oW s j)
def bW (s : ByteArray) (j : Nat) : Nat := we s (aW s j)
def wT (s : ByteArray) (j : Nat) : ByteArray := s.extract (aW s j) (bW s j)
/-- A line has just so many words. -/
def WdN (s : ByteArray) (q : Nat) : Prop := (∀ j, j < q → aW s j < s.size) ∧ s.size ≤ aW s q
theorem oW_succ (s : ByteArray) (j : Nat) : oW s (j + 1) = bW s j + 1 := rfl
theorem aW_ge (s : ByteArray) (j : Nat) : oW s j ≤ aW s j := (nb_spec s _).1
theorem bW_ge (s : ByteArray) (j : Nat) : aW s j ≤ bW s j := (we_spec s _).1
theorem aW_mono (s : ByteArray) (j : Nat) : aW s j < aW s (j + 1) := by
  have h1 := bW_ge s j
  have h2 := aW_ge s (j + 1)
  rw [oW_succ] at h2
  omega
theorem WdN.uniq {s : ByteArray} {p q : Nat} (h : WdN s p) (g : WdN s q) : p = q := by
  rcases Nat.lt_trichotomy p q with z | z | z
  · have := g.1 p z; have := h.2; omega
  · exact z
  · have := h.1 q z; have := g.2; omega
theorem litPx (w : World) (x : ByteArray) : ∀ j, j < 1 → (w.alloc (.cells #[.string x] 9)).cell? ⟨w.heap.size, 0 + j, none⟩ = some (pxV x j) := fun j hj => by
  obtain rfl : j = 0 := by omega
  simp [pxV]
/-- The words are handed back. -/
def RetWd (B : Nat) (s : ByteArray) (e : Ending) (w : World) : Prop := ∃ (a : Option Addr) (q c : Nat), e = .returned (.slice a q c) ∧ EO w B 9 1 (.slice a q c) q (pxF (wT s)) ∧ WdN s q ∧ q ≤ s.size + 1
set_option maxRecDepth 100000 in
set_option maxHeartbeats 2000000 in
theorem l00Words_any (s : ByteArray) (hs : s.size ≤ 65536) (w : World) :
    Calls Tryd.prog 9 #[.string s] w fun e w' => RetWd w.heap.size s e w' ∧ Below w.heap.size w w' := by
  have A0 : Hid (EO (w.alloc (.cells #[] 9)) w.heap.size 9 1 (.slice (some ⟨w.heap.size, 0, none⟩) 0 0) 0 (pxF (wT s))) := EO.lit w w.heap.size _ 1 (Nat.le_refl _) _
  have B0 : Hid (Below w.heap.size w (w.alloc (.cells #[] 9))) := (Below.refl _ _).alloc (Nat.le_refl _) _
  have s1 : (s.size : Int) ≤ 65536 := by omega
  go_enter Tryd.func9, Tryd.ntmps9
  go_wp2
  go_loopw [3, 4, 5] (fun v f i wr => ∃ (q o k : Nat), o ≤ k ∧ k ≤ s.size + 1 ∧ q ≤ k ∧ f = .int .i64 (o : Int) ∧ i = .int .i64 (k : Int) ∧ EO wr w.heap.size 9 1 v q (pxF (wT s)) ∧ (∀ j, j < q → aW s j < s.size) ∧ ((k ≤ s.size ∧ (∀ j, o ≤ j → j < k → byteAt s j ≠ 32) ∧ aW s q = nb s o) ∨ (k = s.size + 1 ∧ s.size ≤ aW s q)) ∧ Below w.heap.size w wr) (fun _ _ i _ => s.size + 1 - (intOf i).toNat)
  case atStart => exact ⟨0, 0, 0, Nat.le_refl _, by omega, Nat.le_refl _, rfl, rfl, A0.out, fun j hj => absurd hj (Nat.not_lt_zero j), .inl ⟨by omega, fun j h1 h2 => by omega, rfl⟩, B0.out⟩
  case round =>
    obtain ⟨q, o, k, hok, hk, hq, rfl, rfl, ho, hw, hc, hb⟩ := hrel
    obtain ⟨pa, pc, rfl⟩ := ho.form
    have HW : Hid (∀ j, j < q → aW s j < s.size) := hw
    have HO : Hid (EO wr w.heap.size 9 1 (.slice pa q pc) q (pxF (wT s))) := ho
    have HB : Hid (Below w.heap.size w wr) := hb
    have HQ : Hid (q ≤ k) := hq
    have c1 : (0 : Int) ≤ ↑o := by omega
    have c2 : (↑o : Int) ≤ ↑k := by omega
    by_cases hle : k ≤ s.size
    · have hle' : (k : Int) ≤ (s.size : Int) := by omega
      obtain ⟨hn, ha⟩ : (∀ j, o ≤ j → j < k → byteAt s j ≠ 32) ∧ aW s q = nb s o := by
        rcases hc with h | h
        · exact h.2
        · omega
      have HN : Hid (∀ j, o ≤ j → j < k → byteAt s j ≠ 32) := hn
      have HA : Hid (aW s q = nb s o) := ha
      have HL : Hid (k ≤ s.size) := hle
      have HK : Hid (o ≤ k) := hok
      -- behind the end of a word, or of the line
      have FIN : Hid ((k = s.size ∨ byteAt s k = 32) → o < k → aW s q = o ∧ bW s q = k) := fun h hlt => by
        have h1 : nb s o = o := nb_uniq (Nat.le_refl _) (.inr rfl) (fun j h1 h2 => by omega) (fun _ => hn o (Nat.le_refl _) hlt)
        have h2 : aW s q = o := by rw [ha, h1]
        refine ⟨h2, ?_⟩
        unfold bW
        rw [h2]
        exact we_uniq hok (.inl hle) hn (fun hk2 => by
          rcases h with z | z
          · omega
          · exact z) (by omega)
      clear ho hb hc hn ha hok hk hw hq hle
      by_cases hend : k = s.size ∨ byteAt s k = 32
      · have HE : Hid (k = s.size ∨ byteAt s k = 32) := hend
        by_cases hlt : o < k
        · have hlt' : (o : Int) < (k : Int) := by omega
          have HLT : Hid (o < k) := hlt
          have WB : Below wr.heap.size wr (wr.alloc (.cells #[.string (s.extract o k)] 9)) := (Below.refl _ _).alloc (Nat.le_refl _) _
          obtain ⟨v', w', hr, ho2, hg, hloc⟩ := appPx (wr.alloc (.cells #[.string (s.extract o k)] 9)) w.heap.size _ q wr.heap.size (wT s) (s.extract o k) (by have := HB.out.size; simp; omega) (by have := HQ.out; have := HL.out; omega) (HO.out.below WB) (litPx wr _)
          have B2 : Hid (Below w.heap.size w w') := (HB.out.trans (WB.mono HB.out.size)).grown hg (by have := HB.out.size; simp; omega) (fun g e => HO.out.ge g e |>.1)
          have eT : wT s q = s.extract o k := by obtain ⟨x, y⟩ := FIN.out HE.out hlt; unfold wT; rw [x, y]
          have H2 : Hid (EO w' w.heap.size 9 1 v' (q + 1) (pxF (wT s))) := ho2.congr (fun i hi j hj => by
            unfold pxF
            unfold updE
            split
            · rename_i e; rw [e, eT]
            · rfl)
          have N2 : Hid ((∀ j, j < q + 1 → aW s j < s.size) ∧ ((k + 1 ≤ s.size ∧ (∀ j, k + 1 ≤ j → j < k + 1 → byteAt s j ≠ 32) ∧ aW s (q + 1) = nb s (k + 1)) ∨ (k + 1 = s.size + 1 ∧ s.size ≤ aW s (q + 1)))) := by
            obtain ⟨x, y⟩ := FIN.out HE.out hlt
            have e1 : aW s (q + 1) = nb s (k + 1) := by unfold aW; rw [oW_succ, y]
            refine ⟨fun j hj => ?_, ?_⟩
            · rcases Nat.lt_or_ge j q with z | z
              · exact HW.out j z
              · obtain rfl : j = q := by omega
                rw [x]; have := HL.out; omega
            · rcases Nat.lt_or_ge k s.size with z | z
              · exact .inl ⟨by omega, fun j h1 h2 => by omega, e1⟩
              · exact .inr ⟨by have := HL.out; omega, by rw [e1]; have := (nb_spec s (k + 1)).1; omega⟩
          have cs : (k : Int) ≤ (s.size : Int) := hle'
          clear hlt ho2 hg hloc WB eT FIN HN HA HO HB HW
          rcases HE.out with rfl | he
          · have g0 : ((s.size : Int) == (s.size : Int)) = true := by simp
            clear hend
            go_wp2_with (at_builtin; refine Lib.wpList_append_run _ rfl (.tmp 26) (.tmp 31) 32 32 rfl (.slice pa q pc) (.slice (some ⟨wr.heap.size, 0, none⟩) 1 1) rfl rfl _ _ (hr _) ?_)
            go_roundw
            case rel => exact ⟨q + 1, s.size + 1, s.size + 1, Nat.le_refl _, by omega, by have := HQ.out; omega, by go_num, by go_num, H2.out, N2.out.1, N2.out.2, B2.out⟩
            case measure => first | (simp [intOf]; omega) | simp [intOf]
          · rcases Nat.eq_or_lt_of_le HL.out with rfl | hks
            · have g0 : ((s.size : Int) == (s.size : Int)) = true := by simp
              clear hend
              go_wp2_with (at_builtin; refine Lib.wpList_append_run _ rfl (.tmp 26) (.tmp 31) 32 32 rfl (.slice pa q pc) (.slice (some ⟨wr.heap.size, 0, none⟩) 1 1) rfl rfl _ _ (hr _) ?_)
              go_roundw
              case rel => exact ⟨q + 1, s.size + 1, s.size + 1, Nat.le_refl _, by omega, by have := HQ.out; omega, by go_num, by go_num, H2.out, N2.out.1, N2.out.2, B2.out⟩
              case measure => first | (simp [intOf]; omega) | simp [intOf]
            · have g0 : ((k : Int) == (s.size : Int)) = false := by simp; omega
              have e0 := byteAt_eq s k hks
              have g1 : (byteAt s k == 32) = true := by simp [he]
              have hks' : (k : Int) < (s.size : Int) := by omega
              clear hend he
              go_wp2_with (at_builtin; refine Lib.wpList_append_run _ rfl (.tmp 26) (.tmp 31) 32 32 rfl (.slice pa q pc) (.slice (some ⟨wr.heap.size, 0, none⟩) 1 1) rfl rfl _ _ (hr _) ?_)
              go_roundw
              case rel => exact ⟨q + 1, k + 1, k + 1, Nat.le_refl _, by omega, by have := HQ.out; omega, by go_num, by go_num, H2.out, N2.out.1, N2.out.2, B2.out⟩
              case measure => first | (simp [intOf]; omega) | simp [intOf]
        · obtain rfl : o = k := by have := HK.out; omega
          have N2 : Hid ((o + 1 ≤ s.size ∧ (∀ j, o + 1 ≤ j → j < o + 1 → byteAt s j ≠ 32) ∧ aW s q = nb s (o + 1)) ∨ (o + 1 = s.size + 1 ∧ s.size ≤ aW s q)) := by
            rcases Nat.lt_or_ge o s.size with z | z
            · have he : byteAt s o = 32 := by
                rcases HE.out with y | y
                · omega
                · exact y
              exact .inl ⟨by omega, fun j h1 h2 => by omega, by rw [HA.out, nb, if_pos z, if_pos he]⟩
            · exact .inr ⟨by have := HL.out; omega, by rw [HA.out]; have := (nb_spec s o).1; omega⟩
          have hlt' : ¬ (o : Int) < (o : Int) := by omega
          clear hlt FIN HN HA
          rcases Nat.eq_or_lt_of_le HL.out with rfl | hks
          · have g0 : ((s.size : Int) == (s.size : Int)) = true := by simp
            clear hend
            go_wp2
            go_roundw
            case rel => exact ⟨q, s.size + 1, s.size + 1, Nat.le_refl _, by omega, by have := HQ.out; omega, by go_num, by go_num, HO.out, HW.out, N2.out, HB.out⟩
            case measure => first | (simp [intOf]; omega) | simp [intOf]
          · have g0 : ((o : Int) == (s.size : Int)) = false := by simp; omega
            have e0 := byteAt_eq s o hks
            have g1 : (byteAt s o == 32) = true := by
              rcases HE.out with y | y
              · omega
              · simp [y]
            have hks' : (o : Int) < (s.size : Int) := by omega
            clear hend
            go_wp2
            go_roundw
            case rel => exact ⟨q, o + 1, o + 1, Nat.le_refl _, by omega, by have := HQ.out; omega, by go_num, by go_num, HO.out, HW.out, N2.out, HB.out⟩
            case measure => first | (simp [intOf]; omega) | simp [intOf]
      · have hks : k < s.size := by have := HL.out; omega
        have hne : byteAt s k ≠ 32 := fun z => hend (.inr z)
        have g0 : ((k : Int) == (s.size : Int)) = false := by simp; omega
        have e0 := byteAt_eq s k hks
        have g1 : (byteAt s k == 32) = false := by simpa using hne
        have hks' : (k : Int) < (s.size : Int) := by omega
        have N2 : Hid (k + 1 ≤ s.size ∧ (∀ j, o ≤ j → j < k + 1 → byteAt s j ≠ 32) ∧ aW s q = nb s o) := ⟨by omega, fun j h1 h2 => by
          rcases Nat.lt_or_ge j k with z | z
          · exact HN.out j h1 z
          · obtain rfl : j = k := by omega
            exact hne, HA.out⟩
        clear hend hne FIN HN HA
        go_wp2
        go_roundw
        case rel => exact ⟨q, o, k + 1, by have := HK.out; omega, by omega, by have := HQ.out; omega, rfl, by go_num, HO.out, HW.out, .inl N2.out, HB.out⟩
        case measure => first | (simp [intOf]; omega) | simp [intOf]
    · have hle' : ¬ (k : Int) ≤ (s.size : Int) := by omega
      have N2 : Hid (WdN s q ∧ q ≤ s.size + 1) := ⟨⟨hw, by
        rcases hc with h | h
        · omega
        · exact h.2⟩, by omega⟩
      clear ho hb hc hok hk hw hq hle
      go_wp2
      go_ret
      exact ⟨⟨pa, q, pc, rfl, HO.out, N2.out.1, N2.out.2⟩, HB.out⟩
end Go.Proofs.YthebbijbedffpaaDoor
