/-
  Contracts of padding: impl's padded, unpaddedSize, PadBlocks, UnpadBlocks.
-/
import Derived.Test.YtbhlgcenfanicaaSlices2
import Derived.Test.YtbhlgcenfanicaaPadMath
namespace Go.Proofs.Ytbhlgcenfanicaa
open Go.ChangeShapes Go.WideShapes Go.ChangeAt Go.RowKit
set_option maxRecDepth 100000 in
set_option maxHeartbeats 1000000 in
/-- impl.padded -/
theorem padded_any (b o n c : Nat) (f : Nat → Nat) (hn : n ≤ 65536) (w : World) (h : Code8 w (some ⟨b, o, none⟩) n f) :
    Calls Try.prog 32 #[.slice (some ⟨b, o, none⟩) n c] w fun e w' => RetB w w' e (n + fillN n) (padF n f) ∧ Below w.heap.size w w' := by
  obtain ⟨p, hp⟩ : ∃ p, p = fillN n := ⟨_, rfl⟩
  have hp1 : 1 ≤ p := by rw [hp]; exact (fillN_bd n).1
  have hp2 : p ≤ 16 := by rw [hp]; exact (fillN_bd n).2
  have e1 : 16 - (n : Int) % 16 = (p : Int) := by rw [hp]; unfold fillN; omega
  have e2 : (p : Int) % 256 = (p : Int) := by omega
  have HP : Hid (padF n f = fun i => if i < n then f i else p) := by rw [hp]; rfl
  have RP : Hid (∀ (b : Nat) (w : World), w.cell? ⟨b, 0, none⟩ = some (.int .u8 (p : Nat)) → Calls Try.prog 58 #[.slice (some ⟨b, 0, none⟩) 1 1, .int .i64 (p : Int)] w fun e w' => RetB w w' e p (fun _ => p) ∧ Below w.heap.size w w') := fun b w h => repeat_any b p p hp1 hp2 w h
  have CC : Hid (∀ (sb b2 c2 : Nat) (w : World), w.cell? ⟨sb, 0, none⟩ = some (.slice (some ⟨b, o, none⟩) n c) → w.cell? ⟨sb, 1, none⟩ = some (.slice (some ⟨b2, 0, none⟩) p c2) → Code8 w (some ⟨b, o, none⟩) n f → Code8 w (some ⟨b2, 0, none⟩) p (fun _ => p) → Calls Try.prog 57 #[.slice (some ⟨sb, 0, none⟩) 2 2] w fun e w' => RetB w w' e (n + p) (fun i => if i < n then f i else p) ∧ Below w.heap.size w w') := fun sb b2 c2 w s1 s2 h1 h2 => concat_any sb b o n c b2 0 p c2 f (fun _ => p) (by omega) hp1 (by omega) w s1 s2 h1 h2
  have HC : Hid (Code8 w (some ⟨b, o, none⟩) n f) := h
  rw [HP.out, ← hp]
  clear h hp HP
  go_enter Try.func32, Try.ntmps32
  go_wp2_with fail
  refine (RP.out _ _ (by simp)).mono ?_
  rintro e w1 ⟨⟨b2, c2, ⟨hb2, hc2⟩, rfl, ho⟩, hB⟩
  have B1 : Hid (Below w.heap.size w w1) := ((Below.refl _ _).alloc (Nat.le_refl _) _).trans (hB.mono (by simp))
  have HO : Hid (Own8 w1 b2 p (fun _ => p)) := ho
  have hsz := B1.out.size
  clear ho hB
  go_wp2_with fail
  refine (CC.out _ b2 c2 _ (by simp) (by simp) ((HC.out.below B1.out).below ((Below.refl _ _).alloc (Nat.le_refl _) _)) (HO.out.alloc _).code).mono ?_
  rintro e w2 ⟨⟨b3, c3, ⟨hb3, hc3⟩, rfl, ho⟩, hB⟩
  have B2 : Hid (Below w.heap.size w w2) := (B1.out.alloc hsz _).trans (hB.mono (by simp; omega))
  have HO2 : Hid (Own8 w2 b3 (n + p) (fun i => if i < n then f i else p)) := ho
  have hb3' : w.heap.size ≤ b3 := by simp at hb3; omega
  clear ho hB hb3
  go_wp2
  go_ret
  exact ⟨⟨_, _, ⟨hb3', hc3⟩, rfl, HO2.out⟩, B2.out⟩
set_option maxRecDepth 100000 in
set_option maxHeartbeats 1000000 in
/-- impl.unpaddedSize of what is not rightly padded -/
theorem unsz_any (a : Option Addr) (n c : Nat) (f : Nat → Nat) (hf : ∀ i, f i < 256) (hn : n ≤ 65536) (hnc : n ≤ c) (w : World) (h : Code8 w a n f) (sz code : Int) (hr : (UnOK n f ∧ sz = ((n - f (n - 1) : Nat) : Int) ∧ code = 0) ∨ (¬ UnOK n f ∧ sz = 0 ∧ code = 3)) :
    Calls Try.prog 36 #[.slice a n c] w fun e w' => e = .returned (.tuple #[.int .i64 sz, .int .i64 code]) ∧ w = w' := by
  by_cases h0 : n = 0
  · subst h0
    have hu : ¬ UnOK 0 f := fun h => by have := h.1; omega
    obtain ⟨rfl, rfl⟩ : sz = 0 ∧ code = 3 := by rcases hr with ⟨h, _⟩ | ⟨_, h⟩; exact absurd h hu; exact h
    go_enter Try.func36, Try.ntmps36
    go_wp2
    go_ret2
    exact ⟨rfl, rfl⟩
  · have e0 : ((n : Int) == 0) = false := by rw [beq_eq_false_iff_ne]; omega
    by_cases h1 : n % 16 = 0
    · obtain ⟨b, o, rfl, hc⟩ := h.opened (by omega)
      have e1 : ((n : Int) % 16 != 0) = false := by rw [bne_eq_false_iff_eq]; omega
      have c1 := hc (n - 1) (by omega)
      have HC : Hid (∀ i, i < n → w.cell? ⟨b, o + i, none⟩ = some (.int .u8 (f i : Nat))) := hc
      have l1 := hf (n - 1)
      have ei : ((n : Int) - 1) = ((n - 1 : Nat) : Int) := by omega
      have x1 : (0 : Int) ≤ ((n - 1 : Nat) : Int) := by omega
      have x2 : ((n - 1 : Nat) : Int) < (n : Int) := by omega
      have HF : Hid (∀ i, f i < 256) := hf
      clear h hc hf
      by_cases h2 : 1 ≤ f (n - 1) ∧ f (n - 1) ≤ 16
      · have HU : Hid ((∀ i, n - f (n - 1) ≤ i → i < n → f i = f (n - 1)) → (sz = ((n - f (n - 1) : Nat) : Int) ∧ code = 0)) := fun hall => by
          rcases hr with ⟨_, h⟩ | ⟨h, _⟩
          · exact h
          · exact absurd ⟨by omega, h1, h2.1, h2.2, hall⟩ h
        have HN : Hid (∀ i, n - f (n - 1) ≤ i → i < n → f i ≠ f (n - 1) → (sz = 0 ∧ code = 3)) := fun i hi1 hi2 hne => by
          rcases hr with ⟨h, _⟩ | ⟨_, h⟩
          · exact absurd (h.2.2.2.2 i hi1 hi2) hne
          · exact h
        obtain ⟨h2a, h2b⟩ := h2
        have z1 : ¬ ((f (n - 1) : Nat) : Int) < 1 := by omega
        have z2 : ¬ (16 : Int) < ((f (n - 1) : Nat) : Int) := by omega
        clear hr
        generalize f (n - 1) = F at *
        have hFn : F ≤ n := by omega
        have hcc : ¬ c = n - F := by omega
        have hci : (n : Int) ≤ (c : Int) := by omega
        have y1 : (0 : Int) ≤ (n : Int) - (F : Int) := by omega
        have y2 : (n : Int) - (F : Int) ≤ (n : Int) := by omega
        have y3 : (n : Int) - ((n : Int) - (F : Int)) = (F : Int) := by omega
        have y4 : ((n : Int) - (F : Int)).toNat = n - F := by omega
        have y5 : n - (n - F) = F := by omega
        go_enter Try.func36, Try.ntmps36
        go_wp2
        go_loop [7, 38] (fun _ i => ∃ k : Nat, k ≤ F ∧ i = .int .i64 k ∧ ∀ j, j < k → f (n - F + j) = F) (fun _ i => F - (intOf i).toNat)
        case atStart => exact ⟨0, by omega, rfl, fun j hj => absurd hj (by omega)⟩
        case round =>
          obtain ⟨k, hk, rfl, hall⟩ := hrel
          have HA : Hid (∀ j, j < k → f (n - F + j) = F) := hall
          clear hall
          by_cases hlt : k < F
          · have c2 := HC.out (n - F + k) (by omega)
            rw [← Nat.add_assoc] at c2
            have g0 : (0 : Int) ≤ (k : Int) := by omega
            have g1 : (k : Int) < (F : Int) := by omega
            by_cases he : f (n - F + k) = F
            · have g2 : (((f (n - F + k) : Nat) : Int) != (F : Int)) = false := by rw [bne_eq_false_iff_eq]; omega
              have HE : Hid (∀ j, j < k + 1 → f (n - F + j) = F) := fun j hj => by
                by_cases ej : j = k
                · rw [ej]; exact he
                · exact HA.out j (by omega)
              clear he
              generalize f (n - F + k) = V at *
              go_wp2
              go_round
              case rel => exact ⟨k + 1, by omega, by go_num, HE.out⟩
              case measure => simp [intOf]; omega
            · have g2 : (((f (n - F + k) : Nat) : Int) != (F : Int)) = true := by rw [bne_iff_ne]; omega
              obtain ⟨rfl, rfl⟩ := HN.out (n - F + k) (by omega) (by omega) he
              clear he
              generalize f (n - F + k) = V at *
              go_wp2
              go_ret2
              exact ⟨rfl, rfl⟩
          · have g1 : ¬ (k : Int) < (F : Int) := by omega
            obtain ⟨rfl, rfl⟩ := HU.out (fun i hi1 hi2 => by
              have := HA.out (i - (n - F)) (by omega)
              rwa [show n - F + (i - (n - F)) = i from by omega] at this)
            have g3 : ((n - F : Nat) : Int) = (n : Int) - (F : Int) := by omega
            go_wp2
            go_ret2
            exact ⟨rfl, rfl⟩
      · obtain ⟨rfl, rfl⟩ : sz = 0 ∧ code = 3 := by
          rcases hr with ⟨h, _⟩ | ⟨_, h⟩
          · exact absurd ⟨h.2.2.1, h.2.2.2.1⟩ h2
          · exact h
        clear hr
        generalize f (n - 1) = F at *
        by_cases h3 : F < 1
        · have z1 : ((F : Nat) : Int) < 1 := by omega
          go_enter Try.func36, Try.ntmps36
          go_wp2
          go_ret2
          exact ⟨rfl, rfl⟩
        · have z1 : ¬ ((F : Nat) : Int) < 1 := by omega
          have z2 : (16 : Int) < ((F : Nat) : Int) := by omega
          go_enter Try.func36, Try.ntmps36
          go_wp2
          go_ret2
          exact ⟨rfl, rfl⟩
    · have hu : ¬ UnOK n f := fun h => h1 h.2.1
      obtain ⟨rfl, rfl⟩ : sz = 0 ∧ code = 3 := by rcases hr with ⟨h, _⟩ | ⟨_, h⟩; exact absurd h hu; exact h
      have e1 : ((n : Int) % 16 != 0) = true := by rw [bne_iff_ne]; omega
      clear hr hu h
      go_enter Try.func36, Try.ntmps36
      go_wp2
      go_ret2
      exact ⟨rfl, rfl⟩
end Go.Proofs.Ytbhlgcenfanicaa
