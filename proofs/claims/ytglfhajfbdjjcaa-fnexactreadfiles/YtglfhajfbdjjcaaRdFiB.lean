/-
  ReadFiles: both sides at once.
-/
import Derived.Test.YtglfhajfbdjjcaaRdFiS
import Derived.Test.YtglfhajfbdjjcaaByRow
namespace Go.Proofs.Ytglfhajfbdjjcaa
open Go.ChangeShapes Go.WideShapes Go.ChangeAt Go.RowKit
set_option linter.unusedVariables false
theorem rfIs_ex (N : Nat) (f : Nat → Nat) : ∃ (m : Nat) (G : Nat → Fi) (cd : Int), RfIs N f m G cd := by
  by_cases h : 65536 < N
  · exact ⟨0, fiR f, 2, .inl ⟨h, rfl, rfl⟩⟩
  · by_cases g : GoodR N f
    · exact ⟨f 0, fiR f, 0, .inr ⟨h, .inl ⟨g, rfl, rfl, fun _ _ => rfl⟩⟩⟩
    · exact ⟨0, fiR f, 3, .inr ⟨h, .inr ⟨g, rfl, rfl⟩⟩⟩
theorem readFiles_both (n : Nat) (f : Nat → Nat) (hf : ∀ i, f i < 256) (hn : n ≤ 1048576) : ∃ (N : Nat) (EL : Nat → Fi) (cd : Int), N ≤ 13 ∧
    (∀ (g0 : Nat) (w : World), Code8 w (some ⟨g0, 0, none⟩) n f → Calls Try.prog 21 #[.slice (some ⟨g0, 0, none⟩) n n] w fun e w' => (∃ (b : Option Addr) (x g : Nat), e = .returned (.tuple #[.slice b N x, .int .i64 cd]) ∧ RowE w' 3 b g N (fiF EL) ∧ (0 < N → w.heap.size ≤ g ∧ g < w'.heap.size)) ∧ Below w.heap.size w w') ∧
    (∀ (g0 : Nat) (w : World), Code8 w (some ⟨g0, 0, none⟩) n f → Calls Try.prog 23 #[.slice (some ⟨g0, 0, none⟩) n n] w fun e w' => (∃ (b : Option Addr) (x g : Nat), e = .returned (.tuple #[.slice b N x, .int .i64 cd]) ∧ RowE w' 3 b g N (fiF EL) ∧ (0 < N → w.heap.size ≤ g ∧ g < w'.heap.size)) ∧ Below w.heap.size w w') := by
  obtain ⟨N, EL, cd, hM⟩ := rfIs_ex n f
  refine ⟨N, EL, cd, hM.bound, fun g0 w h => (specRf_any _ n n f hf w h).mono ?_, fun g0 w h => (implRf_any _ n n f hf hn (Nat.le_refl _) w h).mono ?_⟩
  · rintro e w' ⟨⟨N', EL', cd', hM', a9, c9, e9, ho⟩, hb⟩
    obtain ⟨rfl, rfl, hEL⟩ := hM'.uniq hM
    obtain ⟨g9, r9, b9⟩ := ho.rowE
    exact ⟨⟨a9, c9, g9, e9, r9.congr (fiF_congr hEL), fun z => ⟨b9 z, r9.lt (by omega) z⟩⟩, hb⟩
  · rintro e w' ⟨⟨N', EL', cd', hM', a9, c9, e9, ho⟩, hb⟩
    obtain ⟨rfl, rfl, hEL⟩ := hM'.uniq hM
    obtain ⟨g9, r9, b9⟩ := ho.rowE
    exact ⟨⟨a9, c9, g9, e9, r9.congr (fiF_congr hEL), fun z => ⟨b9 z, r9.lt (by omega) z⟩⟩, hb⟩
end Go.Proofs.Ytglfhajfbdjjcaa
