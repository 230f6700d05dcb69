/-
  The exact law of EqualBytes.
-/
import Derived.Test.YtbajdphiaibmgabEqual
import Derived.Test.YtbajdphiaibmgabOfEqualBytes
namespace Go.Proofs.Ytbajdphiaibmgab
open Go.ChangeShapes Go.WideShapes Go.ChangeAt Go.RowKit
theorem law_equalBytes (a0 a1 : Option Addr) (N0 C0 N1 C1 : Nat) (z0 z1 : List Int) (w : World) (r0 : IsRow .u8 w a0 N0 C0 z0) (r1 : IsRow .u8 w a1 N1 C1 z1) :
    Calls Try.prog 4 #[.slice a0 N0 C0, .slice a1 N1 C1] w fun e w' => e = .returned (.bool true) ∧ Below w.heap.size w w' := by
  by_cases h0 : N0 ≤ 1048576 ∧ N1 ≤ 1048576
  · obtain ⟨h0, h1⟩ := h0
    obtain ⟨f, hf, hc⟩ := code8_of_row r0
    obtain ⟨g, hg, hd⟩ := code8_of_row r1
    by_cases hl : 65536 < N0 ∨ 65536 < N1
    · exact lawEqualBytes_of a0 N0 C0 f a1 N1 C1 g false 2 h0 h1 (fun b0 b1 w _ _ => eqS_long _ _ N0 N1 N0 N1 hl w) (fun b0 b1 w _ _ => eqI_long _ _ N0 N1 N0 N1 hl w) w hc hd
    · by_cases e : N0 = N1
      · subst e
        exact lawEqualBytes_of a0 N0 C0 f a1 N0 C1 g _ 0 h0 h1 (fun b0 b1 w k0 k1 => by
          have := eqS_any (some ⟨b0, 0, none⟩) (some ⟨b1, 0, none⟩) N0 N0 N0 N0 f g hf hg (by omega) (by omega) w k0 k1
          rw [if_pos rfl, Nat.min_self] at this
          exact this) (fun b0 b1 w k0 k1 => eqI_same _ _ N0 N0 N0 f g hf hg (by omega) w k0 k1) w hc hd
      · exact lawEqualBytes_of a0 N0 C0 f a1 N1 C1 g false 0 h0 h1 (fun b0 b1 w k0 k1 => by
          have := eqS_any (some ⟨b0, 0, none⟩) (some ⟨b1, 0, none⟩) N0 N1 N0 N1 f g hf hg (by omega) (by omega) w k0 k1
          have hne : difF f g (if N0 = N1 then 0 else 1) (min N0 N1) ≠ 0 := by
            rw [if_neg e]
            intro h
            exact absurd ((difF_zero _ _ _ _).1 h).1 (by omega)
          have hb : (((difF f g (if N0 = N1 then 0 else 1) (min N0 N1) : Nat) : Int) == 0) = false := by
            rw [beq_eq_false_iff_ne]
            intro h
            exact hne (by omega)
          rw [hb] at this
          exact this) (fun b0 b1 w k0 k1 => eqI_ne _ _ N0 N1 N0 N1 (by omega) (by omega) e w) w hc hd
  · exact lawEqualBytes_big a0 N0 C0 a1 N1 C1 h0 w
end Go.Proofs.Ytbajdphiaibmgab
