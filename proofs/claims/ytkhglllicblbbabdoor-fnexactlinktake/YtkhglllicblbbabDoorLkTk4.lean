/-
  What LinkTake answers: program and model.
-/
import Derived.Test.YtkhglllicblbbabDoorLkTk3
namespace Go.Proofs.YtkhglllicblbbabDoor
open Go.ChangeShapes Go.WideShapes Go.ChangeAt Go.RowKit
set_option linter.unusedVariables false
/-- What LinkTake answers. -/
def TkA (K : ByteArray) (se tp : Int) (n : Nat) (f : Nat → Bool) (q : Int) (B T : ByteArray) (K' : ByteArray) (se' tp' : Int) (n' : Nat) (f' : Nat → Bool) (code : Int) : Prop :=
  (¬ LkOk K se tp n f ∧ K' = ⟨#[]⟩ ∧ se' = 0 ∧ tp' = 0 ∧ n' = 0 ∧ f' = f ∧ code = 1) ∨
  (LkOk K se tp n f ∧ TkC K tp f q B T code ∧ code ≠ 0 ∧ K' = K ∧ se' = se ∧ tp' = tp ∧ n' = 32 ∧ f' = f) ∨
  (LkOk K se tp n f ∧ TkC K tp f q B T code ∧ code = 0 ∧ K' = K ∧ se' = se ∧ tp' = max tp q ∧ n' = 32 ∧ f' = tkW tp.toNat q.toNat f)
theorem tkA_ex (K : ByteArray) (se tp : Int) (n : Nat) (f : Nat → Bool) (q : Int) (B T : ByteArray) : ∃ K' se' tp' n' f' code, TkA K se tp n f q B T K' se' tp' n' f' code := by
  by_cases h2 : LkOk K se tp n f
  · obtain ⟨code, hc⟩ := tkC_ex K tp f q B T
    by_cases h3 : code = 0
    · exact ⟨_, _, _, _, _, _, .inr (.inr ⟨h2, hc, h3, rfl, rfl, rfl, rfl, rfl⟩)⟩
    · exact ⟨_, _, _, _, _, _, .inr (.inl ⟨h2, hc, h3, rfl, rfl, rfl, rfl, rfl⟩)⟩
  · exact ⟨_, _, _, _, _, _, .inl ⟨h2, rfl, rfl, rfl, rfl, rfl, rfl⟩⟩
theorem TkA.le {K : ByteArray} {se tp : Int} {n : Nat} {f : Nat → Bool} {q : Int} {B T K' : ByteArray} {se' tp' : Int} {n' : Nat} {f' : Nat → Bool} {code : Int} (h : TkA K se tp n f q B T K' se' tp' n' f' code) : n' ≤ 32 := by
  rcases h with ⟨_, _, _, _, rfl, _⟩ | ⟨_, _, _, _, _, _, rfl, _⟩ | ⟨_, _, _, _, _, _, rfl, _⟩ <;> omega
/-- A packet that is taken: its number, and where it stands. -/
theorem tkC_zero {K : ByteArray} {tp : Int} {f : Nat → Bool} {q : Int} {B T : ByteArray} (h : TkC K tp f q B T 0) : (1 ≤ q ∧ q ≤ 1000000) ∧ ptag K B q.toNat = T ∧ ¬ q ≤ tp - 32 ∧ ¬ (q ≤ tp ∧ f (tp - q).toNat = true) := by
  rcases h with ⟨_, h⟩ | ⟨_, _, h⟩ | ⟨_, _, _, h⟩ | ⟨_, _, _, _, _, h⟩ | ⟨h1, h2, h3, h4, _⟩
  · omega
  · omega
  · omega
  · omega
  · exact ⟨h1, h2, h3, h4⟩
theorem implTake_any (K : ByteArray) (se tp : Int) (a : Option Addr) (n c : Nat) (f : Nat → Bool) (q : Int) (B T : ByteArray) (K' : ByteArray) (se' tp' : Int) (n' : Nat) (f' : Nat → Bool) (code : Int) (hA : TkA K se tp n f q B T K' se' tp' n' f' code) (hB : B.size ≤ 1048576) (w : World) (hW : Bools w a n f) (ht : Tabs w) :
    Calls Tryd.prog 19 #[.agg #[.string K, .int .i64 se, .int .i64 tp, .slice a n c], .agg #[.int .i64 q, .string B, .string T]] w fun e w' => RetL w w' e K' se' tp' n' f' code ∧ Below w.heap.size w w' := by
  rcases hA with ⟨h2, rfl, rfl, rfl, rfl, rfl, rfl⟩ | ⟨h2, hc, h3, rfl, rfl, rfl, rfl, rfl⟩ | ⟨h2, hc, rfl, rfl, rfl, rfl, rfl, rfl⟩
  · exact implTake_bad _ _ _ _ _ _ _ _ _ _ h2 w hW
  · obtain rfl : n = 32 := h2.2.2.2.1
    exact implTake_code _ _ _ _ _ _ _ _ _ _ h2 hB hc h3 w hW ht
  · obtain rfl : n = 32 := h2.2.2.2.1
    obtain ⟨hq, -, ho, -⟩ := tkC_zero hc
    have h0 := h2.2.2.1
    obtain ⟨t, rfl⟩ : ∃ t : Nat, tp = (t : Int) := ⟨tp.toNat, by omega⟩
    obtain ⟨x, rfl⟩ : ∃ x : Nat, q = (x : Int) := ⟨q.toNat, by omega⟩
    rw [Int.toNat_natCast, Int.toNat_natCast]
    by_cases hl : x ≤ t
    · rw [show max (t : Int) (x : Int) = (t : Int) from by omega]
      exact implTake_A _ _ _ _ t x _ _ _ h2 hB hc hl (by omega) (by omega) w hW ht
    · rw [show max (t : Int) (x : Int) = (x : Int) from by omega]
      exact implTake_B _ _ _ _ t x _ _ _ h2 hB hc (by omega) (by omega) w hW ht
theorem specTake_any (K : ByteArray) (se tp : Int) (a : Option Addr) (n c : Nat) (f : Nat → Bool) (q : Int) (B T : ByteArray) (K' : ByteArray) (se' tp' : Int) (n' : Nat) (f' : Nat → Bool) (code : Int) (hA : TkA K se tp n f q B T K' se' tp' n' f' code) (hB : B.size ≤ 1048576) (w : World) (hW : Bools w a n f) :
    Calls Tryd.prog 17 #[.agg #[.string K, .int .i64 se, .int .i64 tp, .slice a n c], .agg #[.int .i64 q, .string B, .string T]] w fun e w' => RetL w w' e K' se' tp' n' f' code ∧ Below w.heap.size w w' := by
  rcases hA with ⟨h2, rfl, rfl, rfl, rfl, rfl, rfl⟩ | ⟨h2, hc, h3, rfl, rfl, rfl, rfl, rfl⟩ | ⟨h2, hc, rfl, rfl, rfl, rfl, rfl, rfl⟩
  · exact specTake_bad _ _ _ _ _ _ _ _ _ _ h2 w hW
  · obtain rfl : n = 32 := h2.2.2.2.1
    have h0 := h2.2.2.1
    rcases hc with ⟨g1, rfl⟩ | ⟨g1, g2, rfl⟩ | ⟨g1, g2, g3, rfl⟩ | ⟨g1, g2, g3, g4, g5, rfl⟩ | ⟨_, _, _, _, hz⟩
    · exact specTake_range _ _ _ _ _ _ _ _ _ h2 g1 w hW
    · obtain ⟨x, rfl⟩ : ∃ x : Nat, q = (x : Int) := ⟨q.toNat, by omega⟩
      rw [Int.toNat_natCast] at g2
      exact specTake_sealed _ _ _ (ptag _ _ x) _ _ x _ _ _ h2 hB (by omega) rfl g2 w hW
    · obtain ⟨x, rfl⟩ : ∃ x : Nat, q = (x : Int) := ⟨q.toNat, by omega⟩
      obtain ⟨t, rfl⟩ : ∃ t : Nat, tp' = (t : Int) := ⟨tp'.toNat, by omega⟩
      rw [Int.toNat_natCast] at g2
      exact specTake_order _ _ _ _ t x _ _ _ h2 hB (by omega) g2.symm (by omega) w hW
    · obtain ⟨x, rfl⟩ : ∃ x : Nat, q = (x : Int) := ⟨q.toNat, by omega⟩
      obtain ⟨t, rfl⟩ : ∃ t : Nat, tp' = (t : Int) := ⟨tp'.toNat, by omega⟩
      rw [Int.toNat_natCast] at g2
      rw [show ((t : Int) - (x : Int)).toNat = t - x from by omega] at g5
      exact specTake_replay _ _ _ _ t x _ _ _ h2 hB (by omega) g2.symm (by omega) (by omega) g5 w hW
    · exact absurd hz h3
  · obtain rfl : n = 32 := h2.2.2.2.1
    obtain ⟨hq, hg, ho, hf⟩ := tkC_zero hc
    have h0 := h2.2.2.1
    obtain ⟨t, rfl⟩ : ∃ t : Nat, tp = (t : Int) := ⟨tp.toNat, by omega⟩
    obtain ⟨x, rfl⟩ : ∃ x : Nat, q = (x : Int) := ⟨q.toNat, by omega⟩
    rw [Int.toNat_natCast] at hg
    rw [Int.toNat_natCast, Int.toNat_natCast]
    by_cases hl : x ≤ t
    · rw [show max (t : Int) (x : Int) = (t : Int) from by omega]
      have hf2 : f (t - x) = false := by
        have := fun z => hf ⟨by omega, z⟩
        rw [show ((t : Int) - (x : Int)).toNat = t - x from by omega] at this
        simpa using this
      exact specTake_A _ _ _ _ t x _ _ _ h2 hB (by omega) hg.symm (by omega) hl hf2 w hW
    · rw [show max (t : Int) (x : Int) = (x : Int) from by omega]
      exact specTake_B _ _ _ _ t x _ _ _ h2 hB (by omega) hg.symm (by omega) w hW
end Go.Proofs.YtkhglllicblbbabDoor
