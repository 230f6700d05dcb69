/-
  New links: NewLink of the program and of the model.
-/
import Derived.Test.YtkhglllicblbbabDoorWin
import Derived.Test.YtkhglllicblbbabDoorBoolM
namespace Go.Proofs.YtkhglllicblbbabDoor
open Go.ChangeShapes Go.WideShapes Go.ChangeAt Go.RowKit
set_option linter.unusedVariables false
/-- What NewLink answers: a key, how many flags there are, and a code. -/
def NlA (K K' : ByteArray) (n : Nat) (code : Int) : Prop :=
  (65536 < K.size ∧ K' = ⟨#[]⟩ ∧ n = 0 ∧ code = 2) ∨ (K.size ≤ 65536 ∧ K.size ≠ 32 ∧ K' = ⟨#[]⟩ ∧ n = 0 ∧ code = 1) ∨ (K.size = 32 ∧ K' = K ∧ n = 32 ∧ code = 0)
theorem nlA_ex (K : ByteArray) : ∃ K' n code, NlA K K' n code := by
  by_cases h1 : 65536 < K.size
  · exact ⟨_, _, _, .inl ⟨h1, rfl, rfl, rfl⟩⟩
  · by_cases h2 : K.size = 32
    · exact ⟨_, _, _, .inr (.inr ⟨h2, rfl, rfl, rfl⟩)⟩
    · exact ⟨_, _, _, .inr (.inl ⟨by omega, h2, rfl, rfl, rfl⟩)⟩
theorem NlA.le {K K' : ByteArray} {n : Nat} {code : Int} (h : NlA K K' n code) : n ≤ 32 := by
  rcases h with ⟨_, _, rfl, _⟩ | ⟨_, _, _, rfl, _⟩ | ⟨_, _, rfl, _⟩ <;> omega
/-- A link and a code are handed back; its flags lie in a row of the call's own. -/
def RetL (w w' : World) (e : Ending) (K : ByteArray) (se to : Int) (n : Nat) (f : Nat → Bool) (code : Int) : Prop := ∃ a c, e = .returned (.tuple #[.agg #[.string K, .int .i64 se, .int .i64 to, .slice a n c], .int .i64 code]) ∧ OwnB w' w.heap.size a n f
end Go.Proofs.YtkhglllicblbbabDoor
