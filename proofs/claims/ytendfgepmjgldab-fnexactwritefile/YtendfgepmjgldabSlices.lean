/-
  Contracts of the library's functions on slices of bytes that the modes call: slices.Clone, math/bits.Mul, slices.Grow.
-/
import Derived.Test.YtendfgepmjgldabByteS
import Derived.OwnWalk
import Derived.Lib.SliceRun
import Derived.Lib.AppendZeros
import Derived.Laws.IdiomCopy
import Derived.LoopN
import Derived.BigRegion
namespace Go.Proofs.Ytendfgepmjgldab
open Go.ChangeShapes Go.WideShapes Go.ChangeAt Go.RowKit
/-- A new slice of n bytes that read as f is handed back. -/
def RetB (w w' : World) (e : Ending) (n : Nat) (f : Nat → Nat) : Prop := ∃ b c, (w.heap.size ≤ b ∧ n ≤ c) ∧ e = .returned (.slice (some ⟨b, 0, none⟩) n c) ∧ Own8 w' b n f
theorem size8 : (Try.prog.info? 5).map (·.size) = some 1 := by kernel_rfl
/-- A new slice of n bytes that read as f is handed back, and something beside it. -/
def RetB2 (w w' : World) (e : Ending) (n : Nat) (f : Nat → Nat) (t : Value) : Prop := ∃ b c, (w.heap.size ≤ b ∧ n ≤ c) ∧ e = .returned (.tuple #[.slice (some ⟨b, 0, none⟩) n c, t]) ∧ Own8 w' b n f
/-- A slice of n bytes of the call's own (any, of none) is handed back, and a code. -/
def RetI (w w' : World) (e : Ending) (n : Nat) (f : Nat → Nat) (code : Int) : Prop := ∃ a c, e = .returned (.tuple #[.slice a n c, .int .i64 code]) ∧ OwnS w' w.heap.size a n f
theorem RetB2.retI {w w' : World} {e : Ending} {n : Nat} {f : Nat → Nat} {code : Int} (h : RetB2 w w' e n f (.int .i64 code)) : RetI w w' e n f code := by
  obtain ⟨b, c, hb, he, ho⟩ := h
  exact ⟨_, c, he, .inr ⟨b, hb.1, rfl, ho⟩⟩
theorem RetI.nil {w w' : World} {f : Nat → Nat} {code : Int} : RetI w w' (.returned (.tuple #[.slice none 0 0, .int .i64 code])) 0 f code := ⟨none, 0, rfl, .inl rfl⟩
theorem RetB2.made (w : World) (f : Nat → Nat) (t : Value) : RetB2 w (w.alloc (.cells #[] 5)) (.returned (.tuple #[.slice (some ⟨w.heap.size, 0, none⟩) 0 0, t])) 0 f t :=
  ⟨_, 0, ⟨Nat.le_refl _, Nat.le_refl _⟩, rfl, 0, fun _ => undef, Nat.le_refl _, World.rowIs_alloc w #[] 5 _ (fun i hi => absurd hi (by simp)), fun i hi => absurd hi (by omega)⟩
end Go.Proofs.Ytendfgepmjgldab
