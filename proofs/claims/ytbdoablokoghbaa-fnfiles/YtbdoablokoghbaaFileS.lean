/-
  Slices of File: what they hold, and the laws' own helpers on them (written by tools/mkels.py).
-/
import Derived.Test.YtbdoablokoghbaaEls
import Derived.Test.YtbdoablokoghbaaRetCell
import Derived.Deep.RegionWith
namespace Go.Proofs.Ytbdoablokoghbaa
open Go.ChangeShapes Go.WideShapes Go.ChangeAt Go.RowKit
set_option linter.unusedVariables false
structure Fi where
  p : ByteArray
  d : Bool
  t : ByteArray
def fiV (x : Fi) : Nat → Value
  | 0 => .string x.p
  | 1 => .bool x.d
  | _ => .string x.t
/-- The cells of elements. -/
def fiF (FI : Nat → Fi) (i j : Nat) : Value := fiV (FI i) j
def fiZ : Fi := ⟨⟨#[]⟩, false, ⟨#[]⟩⟩
theorem Els.fiC {w : World} {b off n : Nat} {FI : Nat → Fi} (h : ∀ i, i < n → ∀ j, j < 3 → w.cell? ⟨b, off + i * 3 + j, none⟩ = some (fiF FI i j)) (k : Nat) (hk : k < n) : w.cell? ⟨b, off + k * 3, none⟩ = some (.string (FI k).p) ∧ w.cell? ⟨b, off + k * 3 + 1, none⟩ = some (.bool (FI k).d) ∧ w.cell? ⟨b, off + k * 3 + 2, none⟩ = some (.string (FI k).t) := ⟨h k hk 0 (by omega), h k hk 1 (by omega), h k hk 2 (by omega)⟩
theorem RowE.fiC {w : World} {a : Option Addr} {g n : Nat} {FI : Nat → Fi} (h : RowE w 3 a g n (fiF FI)) (k : Nat) (hk : k < n) : w.cell? ⟨g, k * 3, none⟩ = some (.string (FI k).p) ∧ w.cell? ⟨g, k * 3 + 1, none⟩ = some (.bool (FI k).d) ∧ w.cell? ⟨g, k * 3 + 2, none⟩ = some (.string (FI k).t) := ⟨h.c k hk 0 (by omega), h.c k hk 1 (by omega), h.c k hk 2 (by omega)⟩
theorem RowE.fiFr {w : World} {a : Option Addr} {g n : Nat} {F : Nat → Nat → Value} (h : RowE w 3 a g n F) (k : Nat) (hk : k < n) : w.frozen? ⟨g, k * 3, none⟩ = false ∧ w.frozen? ⟨g, k * 3 + 1, none⟩ = false ∧ w.frozen? ⟨g, k * 3 + 2, none⟩ = false := ⟨h.z _ (by omega), h.z _ (by omega), h.z _ (by omega)⟩
theorem RowE.fiPut {w : World} {a : Option Addr} {g n : Nat} {FI : Nat → Fi} (h : RowE w 3 a g n (fiF FI)) (k : Nat) (x : Fi) : RowE (((w.setCell ⟨g, k * 3, none⟩ (.string x.p)).setCell ⟨g, k * 3 + 1, none⟩ (.bool x.d)).setCell ⟨g, k * 3 + 2, none⟩ (.string x.t)) 3 a g n (fiF (fun i => if i = k then x else FI i)) := by
  refine ((((h.set k 0 (by omega) (.string x.p)).set k 1 (by omega) (.bool x.d)).set k 2 (by omega) (.string x.t)) : RowE _ _ _ _ _ _).congr (fun i hi j hj => ?_)
  unfold setF fiF
  by_cases e : i = k
  · subst e
    rcases (show j = 0 ∨ j = 1 ∨ j = 2 by omega) with rfl | rfl | rfl <;> simp [fiV]
  · simp [e]
theorem Try.infoFi : (Try.prog.info? 37).map (fun i => (i.zero, i.size, i.bytes)) = some (some (.agg #[.string ⟨#[]⟩, .bool false, .string ⟨#[]⟩]), 3, 40) := by kernel_rfl
end Go.Proofs.Ytbdoablokoghbaa
