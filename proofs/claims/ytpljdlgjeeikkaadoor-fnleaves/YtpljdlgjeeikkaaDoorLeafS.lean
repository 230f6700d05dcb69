/-
  Slices of Leaf: what they hold, and the laws' own helpers on them (written by tools/mkels.py).
-/
import Derived.Test.YtpljdlgjeeikkaaDoorEls
import Derived.Test.YtpljdlgjeeikkaaDoorRetCell
import Derived.Deep.RegionWith
namespace Go.Proofs.YtpljdlgjeeikkaaDoor
open Go.ChangeShapes Go.WideShapes Go.ChangeAt Go.RowKit
set_option linter.unusedVariables false
structure Lf where
  v : Int
  h : ByteArray
def lfV (x : Lf) : Nat → Value
  | 0 => .int .i64 x.v
  | _ => .string x.h
/-- The cells of elements. -/
def lfF (LF : Nat → Lf) (i j : Nat) : Value := lfV (LF i) j
def lfZ : Lf := ⟨0, ⟨#[]⟩⟩
theorem Els.lfC {w : World} {b off n : Nat} {LF : Nat → Lf} (h : ∀ i, i < n → ∀ j, j < 2 → w.cell? ⟨b, off + i * 2 + j, none⟩ = some (lfF LF i j)) (k : Nat) (hk : k < n) : w.cell? ⟨b, off + k * 2, none⟩ = some (.int .i64 (LF k).v) ∧ w.cell? ⟨b, off + k * 2 + 1, none⟩ = some (.string (LF k).h) := ⟨h k hk 0 (by omega), h k hk 1 (by omega)⟩
theorem RowE.lfC {w : World} {a : Option Addr} {g n : Nat} {LF : Nat → Lf} (h : RowE w 2 a g n (lfF LF)) (k : Nat) (hk : k < n) : w.cell? ⟨g, k * 2, none⟩ = some (.int .i64 (LF k).v) ∧ w.cell? ⟨g, k * 2 + 1, none⟩ = some (.string (LF k).h) := ⟨h.c k hk 0 (by omega), h.c k hk 1 (by omega)⟩
theorem RowE.lfFr {w : World} {a : Option Addr} {g n : Nat} {F : Nat → Nat → Value} (h : RowE w 2 a g n F) (k : Nat) (hk : k < n) : w.frozen? ⟨g, k * 2, none⟩ = false ∧ w.frozen? ⟨g, k * 2 + 1, none⟩ = false := ⟨h.z _ (by omega), h.z _ (by omega)⟩
theorem RowE.lfPut {w : World} {a : Option Addr} {g n : Nat} {LF : Nat → Lf} (h : RowE w 2 a g n (lfF LF)) (k : Nat) (x : Lf) : RowE ((w.setCell ⟨g, k * 2, none⟩ (.int .i64 x.v)).setCell ⟨g, k * 2 + 1, none⟩ (.string x.h)) 2 a g n (lfF (fun i => if i = k then x else LF i)) := by
  refine (((h.set k 0 (by omega) (.int .i64 x.v)).set k 1 (by omega) (.string x.h)) : RowE _ _ _ _ _ _).congr (fun i hi j hj => ?_)
  unfold setF lfF
  by_cases e : i = k
  · subst e
    rcases (show j = 0 ∨ j = 1 by omega) with rfl | rfl <;> simp [lfV]
  · simp [e]
theorem Tryd.infoLf : (Tryd.prog.info? 26).map (fun i => (i.zero, i.size, i.bytes)) = some (some (.agg #[.int .i64 0, .string ⟨#[]⟩]), 2, 24) := by kernel_rfl
end Go.Proofs.YtpljdlgjeeikkaaDoor
