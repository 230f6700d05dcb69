/-
  Texts of the proof, joined: Slices, PadS, Num.
-/
import Derived.Test.YtpngjkhncfbnpaaDoorV06
import Derived.OwnWalk
import Derived.Lib.SliceRun
import Derived.Lib.AppendZeros
import Derived.Laws.IdiomCopy
import Derived.LoopN
import Derived.BigRegion
import Derived.Test.YtpngjkhncfbnpaaDoorV07
namespace Go.Proofs.YtpngjkhncfbnpaaDoor
open Go.ChangeShapes Go.WideShapes Go.ChangeAt Go.RowKit
end Go.Proofs.YtpngjkhncfbnpaaDoor
namespace Go.Proofs.YtpngjkhncfbnpaaDoor
open Go.ChangeShapes Go.WideShapes Go.ChangeAt Go.RowKit
theorem one_new8 (w : World) (x : Nat) (t : TypeId) : ∀ j u, [Value.int .u8 (x : Nat)][j]? = some u → (w.alloc (.cells #[.int .u8 (x : Nat)] t)).cell? ((⟨w.heap.size, 0, none⟩ : Addr).add j) = some u := fun j u hj => by
  have hj0 : j = 0 := by have := (List.getElem?_eq_some_iff.1 hj).1; simp at this; omega
  subst hj0
  cases hj
  rw [Addr.add_lit]
  simp
theorem one_one8 (x : Nat) : ∀ u ∈ [Value.int .u8 (x : Nat)], u.oneCell' = true := fun u hu => by
  simp at hu
  subst hu
  rfl
end Go.Proofs.YtpngjkhncfbnpaaDoor
namespace Go.Proofs.YtpngjkhncfbnpaaDoor
open Go.ChangeShapes Go.WideShapes Go.ChangeAt Go.RowKit
theorem bv_extN (k r : Nat) (f : Nat → Nat) : bv k f ++ [.int .u8 (r : Nat)] = bv (k + 1) (fun j => if j = k then r else f j) := by
  have e := bv_snoc k (fun j => if j = k then r else f j)
  rw [if_pos rfl, bv_congr (g := f) (fun i hi => if_neg (by omega))] at e
  exact e
end Go.Proofs.YtpngjkhncfbnpaaDoor
