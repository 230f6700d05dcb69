/-
  What marks leave alone: blocks below one number and from another on. (Disks.)
-/
import Derived.Test.YtgdfhgepbamhmaaDoorDiskTo
import Derived.Test.YtgdfhgepbamhmaaDoorMarkD
namespace Go.Proofs.YtgdfhgepbamhmaaDoor
open Go.ChangeShapes Go.WideShapes Go.ChangeAt Go.RowKit
set_option linter.unusedVariables false
/-- What lies below lo, or from hi on, is as it was. -/
def KeepR (lo hi : Nat) (w w' : World) : Prop := ∀ b, b < w.heap.size → (b < lo ∨ hi ≤ b) → w'.heap[b]? = w.heap[b]?
theorem LtD.mono {d : Dk} {g0 g1 g2 n m : Nat} (h : LtD d g0 g1 g2 n) (q : n ≤ m) : LtD d g0 g1 g2 m := ⟨fun z => Nat.lt_of_lt_of_le (h.1 z) q, fun z => Nat.lt_of_lt_of_le (h.2.1 z) q, fun z => Nat.lt_of_lt_of_le (h.2.2 z) q⟩
theorem GeD.mono {d : Dk} {g0 g1 g2 n m : Nat} (h : GeD d g0 g1 g2 n) (q : m ≤ n) : GeD d g0 g1 g2 m := ⟨fun z => Nat.le_trans q (h.1 z), fun z => Nat.le_trans q (h.2.1 z), fun z => Nat.le_trans q (h.2.2 z)⟩
theorem KeepG.keepR {w w' : World} {d : Dk} {g0 g1 g2 lo hi : Nat} (hk : KeepG w w' d g0 g1 g2) (h0 : GeD d g0 g1 g2 lo) (h1 : LtD d g0 g1 g2 hi) : KeepR lo hi w w' := fun b hb q => hk b hb (fun z => by have := h0.1 z; have := h1.1 z; omega) (fun z => by have := h0.2.1 z; have := h1.2.1 z; omega) (fun z => by have := h0.2.2 z; have := h1.2.2 z; omega)
theorem OnlyB.keepR {g : Nat} {w w' : World} (h : OnlyB g w w') : KeepR g (g + 1) w w' := fun b hb q => h.block b hb (by omega)
theorem RowD.keepR {w w' : World} {d : Dk} {a0 a1 a2 : Option Addr} {g0 g1 g2 lo hi : Nat} (h : RowD w d a0 a1 a2 g0 g1 g2) (hk : KeepR lo hi w w') (q : LtD d g0 g1 g2 lo ∨ GeD d g0 g1 g2 hi) : RowD w' d a0 a1 a2 g0 g1 g2 :=
  h.ofBlocks (fun z => hk _ (h.s0.lt z) (q.imp (fun q => q.1 z) (fun q => q.1 z))) (fun z => hk _ (h.s1.lt z) (q.imp (fun q => q.2.1 z) (fun q => q.2.1 z))) (fun z => hk _ (h.s2.lt z) (q.imp (fun q => q.2.2 z) (fun q => q.2.2 z)))
theorem Box3.keepR {w w' : World} {b lo hi : Nat} {t : TypeId} {x y z : Value} (h : Box3 w b t x y z) (hk : KeepR lo hi w w') (q : b < lo ∨ hi ≤ b) : Box3 w' b t x y z := h.ofBlock (hk b h.lt q)
/-- The rows that toDisk makes are a call's own. -/
theorem rowD_of_rows {w : World} {d : Dk} {g0 g1 g2 : Nat} (h0 : w.rowIs g0 9 d.nb (fun i => .string (d.B i))) (h1 : PenRow w g1 d.nc d.A d.D) (h2 : w.rowIs g2 9 d.ns (fun i => .string (d.S i))) (q0 : g0 < g1) (q1 : g1 < g2) : RowD w d (some ⟨g0, 0, none⟩) (some ⟨g1, 0, none⟩) (some ⟨g2, 0, none⟩) g0 g1 g2 :=
  ⟨RowS.ofRow h0 (Nat.le_refl _) (fun _ _ => rfl), ⟨fun _ => rfl, fun i hi => by rw [World.rowIs.cell h1 (by omega), penC0], fun i hi => by rw [World.rowIs.cell h1 (by omega), penC1], fun i _ => World.rowIs.frozen h1 i⟩, RowS.ofRow h2 (Nat.le_refl _) (fun _ _ => rfl), fun _ _ => by omega, fun _ _ => by omega, fun _ _ => by omega⟩
end Go.Proofs.YtgdfhgepbamhmaaDoor
