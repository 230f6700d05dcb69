/-
  Texts of the proof, joined: Box4.
-/
import Derived.Test.YtedncfcmhaaobaaY01
namespace Go.Proofs.Ytedncfcmhaaobaa
open Go.ChangeShapes Go.WideShapes Go.ChangeAt Go.RowKit
def Box4 (w : World) (q : Nat) (t : TypeId) (x y z m : Value) : Prop := w.rowIs q t 4 (fun i => if i = 0 then x else if i = 1 then y else if i = 2 then z else m)
theorem Box4.c0 {w : World} {b : Nat} {t : TypeId} {x y z m : Value} (h : Box4 w b t x y z m) : w.cell? ⟨b, 0, none⟩ = some x := World.rowIs.cell h (i := 0) (by omega)
theorem Box4.c1 {w : World} {b : Nat} {t : TypeId} {x y z m : Value} (h : Box4 w b t x y z m) : w.cell? ⟨b, 1, none⟩ = some y := World.rowIs.cell h (i := 1) (by omega)
theorem Box4.c2 {w : World} {b : Nat} {t : TypeId} {x y z m : Value} (h : Box4 w b t x y z m) : w.cell? ⟨b, 2, none⟩ = some z := World.rowIs.cell h (i := 2) (by omega)
theorem Box4.c3 {w : World} {b : Nat} {t : TypeId} {x y z m : Value} (h : Box4 w b t x y z m) : w.cell? ⟨b, 3, none⟩ = some m := World.rowIs.cell h (i := 3) (by omega)
theorem Box4.fr {w : World} {b : Nat} {t : TypeId} {x y z m : Value} (h : Box4 w b t x y z m) (i : Nat) : w.frozen? ⟨b, i, none⟩ = false := World.rowIs.frozen h i
theorem Box4.lt {w : World} {b : Nat} {t : TypeId} {x y z m : Value} (h : Box4 w b t x y z m) : b < w.heap.size := World.rowIs.lt h
theorem Box4.ofBlock {w w' : World} {b : Nat} {t : TypeId} {x y z m : Value} (h : Box4 w b t x y z m) (e : w'.heap[b]? = w.heap[b]?) : Box4 w' b t x y z m := World.rowIs.of_block h e
theorem Box4.below {w w' : World} {b : Nat} {t : TypeId} {x y z m : Value} (h : Box4 w b t x y z m) (hb : Below w.heap.size w w') : Box4 w' b t x y z m := h.ofBlock (hb.block b h.lt)
theorem Box4.madeAt {w : World} {b : Nat} (hb : w.heap.size = b) (t : TypeId) (x y z m : Value) : Box4 (w.alloc (.cells #[x, y, z, m] t)) b t x y z m := by
 subst hb
 exact World.rowIs_alloc w #[x, y, z, m] t _ (fun i hi => by
  rcases (show i = 0 ∨ i = 1 ∨ i = 2 ∨ i = 3 by simp at hi; omega) with rfl | rfl | rfl | rfl <;> rfl)
theorem Box4.set0 {w : World} {b : Nat} {t : TypeId} {x y z m : Value} (h : Box4 w b t x y z m) (v : Value) : Box4 (w.setCell ⟨b, 0, none⟩ v) b t v y z m := World.rowIs.congr (World.rowIs.set h 0 v) (fun i hi => by
 rcases (show i = 0 ∨ i = 1 ∨ i = 2 ∨ i = 3 by omega) with rfl | rfl | rfl | rfl <;> rfl)
theorem Box4.set1 {w : World} {b : Nat} {t : TypeId} {x y z m : Value} (h : Box4 w b t x y z m) (v : Value) : Box4 (w.setCell ⟨b, 1, none⟩ v) b t x v z m := World.rowIs.congr (World.rowIs.set h 1 v) (fun i hi => by
 rcases (show i = 0 ∨ i = 1 ∨ i = 2 ∨ i = 3 by omega) with rfl | rfl | rfl | rfl <;> rfl)
theorem Box4.set2 {w : World} {b : Nat} {t : TypeId} {x y z m : Value} (h : Box4 w b t x y z m) (v : Value) : Box4 (w.setCell ⟨b, 2, none⟩ v) b t x y v m := World.rowIs.congr (World.rowIs.set h 2 v) (fun i hi => by
 rcases (show i = 0 ∨ i = 1 ∨ i = 2 ∨ i = 3 by omega) with rfl | rfl | rfl | rfl <;> rfl)
theorem Box4.other {w : World} {b : Nat} {t : TypeId} {x y z m : Value} (h : Box4 w b t x y z m) {a : Addr} (ha : b ≠ a.block) (v : Value) : Box4 (w.setCell a v) b t x y z m := World.rowIs.setOther h ha v
theorem Box4.set3 {w : World} {b : Nat} {t : TypeId} {x y z m : Value} (h : Box4 w b t x y z m) (v : Value) : Box4 (w.setCell ⟨b, 3, none⟩ v) b t x y z v := World.rowIs.congr (World.rowIs.set h 3 v) (fun i hi => by
 rcases (show i = 0 ∨ i = 1 ∨ i = 2 ∨ i = 3 by omega) with rfl | rfl | rfl | rfl <;> rfl)
theorem Box4.alloc {w : World} {b : Nat} {t : TypeId} {x y z m : Value} (h : Box4 w b t x y z m) (o : Obj) : Box4 (w.alloc o) b t x y z m := World.rowIs.alloc h o
end Go.Proofs.Ytedncfcmhaaobaa
