/-
  Texts of the proof, joined: SvcJ.
-/
import Derived.Test.YtedncfcmhaaobaaZ17
namespace Go.Proofs.Ytedncfcmhaaobaa
open Go.ChangeShapes Go.WideShapes Go.ChangeAt Go.RowKit
set_option linter.unusedVariables false
def RpO (w : World) (B g n : Nat) (R : Nat → Rp) (V : Nat → Nat) : Prop := (B ≤ g ∧ g < w.heap.size) ∧ RowE w 8 (some ⟨g, 0, none⟩) g n (rpF R (fun j => .slice (some ⟨V j, 0, none⟩) (R j).ne (R j).ne)) ∧ ∀ j, j < n → g < V j ∧ w.rowIs (V j) 3 (R j).ne (fun i => .int .i64 ((R j).E i))
theorem RpO.keep {w w' : World} {B g n : Nat} {R : Nat → Rp} {V : Nat → Nat} (h : RpO w B g n R V) (hs : w.heap.size ≤ w'.heap.size) (hb : ∀ k, B ≤ k → k < w.heap.size → w'.heap[k]? = w.heap[k]?) : RpO w' B g n R V :=
 ⟨⟨h.1.1, Nat.lt_of_lt_of_le h.1.2 hs⟩, RowE.ofBlock h.2.1 (fun _ => hb g h.1.1 h.1.2), fun j hj => ⟨(h.2.2 j hj).1, World.rowIs.of_block (h.2.2 j hj).2 (hb _ (by have := h.1.1; have := (h.2.2 j hj).1; omega) (World.rowIs.lt (h.2.2 j hj).2))⟩⟩
theorem RpO.below {w w' : World} {B g n : Nat} {R : Nat → Rp} {V : Nat → Nat} (h : RpO w B g n R V) (hb : Below w.heap.size w w') : RpO w' B g n R V := h.keep hb.size (fun k _ hk => hb.block k hk)
theorem RpO.v {w : World} {B g n : Nat} {R : Nat → Rp} {V : Nat → Nat} (h : RpO w B g n R V) : RpV w (some ⟨g, 0, none⟩) n R (fun j => some ⟨V j, 0, none⟩) (fun j => (R j).ne) :=
 ⟨h.2.1.els, fun j hj i hi => ⟨V j, 0, rfl, fun q hq => by
  obtain rfl : q = 0 := by omega
  have := World.rowIs.cell (h.2.2 j hj).2 (i := i) hi
  simpa [inF] using this⟩⟩
def WoO (w : World) (B g n : Nat) (R : Nat → Wo) (V : Nat → Nat) : Prop := (B ≤ g ∧ g < w.heap.size) ∧ RowE w 5 (some ⟨g, 0, none⟩) g n (woF R (fun j => .slice (some ⟨V j, 0, none⟩) (R j).ne (R j).ne)) ∧ ∀ j, j < n → g < V j ∧ w.rowIs (V j) 3 (R j).ne (fun i => .int .i64 ((R j).E i))
theorem WoO.keep {w w' : World} {B g n : Nat} {R : Nat → Wo} {V : Nat → Nat} (h : WoO w B g n R V) (hs : w.heap.size ≤ w'.heap.size) (hb : ∀ k, B ≤ k → k < w.heap.size → w'.heap[k]? = w.heap[k]?) : WoO w' B g n R V :=
 ⟨⟨h.1.1, Nat.lt_of_lt_of_le h.1.2 hs⟩, RowE.ofBlock h.2.1 (fun _ => hb g h.1.1 h.1.2), fun j hj => ⟨(h.2.2 j hj).1, World.rowIs.of_block (h.2.2 j hj).2 (hb _ (by have := h.1.1; have := (h.2.2 j hj).1; omega) (World.rowIs.lt (h.2.2 j hj).2))⟩⟩
theorem WoO.below {w w' : World} {B g n : Nat} {R : Nat → Wo} {V : Nat → Nat} (h : WoO w B g n R V) (hb : Below w.heap.size w w') : WoO w' B g n R V := h.keep hb.size (fun k _ hk => hb.block k hk)
theorem WoO.v {w : World} {B g n : Nat} {R : Nat → Wo} {V : Nat → Nat} (h : WoO w B g n R V) : WoV w (some ⟨g, 0, none⟩) n R (fun j => some ⟨V j, 0, none⟩) (fun j => (R j).ne) :=
 ⟨h.2.1.els, fun j hj i hi => ⟨V j, 0, rfl, fun q hq => by
  obtain rfl : q = 0 := by omega
  have := World.rowIs.cell (h.2.2 j hj).2 (i := i) hi
  simpa [inF] using this⟩⟩
def RoO (w : World) (B g n : Nat) (R : Nat → Ro) (V : Nat → Nat) : Prop := (B ≤ g ∧ g < w.heap.size) ∧ RowE w 5 (some ⟨g, 0, none⟩) g n (roF R (fun j => .slice (some ⟨V j, 0, none⟩) (R j).ne (R j).ne)) ∧ ∀ j, j < n → g < V j ∧ w.rowIs (V j) 3 (R j).ne (fun i => .int .i64 ((R j).E i))
theorem RoO.keep {w w' : World} {B g n : Nat} {R : Nat → Ro} {V : Nat → Nat} (h : RoO w B g n R V) (hs : w.heap.size ≤ w'.heap.size) (hb : ∀ k, B ≤ k → k < w.heap.size → w'.heap[k]? = w.heap[k]?) : RoO w' B g n R V :=
 ⟨⟨h.1.1, Nat.lt_of_lt_of_le h.1.2 hs⟩, RowE.ofBlock h.2.1 (fun _ => hb g h.1.1 h.1.2), fun j hj => ⟨(h.2.2 j hj).1, World.rowIs.of_block (h.2.2 j hj).2 (hb _ (by have := h.1.1; have := (h.2.2 j hj).1; omega) (World.rowIs.lt (h.2.2 j hj).2))⟩⟩
theorem RoO.below {w w' : World} {B g n : Nat} {R : Nat → Ro} {V : Nat → Nat} (h : RoO w B g n R V) (hb : Below w.heap.size w w') : RoO w' B g n R V := h.keep hb.size (fun k _ hk => hb.block k hk)
theorem RoO.v {w : World} {B g n : Nat} {R : Nat → Ro} {V : Nat → Nat} (h : RoO w B g n R V) : RoV w (some ⟨g, 0, none⟩) n R (fun j => some ⟨V j, 0, none⟩) (fun j => (R j).ne) :=
 ⟨h.2.1.els, fun j hj i hi => ⟨V j, 0, rfl, fun q hq => by
  obtain rfl : q = 0 := by omega
  have := World.rowIs.cell (h.2.2 j hj).2 (i := i) hi
  simpa [inF] using this⟩⟩
end Go.Proofs.Ytedncfcmhaaobaa
